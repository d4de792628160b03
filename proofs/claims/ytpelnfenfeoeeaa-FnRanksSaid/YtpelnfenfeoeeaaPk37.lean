/-
  Texts of this seat, joined: ZBRI3c · ZBRI4 · ZBSumMath · ZBDet1 · ZBSpn · ZBPrimL · ZBEchL · ZBRwI · ZBCelA · ZBLatM · ZBWoMath
-/
import Derived.WalkKit
import Derived.Deep.DeepCutAuto
import Derived.IntWalk
import Derived.Test.YtpelnfenfeoeeaaPk34
import Derived.Test.YtpelnfenfeoeeaaPk35
import Derived.Test.YtpelnfenfeoeeaaPk36

section
/-
  Chapter 5, in the program: DoRowOp, kind 2.
-/
namespace Go.Proofs.Ytpelnfenfeoeeaa
set_option maxRecDepth 100000
open Go.RowKit
set_option maxRecDepth 100000 in
set_option maxHeartbeats 1000000 in
theorem iOp_2 (R C I J : Nat) (a : Option Addr) (m : Nat) (t : Int) (xs : List Int) (w : World) (h : Rd w a xs) (hn : xs.length ≤ 16777216) (hm : isMat R C xs = true) (ho : isOp 2 I J t R = true) :
    Calls Try.prog 162 #[.agg #[.int .i64 R, .int .i64 C, .slice a xs.length m], .agg #[.int .i64 2, .int .i64 I, .int .i64 J, .int .i64 t]] w (MatRes (MR.done R C (opL 2 I J t C xs)) w) := by
  obtain ⟨⟨r1, r2⟩, ⟨c1, c2⟩, l1, nx⟩ := isMat_says hm
  obtain ⟨hk, -, ⟨i1, i2⟩, ⟨j1, j2⟩, ht, -⟩ := isOp_says ho
  have hIJ := isOp_rows2 ho
  rw [← Int.natCast_mul] at l1
  have hle : R * C ≤ 24 * 24 := Nat.mul_le_mul (by omega) (by omega)
  have hR : R ≤ 24 := by omega
  have hC : C ≤ 24 := by omega
  have hI : I < R := by omega
  have hJ : J < R := by omega
  have IJ := Lib.hid hIJ
  have NX := Lib.hid nx
  have HT := Lib.hid ht
  have M := Lib.hid hm
  have OP := Lib.hid ho
  have hn2 : xs.length ≤ 576 := by omega
  have hN0 : xs.length = R * C := by omega
  have B0 : ∀ o1 o2 o3, Below w.heap.size w (((w.alloc o1).alloc o2).alloc o3) := fun o1 o2 o3 => (((Below.refl _ _).alloc (Nat.le_refl _) _).alloc (by simp) _).alloc (by simp <;> omega) _
  have BH := Lib.hid B0
  have H := Lib.hid h
  obtain ⟨n, hx⟩ : ∃ n, xs.length = n := ⟨_, rfl⟩
  have HX := Lib.hid hx
  rw [hx] at hn hn2 hN0 ⊢
  have HN := Lib.hid hN0
  clear B0 h hx hm ho r1 r2 c1 c2 l1 i1 i2 j1 j2 hle hIJ hN0 nx ht
  go_enter Try.func162, Try.ntmps162
  go_wp2_with fail
  have ST := iIsMat R C a m xs _ (H.out.below (BH.out (.cells #[.int .i64 R, .int .i64 C, .slice a n m] 26) (.cells #[.int .i64 2, .int .i64 I, .int .i64 J, .int .i64 t] 97) (.cells #[.int .i64 0, .int .i64 0, .slice none 0 0] 26))) (by rw [HX.out]; omega)
  rw [HX.out] at ST
  refine ST.mono ?_
  clear ST
  rintro e w1 ⟨rfl, hb⟩
  have K0 : Hid (Blk3 w1 w.heap.size 26 (.int .i64 R) (.int .i64 C) (.slice a n m)) := (((Blk3.at_ _ _ _ _ rfl).old _).old _).keep hb (by simp <;> omega)
  have K1 : Hid (Blk4 w1 (w.heap.size + 1) 97 (.int .i64 2) (.int .i64 I) (.int .i64 J) (.int .i64 t)) := ((Blk4.at_ _ _ _ _ _ (by simp)).old _).keep hb (by simp <;> omega)
  have K2 : Hid (Blk3 w1 (w.heap.size + 1 + 1) 26 (.int .i64 0) (.int .i64 0) (.slice none 0 0)) := (Blk3.at_ _ _ _ _ (by simp)).keep hb (by simp)
  have B : Hid (Below w.heap.size w w1) := (BH.out _ _ _).trans (hb.mono (by simp <;> omega))
  clear hb
  obtain ⟨ca0, ca1, ca2, -, -, -⟩ := K0.out.all
  obtain ⟨cb0, cb1, cb2, cb3⟩ := K1.out.all
  obtain ⟨cc0, cc1, cc2, ff0, ff1, ff2⟩ := K2.out.all
  rw [M.out]
  go_wp2_with fail
  refine (iIsOp 2 I J t R _).mono ?_
  rintro e w2 ⟨rfl, hb⟩
  have K0 := Lib.hid (K0.out.step hb)
  have K1 := Lib.hid (K1.out.step hb)
  have K2 := Lib.hid (K2.out.step hb)
  have B := Lib.hid (stepB B.out hb)
  clear hb ca0 ca1 ca2 cb0 cb1 cb2 cb3 cc0 cc1 cc2 ff0 ff1 ff2
  obtain ⟨da0, da1, da2, -, -, -⟩ := K0.out.all
  obtain ⟨db0, db1, db2, db3⟩ := K1.out.all
  obtain ⟨dc0, dc1, dc2, gf0, gf1, gf2⟩ := K2.out.all
  rw [OP.out]
  go_upto_region 3 with fail
  go_cut [6, 7] (fun s6 s7 wx => ∃ (p6 : Nat) (v0 : Value), s6 = .pointer (some ⟨p6, 0, none⟩) ∧ s7 = .iface 148 (aggO 2 I J t) ∧ Blk3 wx p6 26 (.int .i64 R) (.int .i64 C) v0 ∧ In w2.heap.size wx.heap.size wx v0 xs ∧ Below w2.heap.size w2 wx)
  case first =>
    refine wp_region_held_drew (S := fun w' => Below w2.heap.size w2 w') (by kernel_rfl) (Below.refl _ _).drew (fun hH => ?_)
    refine wpAnyH_take (i := 0) (v := ?_) (by simp only [List.getElem?_toArray, List.getElem?_cons_zero]; rfl) (by kernel_rfl) (by kernel_rfl) (by kernel_rfl) (by exact fun _ _ _ h => h) (Or.inl ⟨by rfl, ?_⟩) hH ?_
    rotate_left
    · (intro wS hS; (try dsimp only at hS); obtain ⟨k1, k2, k3, k4, k5, k6, k7⟩ := sevB K0.out K1.out hS; go_simp; try rfl)
    try simp only [Act.put, List.setIfInBounds_toArray, List.set_cons_zero, List.set_cons_succ]
    refine wpAnyH_take (i := 2) (v := ?_) (by simp only [List.getElem?_toArray, List.getElem?_cons_succ, List.getElem?_cons_zero]; rfl) (by kernel_rfl) (by kernel_rfl) (by kernel_rfl) (by exact fun _ _ _ h => h) (Or.inl ⟨by rfl, ?_⟩) hH ?_
    rotate_left
    · (intro wS hS; (try dsimp only at hS); obtain ⟨k1, k2, k3, k4, k5, k6, k7⟩ := sevB K0.out K1.out hS; go_simp; try rfl)
    try simp only [Act.put, List.setIfInBounds_toArray, List.set_cons_zero, List.set_cons_succ]
    refine wpAnyH_ready (rs := [1, 4]) (by kernel_rfl) (by simp) ?_
    refine AllReadyH.cons (by simp only [List.getElem?_toArray, List.getElem?_cons_succ, List.getElem?_cons_zero]; rfl) (fun K hK => ?_) (AllReadyH.cons (by simp only [List.getElem?_toArray, List.getElem?_cons_succ, List.getElem?_cons_zero]; rfl) (fun K hK => ?_) AllReadyH.nil)
    · go_simp
      have hs1 := hH.size
      (with_reducible refine (iCopyOf R C a m n xs HX.out _ (H.out.below (B.out.trans (hH.mono B.out.size))) (by omega)).mono ?_)
      rintro e v1 ⟨q0, qc, rfl, own, hb1⟩
      have O := Lib.hid own.inn
      clear own
      try dsimp only
      refine hK.out _ _ ?_ (fun hH2 => ?_)
      · exact hH.trans (hb1.mono hH.size)
      clear hK K
      have hO := hH
      clear hH
      have hH := hH2
      clear hH2
      try simp only [Act.put, List.setIfInBounds_toArray, List.set_cons_zero, List.set_cons_succ]
      have z1 := hb1.size
      refine wpAnyH_ready (rs := [3, 4]) (by kernel_rfl) (by simp) ?_
      refine AllReadyH.cons (by simp only [List.getElem?_toArray, List.getElem?_cons_succ, List.getElem?_cons_zero]; rfl) (fun K hK => ?_) (AllReadyH.cons (by simp only [List.getElem?_toArray, List.getElem?_cons_succ, List.getElem?_cons_zero]; rfl) (fun K hK => ?_) AllReadyH.nil)
      · go_simp
        have hs3 := hH.size
        (with_reducible refine (iOpOf2 I J t _).mono ?_)
        rintro e v3 ⟨rfl, hb3⟩
        have O := Lib.hid (O.out.keep hb3)
        try dsimp only
        refine hK.out _ _ ?_ (fun hH2 => ?_)
        · exact hH.trans (hb3.mono hH.size)
        clear hK K
        have hO := hH
        clear hH
        have hH := hH2
        clear hH2
        try simp only [Act.put, List.setIfInBounds_toArray, List.set_cons_zero, List.set_cons_succ]
        have z3 := hb3.size
        refine wpAnyH_ready (rs := [4]) (by kernel_rfl) (by simp) ?_
        refine AllReadyH.cons (by simp only [List.getElem?_toArray, List.getElem?_cons_succ, List.getElem?_cons_zero]; rfl) (fun K hK => ?_) AllReadyH.nil
        go_simp
        have VB : Hid (Blk3 (v3.alloc (.cells #[.int .i64 0, .int .i64 0, .slice none 0 0] 26)) v3.heap.size 26 (.int .i64 0) (.int .i64 0) (.slice none 0 0)) := Blk3.at_ _ _ _ _ rfl
        have PL : w2.heap.size ≤ v3.heap.size := hH.size
        try dsimp only
        refine hK.out _ _ ?_ (fun hH2 => ?_)
        · exact hH.alloc hH.size _
        clear hK K
        have hO := hH
        clear hH
        have hH := hH2
        clear hH2
        try simp only [Act.put, List.setIfInBounds_toArray, List.set_cons_zero, List.set_cons_succ]
        refine wpAnyH_ready (rs := [5]) (by kernel_rfl) (by simp) ?_
        refine AllReadyH.cons (by simp only [List.getElem?_toArray, List.getElem?_cons_succ, List.getElem?_cons_zero]; rfl) (fun K hK => ?_) AllReadyH.nil
        go_simp
        have VB : Hid (Blk3 (v3.alloc (.cells #[.int .i64 R, .int .i64 C, .slice q0 n qc] 26)) v3.heap.size 26 (.int .i64 R) (.int .i64 C) (.slice q0 n qc)) := Blk3.at_ _ _ _ _ rfl
        try dsimp only
        refine hK.out _ _ ?_ (fun hH2 => ?_)
        · exact hO.alloc hO.size _
        clear hK K
        have hO := hH
        clear hH
        have hH := hH2
        clear hH2
        try simp only [Act.put, List.setIfInBounds_toArray, List.set_cons_zero, List.set_cons_succ]
        refine wpAnyH_take (i := 6) (v := ?_) (by simp only [List.getElem?_toArray, List.getElem?_cons_succ, List.getElem?_cons_zero]; rfl) (by kernel_rfl) (by kernel_rfl) (by kernel_rfl) (by exact fun _ _ _ h => h) (Or.inl ⟨by rfl, ?_⟩) hH ?_
        rotate_left
        · (intro wS hS; clear hS; go_simp; try rfl)
        try simp only [Act.put, List.setIfInBounds_toArray, List.set_cons_zero, List.set_cons_succ]
        refine wpAnyH_done (by kernel_rfl) ?_ _
        go_wp2_with fail
        go_meet
        exact ⟨v3.heap.size, _, rfl, rfl, VB.out, (O.out.old _).wide hs1 (by have := hb3.size; first | (simp; done) | (simp; omega) | omega), hH⟩
      · go_simp
        have VB : Hid (Blk3 (v1.alloc (.cells #[.int .i64 0, .int .i64 0, .slice none 0 0] 26)) v1.heap.size 26 (.int .i64 0) (.int .i64 0) (.slice none 0 0)) := Blk3.at_ _ _ _ _ rfl
        have O := Lib.hid (O.out.old (.cells #[.int .i64 0, .int .i64 0, .slice none 0 0] 26))
        have PL : w2.heap.size ≤ v1.heap.size := hH.size
        try dsimp only
        refine hK.out _ _ ?_ (fun hH2 => ?_)
        · exact hH.alloc hH.size _
        clear hK K
        have hO := hH
        clear hH
        have hH := hH2
        clear hH2
        try simp only [Act.put, List.setIfInBounds_toArray, List.set_cons_zero, List.set_cons_succ]
        refine wpAnyH_ready (rs := [3]) (by kernel_rfl) (by simp) ?_
        refine AllReadyH.cons (by simp only [List.getElem?_toArray, List.getElem?_cons_succ, List.getElem?_cons_zero]; rfl) (fun K hK => ?_) AllReadyH.nil
        go_simp
        have hs3 := hH.size
        have lb3 := VB.out.lt
        (with_reducible refine (iOpOf2 I J t _).mono ?_)
        rintro e v3 ⟨rfl, hb3⟩
        have O := Lib.hid (O.out.keep hb3)
        have VB := Lib.hid (VB.out.keep hb3 VB.out.lt)
        try dsimp only
        refine hK.out _ _ ?_ (fun hH2 => ?_)
        · exact hH.trans (hb3.mono hH.size)
        clear hK K
        have hO := hH
        clear hH
        have hH := hH2
        clear hH2
        try simp only [Act.put, List.setIfInBounds_toArray, List.set_cons_zero, List.set_cons_succ]
        have z3 := hb3.size
        refine wpAnyH_ready (rs := [5]) (by kernel_rfl) (by simp) ?_
        refine AllReadyH.cons (by simp only [List.getElem?_toArray, List.getElem?_cons_succ, List.getElem?_cons_zero]; rfl) (fun K hK => ?_) AllReadyH.nil
        obtain ⟨y0, y1, y2, y3, y4, y5⟩ := VB.out.all
        go_simp
        have VB := Lib.hid (((VB.out.set0 (.int .i64 R)).set1 (.int .i64 C)).set2 (.slice q0 n qc))
        try dsimp only
        refine hK.out _ _ ?_ (fun hH2 => ?_)
        · exact (((hH.setCell PL _).setCell PL _).setCell PL _)
        clear hK K
        have hO := hH
        clear hH
        have hH := hH2
        clear hH2
        try simp only [Act.put, List.setIfInBounds_toArray, List.set_cons_zero, List.set_cons_succ]
        refine wpAnyH_take (i := 6) (v := ?_) (by simp only [List.getElem?_toArray, List.getElem?_cons_succ, List.getElem?_cons_zero]; rfl) (by kernel_rfl) (by kernel_rfl) (by kernel_rfl) (by exact fun _ _ _ h => h) (Or.inl ⟨by rfl, ?_⟩) hH ?_
        rotate_left
        · (intro wS hS; clear hS; go_simp; try rfl)
        try simp only [Act.put, List.setIfInBounds_toArray, List.set_cons_zero, List.set_cons_succ]
        refine wpAnyH_done (by kernel_rfl) ?_ _
        go_wp2_with fail
        go_meet
        exact ⟨v1.heap.size, _, rfl, rfl, VB.out, (((O.out.far (by first | exact .inl lb1 | exact .inr (Nat.le_refl _) | omega) _).far (by first | exact .inl lb1 | exact .inr (Nat.le_refl _) | omega) _).far (by first | exact .inl lb1 | exact .inr (Nat.le_refl _) | omega) _).wide hs1 (by have := hb3.size; first | (simp; done) | (simp; omega) | omega), hH⟩
    · go_simp
      have VB : Hid (Blk3 (w2.drew.alloc (.cells #[.int .i64 0, .int .i64 0, .slice none 0 0] 26)) w2.heap.size 26 (.int .i64 0) (.int .i64 0) (.slice none 0 0)) := Blk3.at_ _ _ _ _ rfl
      have PL : w2.heap.size ≤ w2.drew.heap.size := hH.size
      try dsimp only
      refine hK.out _ _ ?_ (fun hH2 => ?_)
      · exact hH.alloc hH.size _
      clear hK K
      have hO := hH
      clear hH
      have hH := hH2
      clear hH2
      try simp only [Act.put, List.setIfInBounds_toArray, List.set_cons_zero, List.set_cons_succ]
      refine wpAnyH_ready (rs := [1]) (by kernel_rfl) (by simp) ?_
      refine AllReadyH.cons (by simp only [List.getElem?_toArray, List.getElem?_cons_succ, List.getElem?_cons_zero]; rfl) (fun K hK => ?_) AllReadyH.nil
      go_simp
      have hs1 := hH.size
      have lb1 := VB.out.lt
      (with_reducible refine (iCopyOf R C a m n xs HX.out _ (H.out.below (B.out.trans (hH.mono B.out.size))) (by omega)).mono ?_)
      rintro e v1 ⟨q0, qc, rfl, own, hb1⟩
      have O := Lib.hid own.inn
      clear own
      have VB := Lib.hid (VB.out.keep hb1 VB.out.lt)
      try dsimp only
      refine hK.out _ _ ?_ (fun hH2 => ?_)
      · exact hH.trans (hb1.mono hH.size)
      clear hK K
      have hO := hH
      clear hH
      have hH := hH2
      clear hH2
      try simp only [Act.put, List.setIfInBounds_toArray, List.set_cons_zero, List.set_cons_succ]
      have z1 := hb1.size
      refine wpAnyH_ready (rs := [3]) (by kernel_rfl) (by simp) ?_
      refine AllReadyH.cons (by simp only [List.getElem?_toArray, List.getElem?_cons_succ, List.getElem?_cons_zero]; rfl) (fun K hK => ?_) AllReadyH.nil
      go_simp
      have hs3 := hH.size
      have lb3 := VB.out.lt
      (with_reducible refine (iOpOf2 I J t _).mono ?_)
      rintro e v3 ⟨rfl, hb3⟩
      have O := Lib.hid (O.out.keep hb3)
      have VB := Lib.hid (VB.out.keep hb3 VB.out.lt)
      try dsimp only
      refine hK.out _ _ ?_ (fun hH2 => ?_)
      · exact hH.trans (hb3.mono hH.size)
      clear hK K
      have hO := hH
      clear hH
      have hH := hH2
      clear hH2
      try simp only [Act.put, List.setIfInBounds_toArray, List.set_cons_zero, List.set_cons_succ]
      have z3 := hb3.size
      refine wpAnyH_ready (rs := [5]) (by kernel_rfl) (by simp) ?_
      refine AllReadyH.cons (by simp only [List.getElem?_toArray, List.getElem?_cons_succ, List.getElem?_cons_zero]; rfl) (fun K hK => ?_) AllReadyH.nil
      obtain ⟨y0, y1, y2, y3, y4, y5⟩ := VB.out.all
      go_simp
      have VB := Lib.hid (((VB.out.set0 (.int .i64 R)).set1 (.int .i64 C)).set2 (.slice q0 n qc))
      try dsimp only
      refine hK.out _ _ ?_ (fun hH2 => ?_)
      · exact (((hH.setCell PL _).setCell PL _).setCell PL _)
      clear hK K
      have hO := hH
      clear hH
      have hH := hH2
      clear hH2
      try simp only [Act.put, List.setIfInBounds_toArray, List.set_cons_zero, List.set_cons_succ]
      refine wpAnyH_take (i := 6) (v := ?_) (by simp only [List.getElem?_toArray, List.getElem?_cons_succ, List.getElem?_cons_zero]; rfl) (by kernel_rfl) (by kernel_rfl) (by kernel_rfl) (by exact fun _ _ _ h => h) (Or.inl ⟨by rfl, ?_⟩) hH ?_
      rotate_left
      · (intro wS hS; clear hS; go_simp; try rfl)
      try simp only [Act.put, List.setIfInBounds_toArray, List.set_cons_zero, List.set_cons_succ]
      refine wpAnyH_done (by kernel_rfl) ?_ _
      go_wp2_with fail
      go_meet
      exact ⟨w2.heap.size, _, rfl, rfl, VB.out, (((O.out.far (by first | exact .inl lb1 | exact .inr (Nat.le_refl _) | omega) _).far (by first | exact .inl lb1 | exact .inr (Nat.le_refl _) | omega) _).far (by first | exact .inl lb1 | exact .inr (Nat.le_refl _) | omega) _).wide hs1 (by have := hb3.size; first | (simp; done) | (simp; omega) | omega), hH⟩
  case rest =>
    obtain ⟨p6, v0, rfl, rfl, k6, in0, hb⟩ := hcut
    have lK0 := K0.out.lt
    have lK1 := K1.out.lt
    have lK2 := K2.out.lt
    have K0 := Lib.hid (K0.out.step hb)
    have K1 := Lib.hid (K1.out.step hb)
    have K2 := Lib.hid (K2.out.step hb)
    have B := Lib.hid (stepB B.out hb)
    have K6 := Lib.hid k6
    have LP := hb.size
    clear hb k6 da0 da1 da2 db0 db1 db2 db3 dc0 dc1 dc2 gf0 gf1 gf2
    obtain ⟨cc0, cc1, cc2, -, -, -⟩ := K0.out.all
    have lw : w.heap.size ≤ w2.heap.size := by have := B.out.size; omega
    rcases in0.cases with ⟨rfl, rfl⟩ | ⟨g, qc, hv, gB, -, gi, gc⟩
    · obtain rfl : n = 0 := HX.out.symm
      have hC0 : C ≤ 0 := by
        rcases Nat.eq_zero_or_pos C with h | h
        · omega
        · have := Nat.mul_pos (show 0 < R by omega) h
          have := HN.out
          omega
      have EQ : Hid (MR.done R C (opL 2 I J t C []) = MR.done R C []) := rfl
      clear in0
      go_wp2_with fail
      go_loopw [31] (fun i wr => i = .int .i64 0 ∧ wr = wc) (fun _ _ => 0)
      case atStart => exact ⟨rfl, rfl⟩
      case round =>
        obtain ⟨rfl, rfl⟩ := hrel
        obtain ⟨dd0, dd1, dd2, -, -, -⟩ := K6.out.all
        go_wp2_with fail
        refine (iDone R C none 0 [] wr (Rd.nil _ _) (by simp)).mono ?_
        rintro e w4 ⟨rfl, hb⟩
        have R2 := Lib.hid (K2.out.step hb)
        have B := Lib.hid (stepB B.out hb)
        clear hb
        obtain ⟨s0, s1, s2, t0, t1, t2⟩ := R2.out.all
        have be : ∀ x y z, Below w.heap.size w (((w4.setCell ⟨w.heap.size + 1 + 1, 0, none⟩ x).setCell ⟨w.heap.size + 1 + 1, 1, none⟩ y).setCell ⟨w.heap.size + 1 + 1, 2, none⟩ z) := fun x y z =>
          (((B.out.setCell (by show w.heap.size ≤ w.heap.size + 1 + 1; omega) _).setCell (by show w.heap.size ≤ w.heap.size + 1 + 1; omega) _).setCell (by show w.heap.size ≤ w.heap.size + 1 + 1; omega) _)
        have BE := Lib.hid be
        clear be
        rcases Bool.eq_false_or_eq_true (isMat R C []) with hd | hd
        · have E : Hid (MR.done R C [] = ⟨true, R, C, []⟩) := by show MR.done R C [] = _; unfold MR.done; rw [hd]; rfl
          rw [hd]
          clear hd
          unfold DoneRes
          go_wp2_with fail
          obtain ⟨E0, E1, E2, -, -, -⟩ := (((R2.out.set0 (.int .i64 R)).set1 (.int .i64 C)).set2 (.slice none 0 0)).all
          rw [EQ.out, E.out]
          exact bodyPost_ret (v := .tuple #[.agg #[.int .i64 R, .int .i64 C, .slice none 0 0], .bool true]) (by simp [results, Try.results162, go_sem, E0, E1, E2]) rfl ⟨_, rfl, .inl ⟨rfl, rfl⟩, BE.out _ _ _⟩
        · have E : Hid (MR.done R C [] = MR.no) := by show MR.done R C [] = _; unfold MR.done; rw [hd]; rfl
          rw [hd]
          clear hd
          unfold DoneRes
          go_wp2_with fail
          obtain ⟨E0, E1, E2, -, -, -⟩ := (((R2.out.set0 (.int .i64 0)).set1 (.int .i64 0)).set2 (.slice none 0 0)).all
          rw [EQ.out, E.out]
          exact bodyPost_ret (v := .tuple #[.agg #[.int .i64 0, .int .i64 0, .slice none 0 0], .bool false]) (by simp [results, Try.results162, go_sem, E0, E1, E2]) rfl ⟨_, rfl, .inl ⟨rfl, rfl⟩, BE.out _ _ _⟩
    rw [HX.out] at hv gc
    subst hv
    have NE := gi.ne_blk K6.out
    have GI := Lib.hid gi
    clear in0 gi
    go_wp2_with fail
    go_loopw [31] (fun i wr => ∃ q : Nat, i = .int .i64 q ∧ q ≤ C ∧ Ints wr g (colTo (rwAt 2 I J t C xs) C xs q) ∧ wc.grownBy wr (some g) ∧ prodTo 2 J t C xs q) (fun i _ => C - (intOf i).toNat)
    case atStart => exact ⟨0, rfl, by omega, by rw [colTo_zero]; exact GI.out, World.grownBy.refl _ _, prodTo_zero _ _ _ _ _⟩
    case round =>
      obtain ⟨q, rfl, hq, hi, hgr, hp⟩ := hrel
      have IT := Lib.hid hi
      have G := Lib.hid hgr
      have P := Lib.hid hp
      clear hi hgr hp
      have R0 := Lib.hid (K0.out.keepOne G.out (by omega))
      have R1 := Lib.hid (K1.out.keepOne G.out (by omega))
      have R2 := Lib.hid (K2.out.keepOne G.out (by omega))
      have R6 := Lib.hid (K6.out.keepOne G.out NE.symm)
      have BW := Lib.hid (B.out.trans (below_of_one G.out (by omega) B.out.size))
      have HR := Lib.hid (H.out.below BW.out)
      obtain ⟨r0, r1, r2, -, -, -⟩ := R0.out.all
      obtain ⟨o0, o1, o2, o3⟩ := R1.out.all
      obtain ⟨s0, s1, s2, -, -, -⟩ := R6.out.all
      by_cases hlt : q < C
      · have a1 : I * C + q < n := by rw [HN.out]; exact idx_lt hI hlt
        have a2 : J * C + q < n := by rw [HN.out]; exact idx_lt hJ hlt
        have c1 : (I : Int) * (C : Int) = ((I * C : Nat) : Int) := (Int.natCast_mul _ _).symm
        have c2 : (J : Int) * (C : Int) = ((J * C : Nat) : Int) := (Int.natCast_mul _ _).symm
        have d1 : 0 ≤ (I : Int) * (C : Int) ∧ (I : Int) * (C : Int) ≤ 600 := by rw [c1]; omega
        have d2 : 0 ≤ (J : Int) * (C : Int) ∧ (J : Int) * (C : Int) ≤ 600 := by rw [c2]; omega
        have e1 : 0 ≤ (I : Int) * (C : Int) + (q : Int) := by omega
        have e2 : (I : Int) * (C : Int) + (q : Int) < (n : Int) := by rw [c1]; omega
        have e3 : ((I : Int) * (C : Int) + (q : Int)).toNat = I * C + q := by rw [c1]; omega
        have f1 : 0 ≤ (J : Int) * (C : Int) + (q : Int) := by omega
        have f2 : (J : Int) * (C : Int) + (q : Int) < (n : Int) := by rw [c2]; omega
        have f3 : ((J : Int) * (C : Int) + (q : Int)).toNat = J * C + q := by rw [c2]; omega
        obtain ⟨d11, d12⟩ := d1
        obtain ⟨d21, d22⟩ := d2
        have v1 : IntKind.i64.wrap ((I : Int) * (C : Int)) = (I : Int) * (C : Int) := IntWalk.i64_in _ (by omega)
        have v2 : IntKind.i64.wrap ((I : Int) * (C : Int) + (q : Int)) = (I : Int) * (C : Int) + (q : Int) := IntWalk.i64_in _ (by omega)
        have v3 : IntKind.i64.wrap ((J : Int) * (C : Int)) = (J : Int) * (C : Int) := IntWalk.i64_in _ (by omega)
        have v4 : IntKind.i64.wrap ((J : Int) * (C : Int) + (q : Int)) = (J : Int) * (C : Int) + (q : Int) := IntWalk.i64_in _ (by omega)
        obtain ⟨ba, oa, rfl, x1⟩ := HR.out (I * C + q) (by rw [HX.out]; exact a1)
        have x2 := HR.out.cells (J * C + q) (by rw [HX.out]; exact a2)
        clear c1 c2
        go_wp2_with fail
        go_quiet (fail)
        have R0 := Lib.hid (R0.out.drewN nq)
        have R1 := Lib.hid (R1.out.keepOne (grown_of_below (below_drewN (Below.refl _ _) nq) (some w.heap.size)) (by omega))
        have R2 := Lib.hid (R2.out.drewN nq)
        have R6 := Lib.hid (R6.out.drewN nq)
        have IT := Lib.hid (IT.out.drewN nq)
        have G := Lib.hid (grown_drewN_one G.out nq)
        have BW := Lib.hid (below_drewN BW.out nq)
        have HR := Lib.hid (H.out.below BW.out)
        clear r0 r1 r2 o0 o1 o2 o3 s0 s1 s2 x1 x2
        generalize wr.drewN nq = w3 at R0 R1 R2 R6 IT G BW HR ⊢
        obtain ⟨za, hza⟩ : ∃ z, xs.getD (I * C + q) 0 = z := ⟨_, rfl⟩
        obtain ⟨zb, hzb⟩ : ∃ z, xs.getD (J * C + q) 0 = z := ⟨_, rfl⟩
        have ZA := Lib.hid hza
        have ZB := Lib.hid hzb
        have CC : Hid (∀ wS, Below w3.heap.size w3 wS → _) := fun wS hS => colCells R0.out HR.out HX.out a1 a2 hS
        rw [hza, hzb] at CC
        clear hza hzb
        have NA : Hid (NumP za) := by rw [← ZA.out]; exact nums_at NX.out (by rw [HX.out]; exact a1)
        have NB : Hid (NumP zb) := by rw [← ZB.out]; exact nums_at NX.out (by rw [HX.out]; exact a2)
        go_upto_region 8 with fail
        obtain ⟨bb, hbb⟩ : ∃ b, decide (NumP (zb * t)) = b := ⟨_, rfl⟩
        have DO : Hid (∀ w, Calls Try.prog 188 #[aggO 2 I J t, .int .i64 za, .int .i64 zb] w (Gives (.tuple #[.int .i64 (za + zb * t), .int .i64 zb, .bool bb]) w)) := fun w => by rw [← hbb]; exact iDo2 za zb I J t w NA.out NB.out HT.out
        have HBB := Lib.hid hbb
        clear hbb
        refine wp_region_held_drew (S := fun w' => Below w3.heap.size w3 w') (by kernel_rfl) (Below.refl _ _).drew (fun hH => ?_)
        refine wpAnyH_take (i := 0) (v := ?_) (by simp only [List.getElem?_toArray, List.getElem?_cons_zero]; rfl) (by kernel_rfl) (by kernel_rfl) (by kernel_rfl) (by exact fun _ _ _ h => h) (Or.inl ⟨by rfl, ?_⟩) hH ?_
        rotate_left
        · (intro wS hS; clear hS; go_simp; try rfl)
        try simp only [Act.put, List.setIfInBounds_toArray, List.set_cons_zero, List.set_cons_succ]
        refine wpAnyH_take (i := 1) (v := ?_) (by simp only [List.getElem?_toArray, List.getElem?_cons_succ, List.getElem?_cons_zero]; rfl) (by kernel_rfl) (by kernel_rfl) (by kernel_rfl) (by exact fun _ _ _ h => h) (Or.inl ⟨by rfl, ?_⟩) hH ?_
        rotate_left
        · (intro wS hS; clear hS; go_simp; try rfl)
        try simp only [Act.put, List.setIfInBounds_toArray, List.set_cons_zero, List.set_cons_succ]
        refine wpAnyH_take (i := 2) (v := ?_) (by simp only [List.getElem?_toArray, List.getElem?_cons_succ, List.getElem?_cons_zero]; rfl) (by kernel_rfl) (by kernel_rfl) (by kernel_rfl) (by exact fun _ _ _ h => h) (Or.inl ⟨by rfl, ?_⟩) hH ?_
        rotate_left
        · (intro wS hS; (try dsimp only at hS); obtain ⟨k1, k2, k3, k4, k5⟩ := CC.out _ hS; go_simp; try rfl)
        try simp only [Act.put, List.setIfInBounds_toArray, List.set_cons_zero, List.set_cons_succ]
        refine wpAnyH_take (i := 3) (v := ?_) (by simp only [List.getElem?_toArray, List.getElem?_cons_succ, List.getElem?_cons_zero]; rfl) (by kernel_rfl) (by kernel_rfl) (by kernel_rfl) (by exact fun _ _ _ h => h) (Or.inl ⟨by rfl, ?_⟩) hH ?_
        rotate_left
        · (intro wS hS; clear hS; go_simp; try rfl)
        try simp only [Act.put, List.setIfInBounds_toArray, List.set_cons_zero, List.set_cons_succ]
        refine wpAnyH_take (i := 4) (v := ?_) (by simp only [List.getElem?_toArray, List.getElem?_cons_succ, List.getElem?_cons_zero]; rfl) (by kernel_rfl) (by kernel_rfl) (by kernel_rfl) (by exact fun _ _ _ h => h) (Or.inl ⟨by rfl, ?_⟩) hH ?_
        rotate_left
        · (intro wS hS; clear hS; go_simp; try rfl)
        try simp only [Act.put, List.setIfInBounds_toArray, List.set_cons_zero, List.set_cons_succ]
        refine wpAnyH_take (i := 5) (v := ?_) (by simp only [List.getElem?_toArray, List.getElem?_cons_succ, List.getElem?_cons_zero]; rfl) (by kernel_rfl) (by kernel_rfl) (by kernel_rfl) (by exact fun _ _ _ h => h) (Or.inl ⟨by rfl, ?_⟩) hH ?_
        rotate_left
        · (intro wS hS; (try dsimp only at hS); obtain ⟨k1, k2, k3, k4, k5⟩ := CC.out _ hS; go_simp; try rfl)
        try simp only [Act.put, List.setIfInBounds_toArray, List.set_cons_zero, List.set_cons_succ]
        refine wpAnyH_take (i := 6) (v := ?_) (by simp only [List.getElem?_toArray, List.getElem?_cons_succ, List.getElem?_cons_zero]; rfl) (by kernel_rfl) (by kernel_rfl) (by kernel_rfl) (by exact fun _ _ _ h => h) (Or.inl ⟨by rfl, ?_⟩) hH ?_
        rotate_left
        · (intro wS hS; clear hS; go_simp; try rfl)
        try simp only [Act.put, List.setIfInBounds_toArray, List.set_cons_zero, List.set_cons_succ]
        refine wpAnyH_take (i := 7) (v := ?_) (by simp only [List.getElem?_toArray, List.getElem?_cons_succ, List.getElem?_cons_zero]; rfl) (by kernel_rfl) (by kernel_rfl) (by kernel_rfl) (by exact fun _ _ _ h => h) (Or.inl ⟨by rfl, ?_⟩) hH ?_
        rotate_left
        · (intro wS hS; (try dsimp only at hS); obtain ⟨k1, k2, k3, k4, k5⟩ := CC.out _ hS; go_simp; try rfl)
        try simp only [Act.put, List.setIfInBounds_toArray, List.set_cons_zero, List.set_cons_succ]
        refine wpAnyH_take (i := 8) (v := ?_) (by simp only [List.getElem?_toArray, List.getElem?_cons_succ, List.getElem?_cons_zero]; rfl) (by kernel_rfl) (by kernel_rfl) (by kernel_rfl) (by exact fun _ _ _ h => h) (Or.inl ⟨by rfl, ?_⟩) hH ?_
        rotate_left
        · (intro wS hS; clear hS; go_simp; try rfl)
        try simp only [Act.put, List.setIfInBounds_toArray, List.set_cons_zero, List.set_cons_succ]
        refine wpAnyH_take (i := 9) (v := ?_) (by simp only [List.getElem?_toArray, List.getElem?_cons_succ, List.getElem?_cons_zero]; rfl) (by kernel_rfl) (by kernel_rfl) (by kernel_rfl) (by exact fun _ _ _ h => h) (Or.inl ⟨by rfl, ?_⟩) hH ?_
        rotate_left
        · (intro wS hS; clear hS; go_simp; try rfl)
        try simp only [Act.put, List.setIfInBounds_toArray, List.set_cons_zero, List.set_cons_succ]
        refine wpAnyH_take (i := 10) (v := ?_) (by simp only [List.getElem?_toArray, List.getElem?_cons_succ, List.getElem?_cons_zero]; rfl) (by kernel_rfl) (by kernel_rfl) (by kernel_rfl) (by exact fun _ _ _ h => h) (Or.inl ⟨by rfl, ?_⟩) hH ?_
        rotate_left
        · (intro wS hS; (try dsimp only at hS); obtain ⟨k1, k2, k3, k4, k5⟩ := CC.out _ hS; go_simp; try rfl)
        try simp only [Act.put, List.setIfInBounds_toArray, List.set_cons_zero, List.set_cons_succ]
        refine wpAnyH_take (i := 11) (v := ?_) (by simp only [List.getElem?_toArray, List.getElem?_cons_succ, List.getElem?_cons_zero]; rfl) (by kernel_rfl) (by kernel_rfl) (by kernel_rfl) (by exact fun _ _ _ h => h) (Or.inl ⟨by rfl, ?_⟩) hH ?_
        rotate_left
        · (intro wS hS; clear hS; go_simp; try rfl)
        try simp only [Act.put, List.setIfInBounds_toArray, List.set_cons_zero, List.set_cons_succ]
        refine wpAnyH_take (i := 12) (v := ?_) (by simp only [List.getElem?_toArray, List.getElem?_cons_succ, List.getElem?_cons_zero]; rfl) (by kernel_rfl) (by kernel_rfl) (by kernel_rfl) (by exact fun _ _ _ h => h) (Or.inl ⟨by rfl, ?_⟩) hH ?_
        rotate_left
        · (intro wS hS; clear hS; go_simp; try rfl)
        try simp only [Act.put, List.setIfInBounds_toArray, List.set_cons_zero, List.set_cons_succ]
        refine wpAnyH_take (i := 13) (v := ?_) (by simp only [List.getElem?_toArray, List.getElem?_cons_succ, List.getElem?_cons_zero]; rfl) (by kernel_rfl) (by kernel_rfl) (by kernel_rfl) (by exact fun _ _ _ h => h) (Or.inl ⟨by rfl, ?_⟩) hH ?_
        rotate_left
        · (intro wS hS; clear hS; go_simp; try rfl)
        try simp only [Act.put, List.setIfInBounds_toArray, List.set_cons_zero, List.set_cons_succ]
        refine wpAnyH_ready (rs := [14]) (by kernel_rfl) (by simp) ?_
        refine AllReadyH.cons (by simp only [List.getElem?_toArray, List.getElem?_cons_succ, List.getElem?_cons_zero]; rfl) (fun K hK => ?_) AllReadyH.nil
        go_simp
        go_upon
        (with_reducible refine (DO.out _).mono ?_)
        rintro e v14 ⟨rfl, hb14⟩
        try dsimp only
        refine hK.out _ _ ?_ (fun hH2 => ?_)
        · exact hH.trans (hb14.mono hH.size)
        clear hK K hH
        have hH := hH2
        clear hH2
        try simp only [Act.put, List.setIfInBounds_toArray, List.set_cons_zero, List.set_cons_succ]
        refine wpAnyH_take (i := 15) (v := ?_) (by simp only [List.getElem?_toArray, List.getElem?_cons_succ, List.getElem?_cons_zero]; rfl) (by kernel_rfl) (by kernel_rfl) (by kernel_rfl) (by exact fun _ _ _ h => h) (Or.inl ⟨by rfl, ?_⟩) hH ?_
        rotate_left
        · (intro wS hS; clear hS; go_simp; try rfl)
        try simp only [Act.put, List.setIfInBounds_toArray, List.set_cons_zero, List.set_cons_succ]
        refine wpAnyH_take (i := 16) (v := ?_) (by simp only [List.getElem?_toArray, List.getElem?_cons_succ, List.getElem?_cons_zero]; rfl) (by kernel_rfl) (by kernel_rfl) (by kernel_rfl) (by exact fun _ _ _ h => h) (Or.inl ⟨by rfl, ?_⟩) hH ?_
        rotate_left
        · (intro wS hS; clear hS; go_simp; try rfl)
        try simp only [Act.put, List.setIfInBounds_toArray, List.set_cons_zero, List.set_cons_succ]
        refine wpAnyH_take (i := 17) (v := ?_) (by simp only [List.getElem?_toArray, List.getElem?_cons_succ, List.getElem?_cons_zero]; rfl) (by kernel_rfl) (by kernel_rfl) (by kernel_rfl) (by exact fun _ _ _ h => h) (Or.inl ⟨by rfl, ?_⟩) hH ?_
        rotate_left
        · (intro wS hS; clear hS; go_simp; try rfl)
        try simp only [Act.put, List.setIfInBounds_toArray, List.set_cons_zero, List.set_cons_succ]
        refine wpAnyH_take (i := 18) (v := ?_) (by simp only [List.getElem?_toArray, List.getElem?_cons_succ, List.getElem?_cons_zero]; rfl) (by kernel_rfl) (by kernel_rfl) (by kernel_rfl) (by exact fun _ _ _ h => h) (Or.inl ⟨by rfl, ?_⟩) hH ?_
        rotate_left
        · (intro wS hS; clear hS; go_simp; try rfl)
        try simp only [Act.put, List.setIfInBounds_toArray, List.set_cons_zero, List.set_cons_succ]
        refine wpAnyH_take (i := 19) (v := ?_) (by simp only [List.getElem?_toArray, List.getElem?_cons_succ, List.getElem?_cons_zero]; rfl) (by kernel_rfl) (by kernel_rfl) (by kernel_rfl) (by exact fun _ _ _ h => h) (Or.inl ⟨by rfl, ?_⟩) hH ?_
        rotate_left
        · (intro wS hS; clear hS; go_simp; try rfl)
        try simp only [Act.put, List.setIfInBounds_toArray, List.set_cons_zero, List.set_cons_succ]
        refine wpAnyH_take (i := 20) (v := ?_) (by simp only [List.getElem?_toArray, List.getElem?_cons_succ, List.getElem?_cons_zero]; rfl) (by kernel_rfl) (by kernel_rfl) (by kernel_rfl) (by exact fun _ _ _ h => h) (Or.inl ⟨by rfl, ?_⟩) hH ?_
        rotate_left
        · (intro wS hS; clear hS; go_simp; try rfl)
        try simp only [Act.put, List.setIfInBounds_toArray, List.set_cons_zero, List.set_cons_succ]
        refine wpAnyH_take (i := 21) (v := ?_) (by simp only [List.getElem?_toArray, List.getElem?_cons_succ, List.getElem?_cons_zero]; rfl) (by kernel_rfl) (by kernel_rfl) (by kernel_rfl) (by exact fun _ _ _ h => h) (Or.inl ⟨by rfl, ?_⟩) hH ?_
        rotate_left
        · (intro wS hS; clear hS; go_simp; try rfl)
        try simp only [Act.put, List.setIfInBounds_toArray, List.set_cons_zero, List.set_cons_succ]
        refine wpAnyH_done (by kernel_rfl) ?_ _
        have hb : Below w3.heap.size w3 v14 := hH
        have R0 := Lib.hid (R0.out.step hb)
        have R1 := Lib.hid (R1.out.step hb)
        have R2 := Lib.hid (R2.out.step hb)
        have R6 := Lib.hid (R6.out.step hb)
        have IT := Lib.hid (IT.out.keep hb IT.out.lt)
        have G := Lib.hid (G.out.trans (grown_of_below hb (some g)))
        have BW := Lib.hid (stepB BW.out hb)
        clear CC hH hb14 hb HR
        obtain ⟨s0, s1, s2, -, -, -⟩ := R6.out.all
        obtain ⟨y0, y1, y2, y3, y4, y5⟩ := R2.out.all
        cases bb
        · have EQ : Hid (MR.done R C (opL 2 I J t C xs) = MR.no) := rw_over I J t R C xs q (HX.out.trans HN.out) hI hlt NX.out HT.out (by rw [ZB.out]; exact of_decide_eq_false HBB.out)
          clear IT
          go_wp2_with fail
          obtain ⟨E0, E1, E2, -, -, -⟩ := (((R2.out.set0 (.int .i64 0)).set1 (.int .i64 0)).set2 (.slice none 0 0)).all
          rw [EQ.out]
          exact bodyPost_ret (v := .tuple #[.agg #[.int .i64 0, .int .i64 0, .slice none 0 0], .bool false]) (by simp [results, Try.results162, go_sem, E0, E1, E2]) rfl ⟨_, rfl, .inl ⟨rfl, rfl⟩, ((BW.out.setCell (by show w.heap.size ≤ w.heap.size + 1 + 1; omega) _).setCell (by show w.heap.size ≤ w.heap.size + 1 + 1; omega) _).setCell (by show w.heap.size ≤ w.heap.size + 1 + 1; omega) _⟩
        · go_upto_region 11 with fail
          have hold1 := IT.out.cell (i := I * C + q) (by rw [colTo_length, HX.out]; exact a1)
          have hfr1 := IT.out.free (I * C + q)
          refine wp_region_held_drew (S := fun w' => v14.grownBy w' (some g)) (by kernel_rfl) (grown_drew_one (World.grownBy.refl _ _)) (fun hH => ?_)
          refine wpAnyH_take (i := 0) (v := ?_) (by simp only [List.getElem?_toArray, List.getElem?_cons_zero]; rfl) (by kernel_rfl) (by kernel_rfl) (by kernel_rfl) (by exact fun _ _ _ h => h) (Or.inl ⟨by rfl, ?_⟩) hH ?_
          rotate_left
          · (intro wS hS; clear hS; go_simp; try rfl)
          try simp only [Act.put, List.setIfInBounds_toArray, List.set_cons_zero, List.set_cons_succ]
          refine wpAnyH_take (i := 1) (v := ?_) (by simp only [List.getElem?_toArray, List.getElem?_cons_succ, List.getElem?_cons_zero]; rfl) (by kernel_rfl) (by kernel_rfl) (by kernel_rfl) (by exact fun _ _ _ h => h) (Or.inl ⟨by rfl, ?_⟩) hH ?_
          rotate_left
          · (intro wS hS; (try dsimp only at hS); obtain ⟨k1, k2, k3, -, -, -⟩ := (R6.out.keepOne hS NE.symm).all; go_simp; try rfl)
          try simp only [Act.put, List.setIfInBounds_toArray, List.set_cons_zero, List.set_cons_succ]
          refine wpAnyH_take (i := 2) (v := ?_) (by simp only [List.getElem?_toArray, List.getElem?_cons_succ, List.getElem?_cons_zero]; rfl) (by kernel_rfl) (by kernel_rfl) (by kernel_rfl) (by exact fun _ _ _ h => h) (Or.inl ⟨by rfl, ?_⟩) hH ?_
          rotate_left
          · (intro wS hS; clear hS; go_simp; try rfl)
          try simp only [Act.put, List.setIfInBounds_toArray, List.set_cons_zero, List.set_cons_succ]
          refine wpAnyH_take (i := 3) (v := ?_) (by simp only [List.getElem?_toArray, List.getElem?_cons_succ, List.getElem?_cons_zero]; rfl) (by kernel_rfl) (by kernel_rfl) (by kernel_rfl) (by exact fun _ _ _ h => h) (Or.inl ⟨by rfl, ?_⟩) hH ?_
          rotate_left
          · (intro wS hS; clear hS; go_simp; try rfl)
          try simp only [Act.put, List.setIfInBounds_toArray, List.set_cons_zero, List.set_cons_succ]
          refine wpAnyH_take (i := 4) (v := ?_) (by simp only [List.getElem?_toArray, List.getElem?_cons_succ, List.getElem?_cons_zero]; rfl) (by kernel_rfl) (by kernel_rfl) (by kernel_rfl) (by exact fun _ _ _ h => h) (Or.inl ⟨by rfl, ?_⟩) hH ?_
          rotate_left
          · (intro wS hS; (try dsimp only at hS); obtain ⟨k1, k2, k3, -, -, -⟩ := (R6.out.keepOne hS NE.symm).all; go_simp; try rfl)
          try simp only [Act.put, List.setIfInBounds_toArray, List.set_cons_zero, List.set_cons_succ]
          refine wpAnyH_take (i := 5) (v := ?_) (by simp only [List.getElem?_toArray, List.getElem?_cons_succ, List.getElem?_cons_zero]; rfl) (by kernel_rfl) (by kernel_rfl) (by kernel_rfl) (by exact fun _ _ _ h => h) (Or.inl ⟨by rfl, ?_⟩) hH ?_
          rotate_left
          · (intro wS hS; clear hS; go_simp; try rfl)
          try simp only [Act.put, List.setIfInBounds_toArray, List.set_cons_zero, List.set_cons_succ]
          refine wpAnyH_take (i := 6) (v := ?_) (by simp only [List.getElem?_toArray, List.getElem?_cons_succ, List.getElem?_cons_zero]; rfl) (by kernel_rfl) (by kernel_rfl) (by kernel_rfl) (by exact fun _ _ _ h => h) (Or.inl ⟨by rfl, ?_⟩) hH ?_
          rotate_left
          · (intro wS hS; clear hS; go_simp; try rfl)
          try simp only [Act.put, List.setIfInBounds_toArray, List.set_cons_zero, List.set_cons_succ]
          refine wpAnyH_take (i := 7) (v := ?_) (by simp only [List.getElem?_toArray, List.getElem?_cons_succ, List.getElem?_cons_zero]; rfl) (by kernel_rfl) (by kernel_rfl) (by kernel_rfl) (by exact fun _ _ _ h => h) (Or.inl ⟨by rfl, ?_⟩) hH ?_
          rotate_left
          · (intro wS hS; clear hS; go_simp; try rfl)
          try simp only [Act.put, List.setIfInBounds_toArray, List.set_cons_zero, List.set_cons_succ]
          refine wpAnyH_take (i := 8) (v := ?_) (by simp only [List.getElem?_toArray, List.getElem?_cons_succ, List.getElem?_cons_zero]; rfl) (by kernel_rfl) (by kernel_rfl) (by kernel_rfl) (by exact fun _ _ _ h => h) (Or.inl ⟨by rfl, ?_⟩) hH ?_
          rotate_left
          · (intro wS hS; clear hS; go_simp; try rfl)
          try simp only [Act.put, List.setIfInBounds_toArray, List.set_cons_zero, List.set_cons_succ]
          refine wpAnyH_ready (rs := [9]) (by kernel_rfl) (by simp) ?_
          refine AllReadyH.cons (by simp only [List.getElem?_toArray, List.getElem?_cons_succ, List.getElem?_cons_zero]; rfl) (fun K hK => ?_) AllReadyH.nil
          clear hH
          go_simp
          have IT2 := Lib.hid (IT.out.set (I * C + q) (za + zb * t))
          refine hK.out _ _ (grown_drew_one (grown_set_one (World.grownBy.refl _ _) rfl _)) (fun hH => ?_)
          clear hK K
          try simp only [Act.put, List.setIfInBounds_toArray, List.set_cons_zero, List.set_cons_succ]
          refine wpAnyH_take (i := 10) (v := ?_) (by simp only [List.getElem?_toArray, List.getElem?_cons_succ, List.getElem?_cons_zero]; rfl) (by kernel_rfl) (by kernel_rfl) (by kernel_rfl) (by exact fun _ _ _ h => h) (Or.inl ⟨by rfl, ?_⟩) hH ?_
          rotate_left
          · (intro wS hS; clear hS; go_simp; try rfl)
          try simp only [Act.put, List.setIfInBounds_toArray, List.set_cons_zero, List.set_cons_succ]
          refine wpAnyH_ready (rs := [11]) (by kernel_rfl) (by simp) ?_
          refine AllReadyH.cons (by simp only [List.getElem?_toArray, List.getElem?_cons_succ, List.getElem?_cons_zero]; rfl) (fun K hK => ?_) AllReadyH.nil
          clear hH hold1 hfr1
          have hold2 := IT2.out.cell (i := J * C + q) (by rw [List.length_set, colTo_length, HX.out]; exact a2)
          have hfr2 := IT2.out.free (J * C + q)
          go_simp
          refine hK.out _ _ (grown_drew_one (grown_set_one (b := g) (grown_set_one (b := g) (World.grownBy.refl v14 (some g)) rfl _) rfl _)) (fun hH => ?_)
          clear hK K hH hold2 hfr2
          refine wpAnyH_done (by kernel_rfl) ?_ _
          go_wp2_with fail
          go_roundw
          case rel =>
            have E := rw_add I J t C R xs q (HX.out.trans HN.out) hI hJ hlt (by have := IJ.out; omega)
            rw [ZA.out, ZB.out] at E
            refine ⟨q + 1, by go_num, by omega, ?_, grown_drew_one (grown_set_one (b := g) (grown_set_one (b := g) G.out rfl _) rfl _), prodTo_succ P.out (fun _ => by rw [ZB.out]; exact of_decide_eq_true HBB.out)⟩
            rw [← E]
            exact (IT2.out.set (J * C + q) (zb)).drew
          case measure => simp [intOf]; omega
      · have hqC : q = C := by omega
        rw [hqC] at IT P
        have HL : Hid ((colTo (rwAt 2 I J t C xs) C xs C).length = n) := by show _ = n; rw [colTo_length, HX.out]
        have EQ : Hid (MR.done R C (opL 2 I J t C xs) = MR.done R C (colTo (rwAt 2 I J t C xs) C xs C)) := rw_done 2 I J t R C xs (by decide) (HX.out.trans HN.out) NX.out HT.out P.out
        generalize colTo (rwAt 2 I J t C xs) C xs C = L at IT HL EQ
        clear o0 o1 o2 o3
        go_wp2_with fail
        have ST := iDone R C (some ⟨g, 0, none⟩) qc L wr IT.out.rd (by rw [HL.out]; omega)
        rw [HL.out] at ST
        refine ST.mono ?_
        clear ST
        rintro e w4 ⟨rfl, hb⟩
        have R2 := Lib.hid (R2.out.step hb)
        have IT := Lib.hid (IT.out.keep hb IT.out.lt)
        have B := Lib.hid (stepB BW.out hb)
        clear hb
        obtain ⟨s0, s1, s2, t0, t1, t2⟩ := R2.out.all
        have be : ∀ x y z, Below w.heap.size w (((w4.setCell ⟨w.heap.size + 1 + 1, 0, none⟩ x).setCell ⟨w.heap.size + 1 + 1, 1, none⟩ y).setCell ⟨w.heap.size + 1 + 1, 2, none⟩ z) := fun x y z =>
          (((B.out.setCell (by show w.heap.size ≤ w.heap.size + 1 + 1; omega) _).setCell (by show w.heap.size ≤ w.heap.size + 1 + 1; omega) _).setCell (by show w.heap.size ≤ w.heap.size + 1 + 1; omega) _)
        have BE := Lib.hid be
        clear be
        rcases Bool.eq_false_or_eq_true (isMat R C L) with hd | hd
        · have E : Hid (MR.done R C L = ⟨true, R, C, L⟩) := by show MR.done R C L = _; unfold MR.done; rw [hd]; rfl
          rw [hd]
          clear hd
          unfold DoneRes
          go_wp2_with fail
          obtain ⟨E0, E1, E2, -, -, -⟩ := (((R2.out.set0 (.int .i64 R)).set1 (.int .i64 C)).set2 (.slice (some ⟨g, 0, none⟩) n qc)).all
          rw [EQ.out, E.out]
          refine bodyPost_ret (v := .tuple #[.agg #[.int .i64 R, .int .i64 C, .slice (some ⟨g, 0, none⟩) n qc], .bool true]) (by simp [results, Try.results162, go_sem, E0, E1, E2]) rfl ⟨_, rfl, ?_, ?_⟩
          · refine .inr ⟨g, qc, by rw [HL.out], by omega, ?_, by rw [HL.out]; omega, by rw [HL.out]; omega⟩
            exact ((IT.out.far (by show g ≠ w.heap.size + 1 + 1; omega) _).far (by show g ≠ w.heap.size + 1 + 1; omega) _).far (by show g ≠ w.heap.size + 1 + 1; omega) _
          · exact BE.out _ _ _
        · have E : Hid (MR.done R C L = MR.no) := by show MR.done R C L = _; unfold MR.done; rw [hd]; rfl
          rw [hd]
          clear hd
          unfold DoneRes
          go_wp2_with fail
          obtain ⟨E0, E1, E2, -, -, -⟩ := (((R2.out.set0 (.int .i64 0)).set1 (.int .i64 0)).set2 (.slice none 0 0)).all
          rw [EQ.out, E.out]
          exact bodyPost_ret (v := .tuple #[.agg #[.int .i64 0, .int .i64 0, .slice none 0 0], .bool false]) (by simp [results, Try.results162, go_sem, E0, E1, E2]) rfl ⟨_, rfl, .inl ⟨rfl, rfl⟩, BE.out _ _ _⟩
end Go.Proofs.Ytpelnfenfeoeeaa
end

section
/-
  Chapter 5, in the program: DoRowOp, any matrix and operation.
-/
namespace Go.Proofs.Ytpelnfenfeoeeaa
set_option maxRecDepth 100000
open Go.RowKit
set_option maxHeartbeats 1000000 in
theorem iOp (k i j t r c : Int) (a : Option Addr) (m : Nat) (xs : List Int) (w : World) (h : Rd w a xs) (hn : xs.length ≤ 16777216) (_ : Spot a) :
    Calls Try.prog 162 #[.agg #[.int .i64 r, .int .i64 c, .slice a xs.length m], .agg #[.int .i64 k, .int .i64 i, .int .i64 j, .int .i64 t]] w (MatRes (opM k i j t r c xs) w) := by
  rcases Bool.eq_false_or_eq_true (isMat r c xs) with hm | hm
  · rcases Bool.eq_false_or_eq_true (isOp k i j t r) with ho | ho
    · obtain ⟨hk, -, ⟨i1, i2⟩, ⟨j1, j2⟩, -, -⟩ := isOp_says ho
      obtain ⟨⟨r1, r2⟩, ⟨c1, c2⟩, -, -⟩ := isMat_says hm
      obtain ⟨R, rfl⟩ := Int.eq_ofNat_of_zero_le r1
      obtain ⟨C, rfl⟩ := Int.eq_ofNat_of_zero_le c1
      obtain ⟨I, rfl⟩ := Int.eq_ofNat_of_zero_le i1
      obtain ⟨J, rfl⟩ := Int.eq_ofNat_of_zero_le j1
      have E : opM k I J t R C xs = MR.done R C (opL k I J t C xs) := by unfold opM; rw [hm, ho]; rfl
      rw [E]
      clear E
      rcases hk with rfl | rfl | rfl
      · exact iOp_0 R C I J a m t xs w h hn hm ho
      · exact iOp_1 R C I J a m t xs w h hn hm ho
      · exact iOp_2 R C I J a m t xs w h hn hm ho
    · have E : Hid (opM k i j t r c xs = MR.no) := by show opM k i j t r c xs = _; unfold opM; rw [hm, ho]; rfl
      have M := Lib.hid hm
      have OP := Lib.hid ho
      clear hm ho
      have B0 : ∀ o1 o2 o3, Below w.heap.size w (((w.alloc o1).alloc o2).alloc o3) := fun o1 o2 o3 => (((Below.refl _ _).alloc (Nat.le_refl _) _).alloc (by simp) _).alloc (by simp <;> omega) _
      have BH := Lib.hid B0
      have H := Lib.hid h
      obtain ⟨n, hx⟩ : ∃ n, xs.length = n := ⟨_, rfl⟩
      have HX := Lib.hid hx
      rw [hx] at hn ⊢
      clear B0 h hx
      go_enter Try.func162, Try.ntmps162
      go_wp2_with fail
      have ST := iIsMat r c a m xs _ (H.out.below (BH.out (.cells #[.int .i64 r, .int .i64 c, .slice a n m] 26) (.cells #[.int .i64 k, .int .i64 i, .int .i64 j, .int .i64 t] 97) (.cells #[.int .i64 0, .int .i64 0, .slice none 0 0] 26))) (by rw [HX.out]; omega)
      rw [HX.out] at ST
      refine ST.mono ?_
      clear ST
      rintro e w1 ⟨rfl, hb⟩
      have K0 : Hid (Blk3 w1 w.heap.size 26 (.int .i64 r) (.int .i64 c) (.slice a n m)) := (((Blk3.at_ _ _ _ _ rfl).old _).old _).keep hb (by simp <;> omega)
      have K1 : Hid (Blk4 w1 (w.heap.size + 1) 97 (.int .i64 k) (.int .i64 i) (.int .i64 j) (.int .i64 t)) := ((Blk4.at_ _ _ _ _ _ (by simp)).old _).keep hb (by simp <;> omega)
      have K2 : Hid (Blk3 w1 (w.heap.size + 1 + 1) 26 (.int .i64 0) (.int .i64 0) (.slice none 0 0)) := (Blk3.at_ _ _ _ _ (by simp)).keep hb (by simp)
      have B : Hid (Below w.heap.size w w1) := (BH.out _ _ _).trans (hb.mono (by simp <;> omega))
      clear hb
      obtain ⟨ca0, ca1, ca2, -, -, -⟩ := K0.out.all
      obtain ⟨cb0, cb1, cb2, cb3⟩ := K1.out.all
      obtain ⟨cc0, cc1, cc2, ff0, ff1, ff2⟩ := K2.out.all
      rw [M.out]
      go_wp2_with fail
      refine (iIsOp k i j t r _).mono ?_
      rintro e w2 ⟨rfl, hb⟩
      have K0 := Lib.hid (K0.out.step hb)
      have K1 := Lib.hid (K1.out.step hb)
      have K2 := Lib.hid (K2.out.step hb)
      have B := Lib.hid (stepB B.out hb)
      clear hb
      obtain ⟨da0, da1, da2, -, -, -⟩ := K0.out.all
      obtain ⟨db0, db1, db2, db3⟩ := K1.out.all
      obtain ⟨dc0, dc1, dc2, gf0, gf1, gf2⟩ := K2.out.all
      rw [OP.out]
      go_wp2_with fail
      obtain ⟨E0, E1, E2, -, -, -⟩ := (((K2.out.set0 (.int .i64 0)).set1 (.int .i64 0)).set2 (.slice none 0 0)).all
      rw [E.out]
      exact bodyPost_ret (v := .tuple #[.agg #[.int .i64 0, .int .i64 0, .slice none 0 0], .bool false]) (by simp [results, Try.results162, go_sem, E0, E1, E2]) rfl ⟨_, rfl, .inl ⟨rfl, rfl⟩, ((B.out.setCell (by show w.heap.size ≤ w.heap.size + 1 + 1; omega) _).setCell (by show w.heap.size ≤ w.heap.size + 1 + 1; omega) _).setCell (by show w.heap.size ≤ w.heap.size + 1 + 1; omega) _⟩
  · have E : Hid (opM k i j t r c xs = MR.no) := by show opM k i j t r c xs = _; unfold opM; rw [hm]; rfl
    have M := Lib.hid hm
    clear hm
    have B0 : ∀ o1 o2 o3, Below w.heap.size w (((w.alloc o1).alloc o2).alloc o3) := fun o1 o2 o3 => (((Below.refl _ _).alloc (Nat.le_refl _) _).alloc (by simp) _).alloc (by simp <;> omega) _
    have BH := Lib.hid B0
    have H := Lib.hid h
    obtain ⟨n, hx⟩ : ∃ n, xs.length = n := ⟨_, rfl⟩
    have HX := Lib.hid hx
    rw [hx] at hn ⊢
    clear B0 h hx
    go_enter Try.func162, Try.ntmps162
    go_wp2_with fail
    have ST := iIsMat r c a m xs _ (H.out.below (BH.out (.cells #[.int .i64 r, .int .i64 c, .slice a n m] 26) (.cells #[.int .i64 k, .int .i64 i, .int .i64 j, .int .i64 t] 97) (.cells #[.int .i64 0, .int .i64 0, .slice none 0 0] 26))) (by rw [HX.out]; omega)
    rw [HX.out] at ST
    refine ST.mono ?_
    clear ST
    rintro e w1 ⟨rfl, hb⟩
    have K0 : Hid (Blk3 w1 w.heap.size 26 (.int .i64 r) (.int .i64 c) (.slice a n m)) := (((Blk3.at_ _ _ _ _ rfl).old _).old _).keep hb (by simp <;> omega)
    have K1 : Hid (Blk4 w1 (w.heap.size + 1) 97 (.int .i64 k) (.int .i64 i) (.int .i64 j) (.int .i64 t)) := ((Blk4.at_ _ _ _ _ _ (by simp)).old _).keep hb (by simp <;> omega)
    have K2 : Hid (Blk3 w1 (w.heap.size + 1 + 1) 26 (.int .i64 0) (.int .i64 0) (.slice none 0 0)) := (Blk3.at_ _ _ _ _ (by simp)).keep hb (by simp)
    have B : Hid (Below w.heap.size w w1) := (BH.out _ _ _).trans (hb.mono (by simp <;> omega))
    clear hb
    obtain ⟨ca0, ca1, ca2, -, -, -⟩ := K0.out.all
    obtain ⟨cb0, cb1, cb2, cb3⟩ := K1.out.all
    obtain ⟨cc0, cc1, cc2, ff0, ff1, ff2⟩ := K2.out.all
    rw [M.out]
    go_wp2_with fail
    obtain ⟨E0, E1, E2, -, -, -⟩ := (((K2.out.set0 (.int .i64 0)).set1 (.int .i64 0)).set2 (.slice none 0 0)).all
    rw [E.out]
    exact bodyPost_ret (v := .tuple #[.agg #[.int .i64 0, .int .i64 0, .slice none 0 0], .bool false]) (by simp [results, Try.results162, go_sem, E0, E1, E2]) rfl ⟨_, rfl, .inl ⟨rfl, rfl⟩, ((B.out.setCell (by show w.heap.size ≤ w.heap.size + 1 + 1; omega) _).setCell (by show w.heap.size ≤ w.heap.size + 1 + 1; omega) _).setCell (by show w.heap.size ≤ w.heap.size + 1 + 1; omega) _⟩
end Go.Proofs.Ytpelnfenfeoeeaa
end

section
/-
  Plain mathematics: finite sums. Nothing of a program is used.
-/
namespace Go.Proofs.Ytpelnfenfeoeeaa
def sumN : Nat → (Nat → Int) → Int
  | 0, _ => 0
  | n + 1, f => sumN n f + f n
theorem sumN_congr {n : Nat} {f g : Nat → Int} (h : ∀ k : Nat, k < n → f k = g k) : sumN n f = sumN n g := by
  induction n with
  | zero => rfl
  | succ n ih =>
    show sumN n f + f n = sumN n g + g n
    rw [ih (fun k hk => h k (by omega)), h n (by omega)]
theorem sumN_add (n : Nat) (f g : Nat → Int) : sumN n (fun k => f k + g k) = sumN n f + sumN n g := by
  induction n with
  | zero => rfl
  | succ n ih =>
    show sumN n (fun k => f k + g k) + (f n + g n) = (sumN n f + f n) + (sumN n g + g n)
    rw [ih]; omega
theorem sumN_mul (n : Nat) (f : Nat → Int) (z : Int) : sumN n f * z = sumN n (fun k => f k * z) := by
  induction n with
  | zero => exact Int.zero_mul z
  | succ n ih =>
    show (sumN n f + f n) * z = sumN n (fun k => f k * z) + f n * z
    rw [Int.add_mul, ih]
theorem sumN_mul_left (n : Nat) (f : Nat → Int) (z : Int) : z * sumN n f = sumN n (fun k => z * f k) := by
  rw [Int.mul_comm, sumN_mul]
  exact sumN_congr fun k _ => Int.mul_comm _ _
theorem sumN_zero (n : Nat) : sumN n (fun _ => 0) = 0 := by
  induction n with
  | zero => rfl
  | succ n ih => show sumN n (fun _ => 0) + 0 = 0; rw [ih]; rfl
theorem sumN_swap (m n : Nat) (f : Nat → Nat → Int) : sumN m (fun i => sumN n (fun j => f i j)) = sumN n (fun j => sumN m (fun i => f i j)) := by
  induction m with
  | zero => exact (sumN_zero n).symm
  | succ m ih =>
    show sumN m (fun i => sumN n (fun j => f i j)) + sumN n (fun j => f m j) = sumN n (fun j => sumN m (fun i => f i j) + f m j)
    rw [ih, sumN_add]
end Go.Proofs.Ytpelnfenfeoeeaa
end

section
/-
  Determinants: expansion along the first column; linear in each row; 0 where two rows are equal. Plain mathematics: nothing of a program is used.
-/
namespace Go.Proofs.Ytpelnfenfeoeeaa
theorem sumN_first (n : Nat) (f : Nat → Int) : sumN (n + 1) f = f 0 + sumN n (fun i => f (i + 1)) := by
  induction n with
  | zero => show 0 + f 0 = f 0 + 0; omega
  | succ n ih =>
    show sumN (n + 1) f + f (n + 1) = f 0 + (sumN n (fun i => f (i + 1)) + f (n + 1))
    rw [ih]; omega
theorem sumN_all_zero {n : Nat} {f : Nat → Int} (h : ∀ k, k < n → f k = 0) : sumN n f = 0 := by
  rw [sumN_congr h]; exact sumN_zero n
theorem sumN_one {n a : Nat} {f : Nat → Int} (ha : a < n) (h : ∀ k, k < n → k ≠ a → f k = 0) : sumN n f = f a := by
  induction n with
  | zero => omega
  | succ n ih =>
    show sumN n f + f n = f a
    rcases Nat.lt_or_ge a n with h1 | h1
    · rw [ih h1 (fun k hk hne => h k (by omega) hne), h n (by omega) (by omega)]; omega
    · obtain rfl : a = n := by omega
      rw [sumN_all_zero (fun k hk => h k (by omega) (by omega))]; omega
theorem sumN_two {n a b : Nat} {f : Nat → Int} (ha : a < b) (hb : b < n) (h : ∀ k, k < n → k ≠ a → k ≠ b → f k = 0) : sumN n f = f a + f b := by
  have e : sumN n f = sumN n (fun k => (if k = a then f a else 0) + (if k = b then f b else 0)) := by
    refine sumN_congr fun k hk => ?_
    by_cases h1 : k = a
    · subst h1; rw [if_pos rfl, if_neg (by omega)]; omega
    · by_cases h2 : k = b
      · subst h2; rw [if_neg h1, if_pos rfl]; omega
      · rw [if_neg h1, if_neg h2, h k hk h1 h2]; rfl
  rw [e, sumN_add, sumN_one (a := a) (by omega) (fun k _ hk => if_neg hk), sumN_one (a := b) hb (fun k _ hk => if_neg hk), if_pos rfl, if_pos rfl]
def sg (k : Nat) : Int := if k % 2 = 0 then 1 else -1
theorem sg_zero : sg 0 = 1 := rfl
theorem sg_succ (k : Nat) : sg (k + 1) = -sg k := by
  unfold sg
  by_cases h : k % 2 = 0
  · rw [if_pos h, if_neg (by omega)]
  · rw [if_neg h, if_pos (by omega)]; rfl
theorem sg_add (a b : Nat) : sg (a + b) = sg a * sg b := by
  induction b with
  | zero => rw [Nat.add_zero, sg_zero, Int.mul_one]
  | succ b ih => rw [← Nat.add_assoc, sg_succ, sg_succ, ih, Int.mul_neg]
theorem sg_sq (a : Nat) : sg a * sg a = 1 := by
  unfold sg
  split <;> rfl
def skp (j k : Nat) : Nat := if k < j then k else k + 1
def unskp (j k : Nat) : Nat := if k < j then k else k - 1
theorem skp_ne (j k : Nat) : skp j k ≠ j := by unfold skp; split <;> omega
theorem skp_lt {j k n : Nat} (h : k < n) : skp j k < n + 1 := by unfold skp; split <;> omega
theorem skp_unskp {j k : Nat} (h : k ≠ j) : skp j (unskp j k) = k := by
  unfold skp unskp
  by_cases h1 : k < j
  · rw [if_pos h1, if_pos h1]
  · rw [if_neg h1, if_neg (by omega)]; omega
theorem unskp_skp (j k : Nat) : unskp j (skp j k) = k := by
  unfold skp unskp
  by_cases h1 : k < j
  · rw [if_pos h1, if_pos h1]
  · rw [if_neg h1, if_neg (by omega)]; omega
theorem unskp_lt {j k n : Nat} (h : k ≠ j) (hk : k < n + 1) (hj : j < n + 1) : unskp j k < n := by unfold unskp; split <;> omega
theorem skp_zero (k : Nat) : skp 0 k = k + 1 := by unfold skp; rw [if_neg (by omega)]
theorem skp_succ (j k : Nat) : skp (j + 1) (k + 1) = skp j k + 1 := by
  unfold skp
  by_cases h : k < j
  · rw [if_pos h, if_pos (by omega)]
  · rw [if_neg h, if_neg (by omega)]
theorem skp_first (j : Nat) (h : 0 < j) : skp j 0 = 0 := by unfold skp; rw [if_pos h]
abbrev Mx : Type := Nat → Nat → Int
def EqX (n : Nat) (A B : Mx) : Prop := ∀ r c, r < n → c < n → A r c = B r c
theorem EqX.symm {n : Nat} {A B : Mx} (h : EqX n A B) : EqX n B A := fun r c hr hc => (h r c hr hc).symm
theorem EqX.refl (n : Nat) (A : Mx) : EqX n A A := fun _ _ _ _ => rfl
def mnr (A : Mx) (i j : Nat) : Mx := fun r c => A (skp i r) (skp j c)
def stR (A : Mx) (r : Nat) (v : Nat → Int) : Mx := fun i j => if i = r then v j else A i j
theorem stR_at (A : Mx) (r : Nat) (v : Nat → Int) (c : Nat) : stR A r v r c = v c := if_pos rfl
theorem stR_ne (A : Mx) (r i : Nat) (v : Nat → Int) (c : Nat) (h : i ≠ r) : stR A r v i c = A i c := if_neg h
theorem stR_self (A : Mx) (r : Nat) : stR A r (A r) = A := by
  funext i j
  unfold stR
  split
  · rename_i h; rw [h]
  · rfl
theorem EqX.mnr {n i j : Nat} {A B : Mx} (h : EqX (n + 1) A B) : EqX n (mnr A i j) (mnr B i j) := fun _ _ hr hc => h _ _ (skp_lt hr) (skp_lt hc)
def det : Nat → Mx → Int
  | 0, _ => 1
  | n + 1, A => sumN (n + 1) fun i => sg i * A i 0 * det n (mnr A i 0)
theorem det_succ (n : Nat) (A : Mx) : det (n + 1) A = sumN (n + 1) fun i => sg i * A i 0 * det n (mnr A i 0) := rfl
theorem det_congr {n : Nat} {A B : Mx} (h : EqX n A B) : det n A = det n B := by
  induction n generalizing A B with
  | zero => rfl
  | succ n ih =>
    rw [det_succ, det_succ]
    refine sumN_congr fun i hi => ?_
    rw [h i 0 hi (by omega), ih h.mnr]
theorem mnr_stR_same (A : Mx) (r j : Nat) (v : Nat → Int) : mnr (stR A r v) r j = mnr A r j := by
  funext i c
  exact stR_ne A r _ v _ (skp_ne r i)
theorem mnr_stR (A : Mx) (i r j : Nat) (v : Nat → Int) (h : r ≠ i) : mnr (stR A r v) i j = stR (mnr A i j) (unskp i r) (fun c => v (skp j c)) := by
  funext k c
  show (if skp i k = r then v (skp j c) else A (skp i k) (skp j c)) = if k = unskp i r then v (skp j c) else A (skp i k) (skp j c)
  by_cases e : k = unskp i r
  · rw [if_pos e, if_pos (by rw [e]; exact skp_unskp h)]
  · rw [if_neg e, if_neg (fun e2 => e (by rw [← e2, unskp_skp]))]
def Loc (n : Nat) (f : Mx → Int) : Prop := ∀ A B, EqX n A B → f A = f B
def Lin (n : Nat) (f : Mx → Int) : Prop := ∀ (A : Mx) (r : Nat) (u v : Nat → Int) (x y : Int), r < n → f (stR A r fun c => x * u c + y * v c) = x * f (stR A r u) + y * f (stR A r v)
def AltAt (n r s : Nat) (f : Mx → Int) : Prop := ∀ A, (∀ c, c < n → A r c = A s c) → f A = 0
def Alt (n : Nat) (f : Mx → Int) : Prop := ∀ r s, r < s → s < n → AltAt n r s f
theorem det_loc (n : Nat) : Loc n (det n) := fun _ _ h => det_congr h
theorem det_lin (n : Nat) : Lin n (det n) := by
  induction n with
  | zero => intro A r u v x y hr; omega
  | succ n ih =>
    intro A r u v x y hr
    rw [det_succ, det_succ, det_succ, sumN_mul_left, sumN_mul_left, ← sumN_add]
    refine sumN_congr fun i hi => ?_
    by_cases h : i = r
    · subst h
      rw [stR_at, stR_at, stR_at, mnr_stR_same, mnr_stR_same, mnr_stR_same]
      generalize det n (mnr A i 0) = d
      generalize sg i = s
      grind
    · rw [stR_ne _ _ _ _ _ h, stR_ne _ _ _ _ _ h, stR_ne _ _ _ _ _ h, mnr_stR _ _ _ _ _ (Ne.symm h), mnr_stR _ _ _ _ _ (Ne.symm h), mnr_stR _ _ _ _ _ (Ne.symm h)]
      rw [ih (mnr A i 0) (unskp i r) (fun c => u (skp 0 c)) (fun c => v (skp 0 c)) x y (unskp_lt (Ne.symm h) hr hi)]
      generalize det n (stR (mnr A i 0) (unskp i r) fun c => u (skp 0 c)) = d
      generalize det n (stR (mnr A i 0) (unskp i r) fun c => v (skp 0 c)) = e
      generalize sg i = s
      grind
theorem det_adj (n : Nat) : ∀ r, r + 1 < n → AltAt n r (r + 1) (det n) := by
  induction n with
  | zero => intro r hr; omega
  | succ n ih =>
    intro r hr A hA
    rw [det_succ, sumN_two (a := r) (b := r + 1) (by omega) hr]
    · have e : EqX n (mnr A (r + 1) 0) (mnr A r 0) := fun k c hk hc => by
        show A (skp (r + 1) k) (skp 0 c) = A (skp r k) (skp 0 c)
        by_cases h : k = r
        · subst h
          have e1 : skp (k + 1) k = k := by unfold skp; rw [if_pos (by omega)]
          have e2 : skp k k = k + 1 := by unfold skp; rw [if_neg (by omega)]
          rw [e1, e2]
          exact hA _ (skp_lt hc)
        · have e1 : skp (r + 1) k = skp r k := by
            unfold skp
            by_cases h1 : k < r
            · rw [if_pos h1, if_pos (by omega)]
            · rw [if_neg h1, if_neg (by omega)]
          rw [e1]
      rw [det_congr e, sg_succ, hA 0 (by omega)]
      generalize det n (mnr A r 0) = d
      generalize sg r = s
      grind
    · intro i hi h1 h2
      have hz : det n (mnr A i 0) = 0 := by
        rcases Nat.lt_or_ge i r with h | h
        · refine ih (r - 1) (by omega) _ fun c hc => ?_
          show A (skp i (r - 1)) (skp 0 c) = A (skp i (r - 1 + 1)) (skp 0 c)
          have e1 : skp i (r - 1) = r := by unfold skp; rw [if_neg (by omega)]; omega
          have e2 : skp i (r - 1 + 1) = r + 1 := by unfold skp; rw [if_neg (by omega)]; omega
          rw [e1, e2]
          exact hA _ (skp_lt hc)
        · refine ih r (by omega) _ fun c hc => ?_
          show A (skp i r) (skp 0 c) = A (skp i (r + 1)) (skp 0 c)
          have e1 : skp i r = r := by unfold skp; rw [if_pos (by omega)]
          have e2 : skp i (r + 1) = r + 1 := by unfold skp; rw [if_pos (by omega)]
          rw [e1, e2]
          exact hA _ (skp_lt hc)
      rw [hz, Int.mul_zero]
def swR (A : Mx) (r s : Nat) : Mx := fun i j => if i = r then A s j else if i = s then A r j else A i j
theorem swap_of {n r s : Nat} {f : Mx → Int} (hl : Lin n f) (ha : AltAt n r s f) (hrs : r ≠ s) (hr : r < n) (hs : s < n) (A : Mx) : f (swR A r s) = -f A := by
  have L1 : ∀ (A : Mx) (q : Nat) (u v : Nat → Int), q < n → f (stR A q fun c => u c + v c) = f (stR A q u) + f (stR A q v) := fun A q u v hq => by
    have := hl A q u v 1 1 hq
    simp only [Int.one_mul] at this
    exact this
  have ee : ∀ u : Nat → Int, f (stR (stR A r u) s u) = 0 := fun u => ha _ fun c _ => by
    rw [stR_at, stR_ne _ _ _ _ _ hrs, stR_at]
  have h0 := ee (fun c => A r c + A s c)
  rw [L1 _ s _ _ hs] at h0
  have c1 : ∀ u v : Nat → Int, stR (stR A r u) s v = stR (stR A s v) r u := fun u v => by
    funext i j
    unfold stR
    by_cases h1 : i = s
    · subst h1; rw [if_pos rfl, if_neg (Ne.symm hrs), if_pos rfl]
    · rw [if_neg h1]
      by_cases h2 : i = r
      · rw [if_pos h2, if_pos h2]
      · rw [if_neg h2, if_neg h2, if_neg h1]
  rw [c1, c1, L1 _ r _ _ hr, L1 _ r _ _ hr, ← c1, ← c1, ← c1, ← c1, ee, ee] at h0
  have e1 : stR (stR A r (A r)) s (A s) = A := by rw [stR_self, stR_self]
  have e2 : stR (stR A r (A s)) s (A r) = swR A r s := by
    funext i j
    unfold stR swR
    by_cases h1 : i = s
    · subst h1; rw [if_pos rfl, if_neg (Ne.symm hrs), if_pos rfl]
    · rw [if_neg h1, if_neg h1]
  rw [e1, e2] at h0
  omega
theorem det_alt (n : Nat) : Alt n (det n) := by
  have key : ∀ d r, r + d + 1 < n → AltAt n r (r + d + 1) (det n) := by
    intro d
    induction d with
    | zero => intro r hr; exact det_adj n r hr
    | succ d ih =>
      intro r hr A hA
      have h1 := swap_of (det_lin n) (det_adj n (r + d + 1) hr) (by omega) (by omega) hr A
      have h2 := ih r (by omega) (swR A (r + d + 1) (r + d + 1 + 1)) fun c hc => by
        unfold swR
        rw [if_neg (by omega), if_neg (by omega), if_pos rfl]
        exact hA c hc
      rw [h2] at h1
      omega
  intro r s hrs hs
  obtain ⟨d, rfl⟩ : ∃ d, s = r + d + 1 := ⟨s - r - 1, by omega⟩
  exact key d r hs
theorem alt_at {n r s : Nat} {f : Mx → Int} (ha : Alt n f) (hrs : r ≠ s) (hr : r < n) (hs : s < n) : AltAt n r s f := by
  rcases Nat.lt_or_ge r s with h | h
  · exact ha r s h hs
  · exact fun A hA => ha s r (by omega) hr A fun c hc => (hA c hc).symm
theorem alt_swap {n r s : Nat} {f : Mx → Int} (hl : Lin n f) (ha : Alt n f) (hrs : r ≠ s) (hr : r < n) (hs : s < n) (A : Mx) : f (swR A r s) = -f A :=
  swap_of hl (alt_at ha hrs hr hs) hrs hr hs A
theorem lin_zero {n r : Nat} {f : Mx → Int} (hl : Lin n f) (hr : r < n) (A : Mx) : f (stR A r fun _ => 0) = 0 := by
  have := hl A r (fun _ => 0) (fun _ => 0) 0 0 hr
  simp only [Int.zero_mul, Int.add_zero] at this
  exact this
theorem lin_scale {n r : Nat} {f : Mx → Int} (hl : Lin n f) (hr : r < n) (A : Mx) (x : Int) (u : Nat → Int) : f (stR A r fun c => x * u c) = x * f (stR A r u) := by
  have := hl A r u u x 0 hr
  simp only [Int.zero_mul, Int.add_zero] at this
  exact this
theorem lin_sum {n r : Nat} {f : Mx → Int} (hl : Lin n f) (hr : r < n) (A : Mx) (m : Nat) (x : Nat → Int) (u : Nat → Nat → Int) :
    f (stR A r fun c => sumN m fun k => x k * u k c) = sumN m fun k => x k * f (stR A r (u k)) := by
  induction m with
  | zero => exact lin_zero hl hr A
  | succ m ih =>
    have := hl A r (fun c => sumN m fun k => x k * u k c) (u m) 1 (x m) hr
    simp only [Int.one_mul] at this
    show f (stR A r fun c => (sumN m fun k => x k * u k c) + x m * u m c) = _
    rw [this, ih]
    rfl
theorem alt_add {n r s : Nat} {f : Mx → Int} (hl : Lin n f) (ha : Alt n f) (hrs : r ≠ s) (hr : r < n) (hs : s < n) (A : Mx) (x : Int) : f (stR A r fun c => A r c + x * A s c) = f A := by
  have := hl A r (A r) (A s) 1 x hr
  simp only [Int.one_mul] at this
  rw [this, stR_self, alt_at ha hrs hr hs (stR A r (A s)) (fun c _ => by rw [stR_at, stR_ne _ _ _ _ _ (Ne.symm hrs)])]
  omega
end Go.Proofs.Ytpelnfenfeoeeaa
end

section
/-
  Plain mathematics of chapter 7: what rows span over the rational numbers; echelon forms are unique. Nothing of a program is used.
-/
namespace Go.Proofs.Ytpelnfenfeoeeaa
def InSp (r c : Nat) (A : Mx) (v : Nat → Int) : Prop := ∃ (d : Int) (k : Nat → Int), d ≠ 0 ∧ ∀ j, j < c → d * v j = sumN r fun i => k i * A i j
def SubSp (r s c : Nat) (A B : Mx) : Prop := ∀ i, i < r → InSp s c B (A i)
theorem InSp.congr {r c : Nat} {A : Mx} {v u : Nat → Int} (h : InSp r c A v) (e : ∀ j, j < c → u j = v j) : InSp r c A u := by
  obtain ⟨d, k, hd, hk⟩ := h
  exact ⟨d, k, hd, fun j hj => by rw [e j hj]; exact hk j hj⟩
theorem InSp.row {r c i : Nat} {A : Mx} (hi : i < r) : InSp r c A (A i) := by
  refine ⟨1, fun k => if k = i then 1 else 0, by decide, fun j _ => ?_⟩
  rw [sumN_one hi (fun k _ hne => by show (if k = i then (1 : Int) else 0) * A k j = 0; rw [if_neg hne, Int.zero_mul])]
  show 1 * A i j = (if i = i then (1 : Int) else 0) * A i j
  rw [if_pos rfl]
theorem InSp.zero (r c : Nat) (A : Mx) : InSp r c A fun _ => 0 := ⟨1, fun _ => 0, by decide, fun j _ => by rw [sumN_all_zero (fun k _ => by rw [Int.zero_mul])]; rfl⟩
theorem InSp.add {r c : Nat} {A : Mx} {u v : Nat → Int} (h : InSp r c A u) (h' : InSp r c A v) (x y : Int) : InSp r c A fun j => x * u j + y * v j := by
  obtain ⟨d, k, hd, hk⟩ := h
  obtain ⟨e, l, he, hl⟩ := h'
  refine ⟨d * e, fun i => x * e * k i + y * d * l i, Int.mul_ne_zero hd he, fun j hj => ?_⟩
  have e1 : d * e * (x * u j + y * v j) = x * e * (d * u j) + y * d * (e * v j) := by grind
  rw [e1, hk j hj, hl j hj, sumN_mul_left, sumN_mul_left, ← sumN_add]
  exact sumN_congr fun i _ => by grind
theorem InSp.comb {r c : Nat} {A : Mx} {V : Mx} {k : Nat → Int} : ∀ {m : Nat}, (∀ i, i < m → InSp r c A (V i)) → InSp r c A fun j => sumN m fun i => k i * V i j := by
  intro m
  induction m with
  | zero => intro _; exact InSp.zero r c A
  | succ m ih =>
    intro h
    have := (ih fun i hi => h i (by omega)).add (h m (by omega)) 1 (k m)
    exact this.congr fun j _ => by show sumN m _ + k m * V m j = _; rw [Int.one_mul]
theorem InSp.of_mul {r c : Nat} {A : Mx} {v : Nat → Int} {d : Int} (hd : d ≠ 0) (h : InSp r c A fun j => d * v j) : InSp r c A v := by
  obtain ⟨e, k, he, hk⟩ := h
  exact ⟨e * d, k, Int.mul_ne_zero he hd, fun j hj => by rw [Int.mul_assoc]; exact hk j hj⟩
theorem SubSp.mem {r s c : Nat} {A B : Mx} (h : SubSp r s c A B) {v : Nat → Int} (hv : InSp r c A v) : InSp s c B v := by
  obtain ⟨d, k, hd, hk⟩ := hv
  exact InSp.of_mul hd ((InSp.comb (k := k) h).congr hk)
theorem SubSp.trans {r s t c : Nat} {A B C : Mx} (h : SubSp r s c A B) (h' : SubSp s t c B C) : SubSp r t c A C := fun i hi => h'.mem (h i hi)
def Prim (c : Nat) (v : Nat → Int) : Prop := ∀ g : Int, 0 < g → (∀ j, j < c → g ∣ v j) → g = 1
structure Ech (r c : Nat) (A : Mx) (p : Nat → Nat) (t : Nat) : Prop where
  le : t ≤ r
  col : ∀ k, k < t → p k < c
  inc : ∀ k l, k < l → l < t → p k < p l
  pos : ∀ k, k < t → 0 < A k (p k)
  only : ∀ k i, k < t → i < r → i ≠ k → A i (p k) = 0
  left : ∀ k j, k < t → j < p k → A k j = 0
  rest : ∀ i j, t ≤ i → i < r → j < c → A i j = 0
  prim : ∀ k, k < t → Prim c (A k)
section
variable {r c t : Nat} {A : Mx} {p : Nat → Nat} {v : Nat → Int}
end
end Go.Proofs.Ytpelnfenfeoeeaa
end

section
/-
  Plain mathematics of chapter 7: primitive rows. Nothing of a program is used.
-/
namespace Go.Proofs.Ytpelnfenfeoeeaa
def gcdN : Nat → (Nat → Int) → Int
  | 0, _ => 0
  | n + 1, f => ((gcdN n f).gcd (f n) : Int)
def sgnN : Nat → (Nat → Int) → Int
  | 0, _ => 0
  | n + 1, f => if sgnN n f = 0 ∧ f n ≠ 0 then (if f n < 0 then -1 else 1) else sgnN n f
theorem gcdN_nonneg (n : Nat) (f : Nat → Int) : 0 ≤ gcdN n f := by
  cases n with
  | zero => exact Int.le_refl _
  | succ n => exact Int.natCast_nonneg _
theorem gcdN_dvd {n : Nat} {f : Nat → Int} : ∀ j, j < n → gcdN n f ∣ f j := by
  induction n with
  | zero => intro j hj; omega
  | succ n ih =>
    intro j hj
    rcases Nat.lt_or_ge j n with h | h
    · exact Int.dvd_trans (Int.gcd_dvd_left ..) (ih j h)
    · obtain rfl : j = n := by omega
      exact Int.gcd_dvd_right ..
theorem gcdN_max {n : Nat} {f : Nat → Int} {g : Int} : (∀ j, j < n → g ∣ f j) → g ∣ gcdN n f := by
  induction n with
  | zero => intro _; exact Int.dvd_zero g
  | succ n ih => intro h; exact Int.dvd_coe_gcd (ih fun j hj => h j (by omega)) (h n (by omega))
theorem gcdN_none {n : Nat} {f : Nat → Int} (h : gcdN n f = 0) : ∀ j, j < n → f j = 0 := fun j hj => by
  have := gcdN_dvd (f := f) j hj
  rw [h] at this
  exact Int.zero_dvd.mp this
theorem gcdN_all {n : Nat} {f : Nat → Int} (h : ∀ j, j < n → f j = 0) : gcdN n f = 0 := by
  induction n with
  | zero => rfl
  | succ n ih =>
    show ((gcdN n f).gcd (f n) : Int) = 0
    rw [ih fun j hj => h j (by omega), h n (by omega)]
    rfl
theorem gcdN_congr {n : Nat} {f g : Nat → Int} (h : ∀ j, j < n → f j = g j) : gcdN n f = gcdN n g := by
  induction n with
  | zero => rfl
  | succ n ih =>
    show ((gcdN n f).gcd (f n) : Int) = ((gcdN n g).gcd (g n) : Int)
    rw [ih fun j hj => h j (by omega), h n (by omega)]
theorem gcdN_num {n : Nat} {f : Nat → Int} (h : ∀ j, j < n → NumP (f j)) : NumP (gcdN n f) := by
  have h0 := gcdN_nonneg n f
  by_cases hz : gcdN n f = 0
  · rw [hz]; exact ⟨by decide, by decide⟩
  · have : ∃ j, j < n ∧ f j ≠ 0 := Classical.byContradiction fun hn => hz (gcdN_all fun j hj => Classical.byContradiction fun h1 => hn ⟨j, hj, h1⟩)
    obtain ⟨j, hj, hfj⟩ := this
    have hd := gcdN_dvd (f := f) j hj
    have hb := h j hj
    unfold NumP at hb ⊢
    have hle : gcdN n f ≤ (f j).natAbs := by
      refine Int.le_of_dvd (by omega) ?_
      exact Int.dvd_natAbs.mpr hd
    omega
theorem sgnN_congr {n : Nat} {f g : Nat → Int} (h : ∀ j, j < n → f j = g j) : sgnN n f = sgnN n g := by
  induction n with
  | zero => rfl
  | succ n ih =>
    show (if sgnN n f = 0 ∧ f n ≠ 0 then (if f n < 0 then (-1 : Int) else 1) else sgnN n f) = (if sgnN n g = 0 ∧ g n ≠ 0 then (if g n < 0 then (-1 : Int) else 1) else sgnN n g)
    rw [ih fun j hj => h j (by omega), h n (by omega)]
theorem sgnN_or (n : Nat) (f : Nat → Int) : sgnN n f = 0 ∨ sgnN n f = 1 ∨ sgnN n f = -1 := by
  induction n with
  | zero => exact .inl rfl
  | succ n ih =>
    have e : sgnN (n + 1) f = if sgnN n f = 0 ∧ f n ≠ 0 then (if f n < 0 then (-1 : Int) else 1) else sgnN n f := rfl
    rw [e]
    by_cases h : sgnN n f = 0 ∧ f n ≠ 0
    · rw [if_pos h]
      by_cases h2 : f n < 0
      · rw [if_pos h2]; exact .inr (.inr rfl)
      · rw [if_neg h2]; exact .inr (.inl rfl)
    · rw [if_neg h]; exact ih
theorem sgnN_none {n : Nat} {f : Nat → Int} : sgnN n f = 0 → ∀ j, j < n → f j = 0 := by
  induction n with
  | zero => intro _ j hj; omega
  | succ n ih =>
    intro h j hj
    have h' : (if sgnN n f = 0 ∧ f n ≠ 0 then (if f n < 0 then (-1 : Int) else 1) else sgnN n f) = 0 := h
    by_cases hc : sgnN n f = 0 ∧ f n ≠ 0
    · rw [if_pos hc] at h'
      split at h' <;> cases h'
    · rw [if_neg hc] at h'
      rcases Nat.lt_or_ge j n with h1 | h1
      · exact ih h' j h1
      · obtain rfl : j = n := by omega
        exact Classical.byContradiction fun h2 => hc ⟨h', h2⟩
theorem sgnN_all {n : Nat} {f : Nat → Int} (h : ∀ j, j < n → f j = 0) : sgnN n f = 0 := by
  induction n with
  | zero => rfl
  | succ n ih =>
    show (if sgnN n f = 0 ∧ f n ≠ 0 then (if f n < 0 then (-1 : Int) else 1) else sgnN n f) = 0
    rw [if_neg (fun hc => hc.2 (h n (by omega)))]
    exact ih fun j hj => h j (by omega)
theorem sgnN_first {n : Nat} {f : Nat → Int} {j : Nat} (hj : j < n) (h0 : ∀ i, i < j → f i = 0) (hn : f j ≠ 0) : sgnN n f = if f j < 0 then -1 else 1 := by
  induction n with
  | zero => omega
  | succ n ih =>
    show (if sgnN n f = 0 ∧ f n ≠ 0 then (if f n < 0 then (-1 : Int) else 1) else sgnN n f) = _
    rcases Nat.lt_or_ge j n with h | h
    · have e := ih h
      rw [if_neg (fun hc => by rw [e] at hc; have := hc.1; split at this <;> cases this)]
      exact e
    · obtain rfl : j = n := by omega
      rw [if_pos ⟨sgnN_all h0, hn⟩]
def prV (c : Nat) (v : Nat → Int) : Nat → Int := fun j => if gcdN c v = 0 then v j else (sgnN c v * v j).tdiv (gcdN c v)
theorem prV_congr {c : Nat} {u v : Nat → Int} (h : ∀ j, j < c → u j = v j) : ∀ j, j < c → prV c u j = prV c v j := fun j hj => by
  unfold prV
  rw [gcdN_congr h, sgnN_congr h, h j hj]
def Norm (c : Nat) (v : Nat → Int) : Prop := (gcdN c v = 0 ∨ gcdN c v = 1) ∧ (sgnN c v = 0 ∨ sgnN c v = 1)
theorem Norm.congr {c : Nat} {u v : Nat → Int} (h : Norm c u) (e : ∀ j, j < c → v j = u j) : Norm c v := by
  unfold Norm at *
  rw [gcdN_congr e, sgnN_congr e]
  exact h
theorem prV_mul {c : Nat} {v : Nat → Int} {j : Nat} (hj : j < c) (hg : gcdN c v ≠ 0) : gcdN c v * prV c v j = sgnN c v * v j := by
  unfold prV
  rw [if_neg hg]
  exact Int.mul_tdiv_cancel' (Int.dvd_trans (gcdN_dvd j hj) (Int.dvd_mul_left _ _))
theorem prV_id {c : Nat} {v : Nat → Int} (h : Norm c v) {j : Nat} (hj : j < c) : prV c v j = v j := by
  by_cases hg : gcdN c v = 0
  · unfold prV; rw [if_pos hg]
  · have h1 : gcdN c v = 1 := h.1.resolve_left hg
    have hs : sgnN c v = 1 := h.2.resolve_left (fun e => hg (gcdN_all (sgnN_none e)))
    have := prV_mul hj hg
    rw [h1, hs, Int.one_mul, Int.one_mul] at this
    exact this
theorem sgnN_ne {c : Nat} {v : Nat → Int} (hg : gcdN c v ≠ 0) : sgnN c v ≠ 0 := fun e => hg (gcdN_all (sgnN_none e))
theorem prV_zero {c : Nat} {v : Nat → Int} {j : Nat} (hj : j < c) : prV c v j = 0 ↔ v j = 0 := by
  by_cases hg : gcdN c v = 0
  · unfold prV; rw [if_pos hg]
  · have e := prV_mul hj hg
    have hs := sgnN_ne hg
    constructor
    · intro h
      rw [h, Int.mul_zero] at e
      rcases Int.mul_eq_zero.mp e.symm with h1 | h1
      · exact absurd h1 hs
      · exact h1
    · intro h
      rw [h, Int.mul_zero] at e
      rcases Int.mul_eq_zero.mp e with h1 | h1
      · exact absurd h1 hg
      · exact h1
theorem exists_first {c : Nat} {v : Nat → Int} (h : ∃ j, j < c ∧ v j ≠ 0) : ∃ j, j < c ∧ v j ≠ 0 ∧ ∀ i, i < j → v i = 0 := by
  obtain ⟨j, hj, hv⟩ := h
  induction j using Nat.strongRecOn with
  | ind j ih =>
    by_cases h : ∃ i, i < j ∧ v i ≠ 0
    · obtain ⟨i, hi, hvi⟩ := h
      exact ih i hi (by omega) hvi
    · exact ⟨j, hj, hv, fun i hi => Classical.byContradiction fun h1 => h ⟨i, hi, h1⟩⟩
theorem prV_norm (c : Nat) (v : Nat → Int) : Norm c (prV c v) := by
  by_cases hg : gcdN c v = 0
  · have h0 := gcdN_none hg
    have h1 : ∀ j, j < c → prV c v j = 0 := fun j hj => (prV_zero hj).mpr (h0 j hj)
    exact ⟨.inl (gcdN_all h1), .inl (sgnN_all h1)⟩
  · have g0 := gcdN_nonneg c v
    have hs := sgnN_ne hg
    have hne : ∃ j, j < c ∧ v j ≠ 0 := Classical.byContradiction fun hn => hg (gcdN_all fun j hj => Classical.byContradiction fun h1 => hn ⟨j, hj, h1⟩)
    refine ⟨.inr ?_, .inr ?_⟩
    · -- the product of both divisors divides all
      obtain ⟨e, he⟩ : ∃ e, gcdN c (prV c v) = e := ⟨_, rfl⟩
      have e0 := gcdN_nonneg c (prV c v)
      have hd : gcdN c v * e ∣ gcdN c v := gcdN_max fun j hj => by
        obtain ⟨q, hq⟩ := gcdN_dvd (f := prV c v) j hj
        have := prV_mul hj hg
        rw [hq, he] at this
        rcases sgnN_or c v with h1 | h1 | h1
        · exact absurd h1 hs
        · rw [h1, Int.one_mul] at this
          exact ⟨q, by rw [← this]; grind⟩
        · rw [h1] at this
          exact ⟨-q, by grind⟩
      obtain ⟨k, hk⟩ := hd
      have h1 : gcdN c v * (e * k) = gcdN c v * 1 := by rw [Int.mul_one, ← Int.mul_assoc]; exact hk.symm
      have h2 : e * k = 1 := Int.eq_of_mul_eq_mul_left hg h1
      rw [he] at e0 ⊢
      exact Int.eq_one_of_mul_eq_one_right e0 h2
    · obtain ⟨j, hj, hvj, h0⟩ := exists_first hne
      have hp : prV c v j ≠ 0 := fun e => hvj ((prV_zero hj).mp e)
      rw [sgnN_first hj (fun i hi => (prV_zero (by omega)).mpr (h0 i hi)) hp]
      have e := prV_mul hj hg
      have es := sgnN_first hj h0 hvj
      rw [es] at e
      rw [if_neg]
      intro hneg
      have hl : gcdN c v * prV c v j < 0 := Int.mul_neg_of_pos_of_neg (by omega) hneg
      split at e <;> omega
theorem prV_num {c : Nat} {v : Nat → Int} (h : ∀ j, j < c → NumP (v j)) {j : Nat} (hj : j < c) : NumP (prV c v j) := by
  unfold prV
  split
  · exact h j hj
  · have hb := h j hj
    have g0 := gcdN_nonneg c v
    obtain ⟨x, hx⟩ : ∃ x, sgnN c v * v j = x := ⟨_, rfl⟩
    have hxb : NumP x := by
      rw [← hx]
      unfold NumP at hb ⊢
      rcases sgnN_or c v with h1 | h1 | h1 <;> rw [h1] <;> omega
    rw [hx]
    unfold NumP at hxb ⊢
    have : (x.tdiv (gcdN c v)).natAbs ≤ x.natAbs := by
      rw [Int.natAbs_tdiv]
      exact Nat.div_le_self _ _
    omega
theorem of_prV {r c i : Nat} {A : Mx} (hi : i < r) {v : Nat → Int} (h : ∀ j, j < c → A i j = prV c v j) : InSp r c A v := by
  by_cases hg : gcdN c v = 0
  · exact (InSp.row hi).congr fun j hj => by rw [h j hj]; unfold prV; rw [if_pos hg]
  · refine InSp.of_mul (sgnN_ne hg) (((InSp.row (c := c) hi).add (InSp.zero r c A) (gcdN c v) 0).congr fun j hj => ?_)
    rw [h j hj, ← prV_mul hj hg]; simp
theorem Norm.prim {c : Nat} {v : Nat → Int} (h : Norm c v) {j : Nat} (hj : j < c) (hv : v j ≠ 0) : Prim c v := fun g hg hd => by
  have h1 : gcdN c v = 1 := h.1.resolve_left (fun e => hv (gcdN_none e j hj))
  have := gcdN_max hd
  rw [h1] at this
  have := Int.le_of_dvd (by decide) this
  omega
theorem Norm.pos {c : Nat} {v : Nat → Int} (h : Norm c v) {j : Nat} (hj : j < c) (h0 : ∀ i, i < j → v i = 0) (hv : v j ≠ 0) : 0 < v j := by
  have e := sgnN_first hj h0 hv
  have hs : sgnN c v = 1 := h.2.resolve_left (fun e => hv (sgnN_none e j hj))
  rw [hs] at e
  split at e
  · cases e
  · omega
end Go.Proofs.Ytpelnfenfeoeeaa
end

section
/-
  Plain mathematics of chapter 7: elimination over lists of cells with primitive rows ends in the echelon form. Nothing of a program is used.
-/
namespace Go.Proofs.Ytpelnfenfeoeeaa
def mxC (c : Nat) (xs : List Int) : Mx := fun i j => xs.getD (i * c + j) 0
theorem mxC_tab {r c : Nat} {f : Nat → Nat → Int} {i j : Nat} (hi : i < r) (hj : j < c) : mxC c (tab r c f) i j = f i j := tab_at r c f hi hj
def prL (r c i : Nat) (xs : List Int) : List Int := tab r c fun p q => if p = i then prV c (mxC c xs i) q else mxC c xs p q
def prTo (r c i : Nat) (xs : List Int) : List Int := tab r c fun p q => if p < i then prV c (mxC c xs p) q else mxC c xs p q
def rdV (j : Nat) (u v : Nat → Int) : Nat → Int := fun k => (v j).tdiv ((u j).gcd (v j)) * u k - (u j).tdiv ((u j).gcd (v j)) * v k
def rowN (c : Nat) (v : Nat → Int) : Bool := nums ((List.range c).map v)
def rdL (r c t j i : Nat) (xs : List Int) : List Int := tab r c fun p q => if p = i then prV c (rdV j (mxC c xs i) (mxC c xs t)) q else mxC c xs p q
def elimR (r c t j : Nat) : Nat → Nat → List Int → Option (List Int)
  | 0, _, xs => some xs
  | k + 1, i, xs => if i = t ∨ mxC c xs i j = 0 then elimR r c t j k (i + 1) xs
    else if rowN c (rdV j (mxC c xs i) (mxC c xs t)) = true then elimR r c t j k (i + 1) (rdL r c t j i xs) else none
def fstR (c j : Nat) (xs : List Int) : Nat → Nat → Nat
  | 0, p => p
  | k + 1, p => if mxC c xs p j = 0 then fstR c j xs k (p + 1) else p
def swC (p t c : Nat) (xs : List Int) : List Int := if p = t then xs else opL 0 p t 0 c xs
def echC (r c : Nat) : Nat → Nat → List Int → List Nat → Option (List Int × List Nat)
  | 0, _, xs, pv => some (xs, pv)
  | k + 1, j, xs, pv =>
    if pv.length < r then
      if fstR c j xs (r - pv.length) pv.length = r then echC r c k (j + 1) xs pv
      else match elimR r c pv.length j r 0 (swC (fstR c j xs (r - pv.length) pv.length) pv.length c xs) with
        | none => none
        | some ys => echC r c k (j + 1) ys (pv ++ [j])
    else some (xs, pv)
def echM (r c : Nat) (xs : List Int) : Option (List Int × List Nat) := echC r c c 0 (prTo r c r xs) []
theorem fstR_says {c j : Nat} {xs : List Int} : ∀ {k p : Nat}, p ≤ fstR c j xs k p ∧ fstR c j xs k p ≤ p + k ∧ (∀ q, p ≤ q → q < fstR c j xs k p → mxC c xs q j = 0) ∧ (fstR c j xs k p < p + k → mxC c xs (fstR c j xs k p) j ≠ 0) := by
  intro k
  induction k with
  | zero => intro p; exact ⟨Nat.le_refl _, Nat.le_refl _, fun q h1 h2 => absurd h2 (by show ¬ q < p; omega), fun h => absurd h (by show ¬ p < p + 0; omega)⟩
  | succ k ih =>
    intro p
    by_cases h : mxC c xs p j = 0
    · have e : fstR c j xs (k + 1) p = fstR c j xs k (p + 1) := if_pos h
      rw [e]
      obtain ⟨h1, h2, h3, h4⟩ := ih (p := p + 1)
      refine ⟨by omega, by omega, fun q h5 h6 => ?_, fun h5 => h4 (by omega)⟩
      rcases Nat.lt_or_ge p q with h7 | h7
      · exact h3 q h7 h6
      · obtain rfl : q = p := by omega
        exact h
    · have e : fstR c j xs (k + 1) p = p := if_neg h
      rw [e]
      exact ⟨Nat.le_refl _, by omega, fun q h1 h2 => by omega, fun _ => h⟩
theorem fstR_eq {c j : Nat} {xs : List Int} : ∀ {k p q : Nat}, p ≤ q → q ≤ p + k → (∀ i, p ≤ i → i < q → mxC c xs i j = 0) → (q < p + k → mxC c xs q j ≠ 0) → fstR c j xs k p = q := by
  intro k
  induction k with
  | zero => intro p q h1 h2 _ _; show p = q; omega
  | succ k ih =>
    intro p q h1 h2 hz hn
    show (if mxC c xs p j = 0 then fstR c j xs k (p + 1) else p) = q
    rcases Nat.lt_or_ge p q with h | h
    · rw [if_pos (hz p (Nat.le_refl _) h)]
      exact ih (by omega) (by omega) (fun i h3 h4 => hz i (by omega) h4) (fun h3 => hn (by omega))
    · obtain rfl : p = q := by omega
      rw [if_neg (hn (by omega))]
theorem opL_swapC {r c p t i j : Nat} {xs : List Int} (hx : xs.length = r * c) (hi : i < r) (hj : j < c) : mxC c (opL 0 p t 0 c xs) i j = mxC c xs (if i = p then t else if i = t then p else i) j := by
  have hp : i * c + j < xs.length := by rw [hx]; exact idx_lt hi hj
  unfold mxC opL
  simp only [List.getD, List.getElem?_map, List.getElem?_range hp, Option.map_some, Option.getD_some]
  unfold opAt
  rw [if_pos rfl, idx_div hj, idx_mod hj]
  by_cases h1 : i = p
  · rw [if_pos h1, if_pos h1]; rfl
  · rw [if_neg h1, if_neg h1]
    by_cases h2 : i = t
    · rw [if_pos h2, if_pos h2]; rfl
    · rw [if_neg h2, if_neg h2]; rfl
theorem swC_at {r c p t i j : Nat} {xs : List Int} (hx : xs.length = r * c) (hi : i < r) (hj : j < c) : mxC c (swC p t c xs) i j = mxC c xs (if i = p then t else if i = t then p else i) j := by
  unfold swC
  by_cases h : p = t
  · rw [if_pos h, h]
    by_cases h1 : i = t
    · rw [if_pos h1, h1]
    · rw [if_neg h1, if_neg h1]
  · rw [if_neg h, opL_swapC hx hi hj]
theorem swC_length (p t c : Nat) (xs : List Int) : (swC p t c xs).length = xs.length := by unfold swC; split; rfl; exact opL_length _ _ _ _ _ _
theorem gcd_pos' {x y : Int} (hy : y ≠ 0) : 0 < (x.gcd y : Int) := by
  have := Int.gcd_pos_of_ne_zero_right x hy
  omega
theorem rdV_col {u v : Nat → Int} {j : Nat} : rdV j u v j = 0 := by
  unfold rdV
  obtain ⟨a, ha⟩ : ((u j).gcd (v j) : Int) ∣ u j := Int.gcd_dvd_left ..
  obtain ⟨b, hb⟩ : ((u j).gcd (v j) : Int) ∣ v j := Int.gcd_dvd_right ..
  by_cases hg : ((u j).gcd (v j) : Int) = 0
  · rw [hg]; simp
  · obtain ⟨g, hgg⟩ : ∃ g, ((u j).gcd (v j) : Int) = g := ⟨_, rfl⟩
    rw [hgg] at ha hb hg ⊢
    have e1 : (u j).tdiv g = a := by rw [ha, Int.mul_tdiv_cancel_left _ hg]
    have e2 : (v j).tdiv g = b := by rw [hb, Int.mul_tdiv_cancel_left _ hg]
    rw [e1, e2, ha, hb]
    grind
theorem rdV_fac {u v : Nat → Int} {j : Nat} (hv : 0 < v j) : 0 < (v j).tdiv ((u j).gcd (v j)) := by
  obtain ⟨b, hb⟩ : ((u j).gcd (v j) : Int) ∣ v j := Int.gcd_dvd_right ..
  have hg := gcd_pos' (x := u j) (show v j ≠ 0 by omega)
  obtain ⟨g, hgg⟩ : ∃ g, ((u j).gcd (v j) : Int) = g := ⟨_, rfl⟩
  rw [hgg] at hb hg ⊢
  rw [hb, Int.mul_tdiv_cancel_left _ (by omega)]
  rw [hb] at hv
  exact Int.pos_of_mul_pos_right hv hg
theorem rdV_left {u v : Nat → Int} {j q : Nat} (hv : v q = 0) : rdV j u v q = (v j).tdiv ((u j).gcd (v j)) * u q := by
  unfold rdV
  rw [hv, Int.mul_zero]; omega
theorem InSp.prV {r c : Nat} {A : Mx} {v : Nat → Int} (h : InSp r c A v) : InSp r c A (prV c v) := by
  by_cases hg : gcdN c v = 0
  · exact h.congr fun j hj => by unfold Go.Proofs.Ytpelnfenfeoeeaa.prV; rw [if_pos hg]
  · refine InSp.of_mul hg ((h.add (InSp.zero r c A) (sgnN c v) 0).congr fun j hj => ?_)
    rw [prV_mul hj hg]; simp
structure EInv (r c : Nat) (M : Mx) (xs : List Int) (pv : List Nat) (j : Nat) : Prop where
  len : xs.length = r * c
  num : nums xs = true
  le : pv.length ≤ r
  jc : j ≤ c
  toM : SubSp r r c (mxC c xs) M
  ofM : SubSp r r c M (mxC c xs)
  norm : ∀ i, i < r → Norm c (mxC c xs i)
  col : ∀ k, k < pv.length → pv.getD k 0 < j
  inc : ∀ k l, k < l → l < pv.length → pv.getD k 0 < pv.getD l 0
  ne : ∀ k, k < pv.length → mxC c xs k (pv.getD k 0) ≠ 0
  only : ∀ k i, k < pv.length → i < r → i ≠ k → mxC c xs i (pv.getD k 0) = 0
  left : ∀ k q, k < pv.length → q < pv.getD k 0 → mxC c xs k q = 0
  rest : ∀ i q, pv.length ≤ i → i < r → q < j → mxC c xs i q = 0
theorem mx_nums {r c : Nat} {xs : List Int} (hx : xs.length = r * c) (h : nums xs = true) {i j : Nat} (hi : i < r) (hj : j < c) : NumP (mxC c xs i j) := nums_at h (by rw [hx]; exact idx_lt hi hj)
theorem tab_nums {r c : Nat} {f : Nat → Nat → Int} (h : ∀ i j, i < r → j < c → NumP (f i j)) : nums (tab r c f) = true := nums_true fun p hp => by
  rw [tab_length] at hp
  have hc : 0 < c := by
    rcases Nat.eq_zero_or_pos c with e | e
    · subst e; omega
    · exact e
  have e : p = p / c * c + p % c := by rw [Nat.mul_comm]; exact (Nat.div_add_mod p c).symm
  rw [e, tab_at r c _ (Nat.div_lt_of_lt_mul (by rw [Nat.mul_comm]; exact hp)) (Nat.mod_lt p hc)]
  exact h _ _ (Nat.div_lt_of_lt_mul (by rw [Nat.mul_comm]; exact hp)) (Nat.mod_lt p hc)
theorem EInv.start {r c : Nat} {xs : List Int} (hx : xs.length = r * c) (hn : nums xs = true) : EInv r c (mxC c xs) (prTo r c r xs) [] 0 where
  len := tab_length _ _ _
  num := tab_nums fun i j hi hj => by
    rw [if_pos hi]
    exact prV_num (fun q hq => mx_nums hx hn hi hq) hj
  le := Nat.zero_le _
  jc := Nat.zero_le _
  toM := fun i hi => (InSp.prV (InSp.row (A := mxC c xs) hi)).congr fun j hj => by
    show mxC c (tab r c _) i j = _
    rw [mxC_tab hi hj, if_pos hi]
  ofM := fun i hi => of_prV hi fun j hj => by
    show mxC c (tab r c _) i j = _
    rw [mxC_tab hi hj, if_pos hi]
  norm := fun i hi => (prV_norm c (mxC c xs i)).congr fun j hj => by
    show mxC c (tab r c _) i j = _
    rw [mxC_tab hi hj, if_pos hi]
  col := fun k hk => absurd hk (Nat.not_lt_zero _)
  inc := fun k l _ hl => absurd hl (Nat.not_lt_zero _)
  ne := fun k hk => absurd hk (Nat.not_lt_zero _)
  only := fun k i hk => absurd hk (Nat.not_lt_zero _)
  left := fun k q hk => absurd hk (Nat.not_lt_zero _)
  rest := fun i q _ _ hq => absurd hq (Nat.not_lt_zero _)
theorem EInv.skip {r c : Nat} {M : Mx} {xs : List Int} {pv : List Nat} {j : Nat} (h : EInv r c M xs pv j) (hj : j < c) (hz : ∀ i, pv.length ≤ i → i < r → mxC c xs i j = 0) : EInv r c M xs pv (j + 1) :=
  { h with
    jc := hj
    col := fun k hk => by have := h.col k hk; omega
    rest := fun i q hi hir hq => by
      rcases Nat.lt_or_ge q j with h1 | h1
      · exact h.rest i q hi hir h1
      · obtain rfl : q = j := by omega
        exact hz i hi hir }
theorem EInv.swap {r c : Nat} {M : Mx} {xs : List Int} {pv : List Nat} {j p : Nat} (h : EInv r c M xs pv j) (hp : pv.length ≤ p) (hpr : p < r) : EInv r c M (swC p pv.length c xs) pv j := by
  have at_ : ∀ i q, i < r → q < c → mxC c (swC p pv.length c xs) i q = mxC c xs (if i = p then pv.length else if i = pv.length then p else i) q := fun i q hi hq => swC_at h.len hi hq
  have low : ∀ i q, i < pv.length → q < c → mxC c (swC p pv.length c xs) i q = mxC c xs i q := fun i q hi hq => by rw [at_ i q (by omega) hq, if_neg (by omega), if_neg (by omega)]
  have big : ∀ i, pv.length ≤ i → i < r → pv.length ≤ (if i = p then pv.length else if i = pv.length then p else i) ∧ (if i = p then pv.length else if i = pv.length then p else i) < r := fun i h1 h2 => by
    split
    · omega
    · split <;> omega
  have any : ∀ i, i < r → (if i = p then pv.length else if i = pv.length then p else i) < r := fun i hi => by
    split
    · omega
    · split <;> omega
  refine ⟨by rw [swC_length]; exact h.len, ?_, h.le, h.jc, ?_, ?_, ?_, h.col, h.inc, ?_, ?_, ?_, ?_⟩
  · refine nums_true fun k hk => ?_
    rw [swC_length, h.len] at hk
    have hc : 0 < c := by
      rcases Nat.eq_zero_or_pos c with e | e
      · subst e; omega
      · exact e
    have e : k = k / c * c + k % c := by rw [Nat.mul_comm]; exact (Nat.div_add_mod k c).symm
    have h1 : k / c < r := Nat.div_lt_of_lt_mul (by rw [Nat.mul_comm]; exact hk)
    have := at_ (k / c) (k % c) h1 (Nat.mod_lt k hc)
    unfold mxC at this
    rw [e, this]
    exact mx_nums h.len h.num (any _ h1) (Nat.mod_lt k hc)
  · intro i hi
    exact (h.toM _ (any i hi)).congr fun q hq => at_ i q hi hq
  · intro i hi
    refine SubSp.mem (A := mxC c xs) (fun i hi => ?_) (h.ofM i hi)
    refine (InSp.row (A := mxC c (swC p pv.length c xs)) (any i hi)).congr fun q hq => ?_
    rw [at_ _ q (any i hi) hq]
    by_cases e1 : i = p
    · rw [if_pos e1]
      by_cases e2 : pv.length = p
      · rw [if_pos e2, e1, e2]
      · rw [if_neg e2, if_pos rfl, e1]
    · rw [if_neg e1]
      by_cases e2 : i = pv.length
      · rw [if_pos e2, if_pos rfl, e2]
      · rw [if_neg e2, if_neg e1, if_neg e2]
  · intro i hi
    exact (h.norm _ (any i hi)).congr fun q hq => at_ i q hi hq
  · intro k hk
    have := h.col k hk
    have := h.jc
    rw [low k _ hk (by omega)]
    exact h.ne k hk
  · intro k i hk hi hne
    have h1 := h.col k hk
    have h2 := h.jc
    rw [at_ i _ hi (by omega)]
    refine h.only k _ hk (any i hi) ?_
    split
    · omega
    · split <;> omega
  · intro k q hk hq
    have h1 := h.col k hk
    have h2 := h.jc
    rw [low k q hk (by omega)]
    exact h.left k q hk hq
  · intro i q hi hir hq
    have h2 := h.jc
    rw [at_ i q hir (by omega)]
    exact h.rest _ q (big i hi hir).1 (big i hi hir).2 hq
theorem EInv.reduce {r c : Nat} {M : Mx} {xs : List Int} {pv : List Nat} {j i : Nat} (h : EInv r c M xs pv j) (ht : pv.length < r) (hj : j < c) (hi : i < r) (hit : i ≠ pv.length) (hy : mxC c xs pv.length j ≠ 0) (hn : rowN c (rdV j (mxC c xs i) (mxC c xs pv.length)) = true) :
    EInv r c M (rdL r c pv.length j i xs) pv j ∧ (∀ p q, p < r → q < c → p ≠ i → mxC c (rdL r c pv.length j i xs) p q = mxC c xs p q) ∧ mxC c (rdL r c pv.length j i xs) i j = 0 := by
  obtain ⟨v, hv⟩ : ∃ v, rdV j (mxC c xs i) (mxC c xs pv.length) = v := ⟨_, rfl⟩
  have hyp : 0 < mxC c xs pv.length j := (h.norm _ ht).pos hj (fun q hq => h.rest _ q (Nat.le_refl _) ht hq) hy
  have fac := rdV_fac (u := mxC c xs i) (v := mxC c xs pv.length) (j := j) hyp
  have oth : ∀ p q, p < r → q < c → p ≠ i → mxC c (rdL r c pv.length j i xs) p q = mxC c xs p q := fun p q hp hq hne => by unfold rdL; rw [mxC_tab hp hq, if_neg hne]
  have own : ∀ q, q < c → mxC c (rdL r c pv.length j i xs) i q = prV c v q := fun q hq => by unfold rdL; rw [mxC_tab hi hq, if_pos rfl, hv]
  have lft : ∀ q, q < j → v q = (mxC c xs pv.length j).tdiv ((mxC c xs i j).gcd (mxC c xs pv.length j)) * mxC c xs i q := fun q hq => by rw [← hv]; exact rdV_left (h.rest _ q (Nat.le_refl _) ht hq)
  have zer : ∀ q, q < j → (mxC c (rdL r c pv.length j i xs) i q = 0 ↔ mxC c xs i q = 0) := fun q hq => by
    rw [own q (by omega), prV_zero (by omega), lft q hq]
    constructor
    · intro e; exact (Int.mul_eq_zero.mp e).resolve_left (by omega)
    · intro e; rw [e, Int.mul_zero]
  have vn : ∀ q, q < c → NumP (v q) := fun q hq => by
    have := nums_at hn (j := q) (by simpa using hq)
    rw [hv] at this
    simpa [List.getD, hq] using this
  have hvin : InSp r c (mxC c xs) v := ((InSp.row (c := c) hi).add (InSp.row ht) ((mxC c xs pv.length j).tdiv ((mxC c xs i j).gcd (mxC c xs pv.length j))) (-((mxC c xs i j).tdiv ((mxC c xs i j).gcd (mxC c xs pv.length j))))).congr fun q hq => by
    rw [← hv]; unfold rdV; grind
  refine ⟨⟨tab_length _ _ _, ?_, h.le, h.jc, ?_, ?_, ?_, h.col, h.inc, ?_, ?_, ?_, ?_⟩, oth, ?_⟩
  · refine tab_nums fun p q hp hq => ?_
    by_cases e : p = i
    · rw [if_pos e, hv]; exact prV_num vn hq
    · rw [if_neg e]; exact mx_nums h.len h.num hp hq
  · intro p hp
    by_cases e : p = i
    · subst e
      exact (h.toM.mem hvin.prV).congr own
    · exact (h.toM p hp).congr fun q hq => oth p q hp hq e
  · refine SubSp.trans h.ofM fun p hp => ?_
    by_cases e : p = i
    · subst e
      have hv' : InSp r c (mxC c (rdL r c pv.length j p xs)) v := of_prV hp own
      have ht' : InSp r c (mxC c (rdL r c pv.length j p xs)) (mxC c xs pv.length) := (InSp.row (c := c) ht).congr fun q hq => (oth _ q ht hq (fun e => hit e.symm)).symm
      refine InSp.of_mul (d := (mxC c xs pv.length j).tdiv ((mxC c xs p j).gcd (mxC c xs pv.length j))) (by omega) ((hv'.add ht' 1 ((mxC c xs p j).tdiv ((mxC c xs p j).gcd (mxC c xs pv.length j)))).congr fun q hq => ?_)
      rw [← hv]; unfold rdV; grind
    · exact (InSp.row (A := mxC c (rdL r c pv.length j i xs)) hp).congr fun q hq => (oth p q hp hq e).symm
  · intro p hp
    by_cases e : p = i
    · subst e
      exact (prV_norm c v).congr own
    · exact (h.norm p hp).congr fun q hq => oth p q hp hq e
  · intro k hk
    have h1 := h.col k hk
    by_cases e : k = i
    · subst e
      exact fun e => h.ne k hk ((zer _ h1).mp e)
    · rw [oth k _ (by omega) (by omega) e]; exact h.ne k hk
  · intro k p hk hp hne
    have h1 := h.col k hk
    by_cases e : p = i
    · subst e
      exact (zer _ h1).mpr (h.only k p hk hp hne)
    · rw [oth p _ hp (by omega) e]; exact h.only k p hk hp hne
  · intro k q hk hq
    have h1 := h.col k hk
    by_cases e : k = i
    · subst e
      exact (zer q (by omega)).mpr (h.left k q hk hq)
    · rw [oth k q (by omega) (by omega) e]; exact h.left k q hk hq
  · intro p q hp hpr hq
    by_cases e : p = i
    · subst e
      exact (zer q hq).mpr (h.rest p q hp hpr hq)
    · rw [oth p q hpr (by omega) e]; exact h.rest p q hp hpr hq
  · rw [own j hj, prV_zero hj, ← hv]
    exact rdV_col
theorem EInv.elim {r c : Nat} {M : Mx} {pv : List Nat} {j : Nat} (ht : pv.length < r) (hj : j < c) : ∀ (k i : Nat) (xs ys : List Int), i + k = r → EInv r c M xs pv j → mxC c xs pv.length j ≠ 0 → (∀ p, p < i → p ≠ pv.length → mxC c xs p j = 0) → elimR r c pv.length j k i xs = some ys →
    EInv r c M ys pv j ∧ mxC c ys pv.length j ≠ 0 ∧ ∀ p, p < r → p ≠ pv.length → mxC c ys p j = 0 := by
  intro k
  induction k with
  | zero =>
    intro i xs ys hik h hy hz he
    obtain rfl : i = r := by omega
    injection he with he
    subst he
    exact ⟨h, hy, fun p hp hne => hz p hp hne⟩
  | succ k ih =>
    intro i xs ys hik h hy hz he
    have he' : (if i = pv.length ∨ mxC c xs i j = 0 then elimR r c pv.length j k (i + 1) xs else if rowN c (rdV j (mxC c xs i) (mxC c xs pv.length)) = true then elimR r c pv.length j k (i + 1) (rdL r c pv.length j i xs) else none) = some ys := he
    by_cases h1 : i = pv.length ∨ mxC c xs i j = 0
    · rw [if_pos h1] at he'
      refine ih (i + 1) xs ys (by omega) h hy (fun p hp hne => ?_) he'
      rcases Nat.lt_or_ge p i with h2 | h2
      · exact hz p h2 hne
      · obtain rfl : p = i := by omega
        exact h1.resolve_left hne
    · rw [if_neg h1] at he'
      by_cases h2 : rowN c (rdV j (mxC c xs i) (mxC c xs pv.length)) = true
      · rw [if_pos h2] at he'
        have hi : i < r := by omega
        have hit : i ≠ pv.length := fun e => h1 (.inl e)
        obtain ⟨hr, ho, h0⟩ := h.reduce ht hj hi hit hy h2
        refine ih (i + 1) _ ys (by omega) hr (by rw [ho _ _ ht hj (fun e => hit e.symm)]; exact hy) (fun p hp hne => ?_) he'
        by_cases e : p = i
        · rw [e]; exact h0
        · rw [ho p j (by omega) hj e]; exact hz p (by omega) hne
      · rw [if_neg h2] at he'
        cases he'
theorem EInv.pivot {r c : Nat} {M : Mx} {xs : List Int} {pv : List Nat} {j : Nat} (h : EInv r c M xs pv j) (ht : pv.length < r) (hj : j < c) (hy : mxC c xs pv.length j ≠ 0) (hz : ∀ p, p < r → p ≠ pv.length → mxC c xs p j = 0) : EInv r c M xs (pv ++ [j]) (j + 1) := by
  have hl : (pv ++ [j]).length = pv.length + 1 := by simp
  have old : ∀ k, k < pv.length → (pv ++ [j]).getD k 0 = pv.getD k 0 := fun k hk => by rw [List.getD, List.getD, List.getElem?_append_left hk]
  have new : (pv ++ [j]).getD pv.length 0 = j := by simp [List.getD]
  refine ⟨h.len, h.num, by omega, hj, h.toM, h.ofM, h.norm, ?_, ?_, ?_, ?_, ?_, ?_⟩
  · intro k hk
    rcases Nat.lt_or_ge k pv.length with h1 | h1
    · rw [old k h1]; have := h.col k h1; omega
    · obtain rfl : k = pv.length := by omega
      rw [new]; omega
  · intro k l hkl hll
    rcases Nat.lt_or_ge l pv.length with h1 | h1
    · rw [old k (by omega), old l h1]; exact h.inc k l hkl h1
    · obtain rfl : l = pv.length := by omega
      rw [old k hkl, new]; exact h.col k hkl
  · intro k hk
    rcases Nat.lt_or_ge k pv.length with h1 | h1
    · rw [old k h1]; exact h.ne k h1
    · obtain rfl : k = pv.length := by omega
      rw [new]; exact hy
  · intro k i hk hi hne
    rcases Nat.lt_or_ge k pv.length with h1 | h1
    · rw [old k h1]; exact h.only k i h1 hi hne
    · obtain rfl : k = pv.length := by omega
      rw [new]; exact hz i hi hne
  · intro k q hk hq
    rcases Nat.lt_or_ge k pv.length with h1 | h1
    · rw [old k h1] at hq; exact h.left k q h1 hq
    · obtain rfl : k = pv.length := by omega
      rw [new] at hq; exact h.rest _ q (Nat.le_refl _) ht hq
  · intro i q hi hir hq
    rcases Nat.lt_or_ge q j with h1 | h1
    · exact h.rest i q (by omega) hir h1
    · obtain rfl : q = j := by omega
      exact hz i hir (by omega)
theorem EInv.all {r c : Nat} {M : Mx} : ∀ (k j : Nat) (xs : List Int) (pv : List Nat) (ys : List Int) (qv : List Nat), j + k = c → EInv r c M xs pv j → echC r c k j xs pv = some (ys, qv) → ∃ j', EInv r c M ys qv j' ∧ (j' = c ∨ qv.length = r) := by
  intro k
  induction k with
  | zero =>
    intro j xs pv ys qv hjk h he
    injection he with he
    injection he with e1 e2
    subst e1 e2
    obtain rfl : j = c := by omega
    exact ⟨j, h, .inl rfl⟩
  | succ k ih =>
    intro j xs pv ys qv hjk h he
    have he' : (if pv.length < r then
      if fstR c j xs (r - pv.length) pv.length = r then echC r c k (j + 1) xs pv
      else match elimR r c pv.length j r 0 (swC (fstR c j xs (r - pv.length) pv.length) pv.length c xs) with
        | none => none
        | some ys => echC r c k (j + 1) ys (pv ++ [j])
    else some (xs, pv)) = some (ys, qv) := he
    have hj : j < c := by omega
    by_cases ht : pv.length < r
    · rw [if_pos ht] at he'
      obtain ⟨f1, f2, f3, f4⟩ := fstR_says (c := c) (j := j) (xs := xs) (k := r - pv.length) (p := pv.length)
      by_cases hp : fstR c j xs (r - pv.length) pv.length = r
      · rw [if_pos hp] at he'
        refine ih (j + 1) xs pv ys qv (by omega) (h.skip hj fun i h1 h2 => f3 i h1 (by omega)) he'
      · rw [if_neg hp] at he'
        generalize fstR c j xs (r - pv.length) pv.length = p at f1 f2 f3 f4 hp he'
        have hs := h.swap f1 (show p < r by omega)
        have hy : mxC c (swC p pv.length c xs) pv.length j ≠ 0 := by
          rw [swC_at h.len ht hj]
          by_cases e : pv.length = p
          · rw [if_pos e, e]; exact f4 (by omega)
          · rw [if_neg e, if_pos rfl]; exact f4 (by omega)
        cases hel : elimR r c pv.length j r 0 (swC p pv.length c xs) with
        | none => rw [hel] at he'; cases he'
        | some zs =>
          rw [hel] at he'
          obtain ⟨h1, h2, h3⟩ := EInv.elim ht hj r 0 _ zs (by omega) hs hy (fun p hp => by omega) hel
          exact ih (j + 1) zs (pv ++ [j]) ys qv (by omega) (h1.pivot ht hj h2 h3) he'
    · rw [if_neg ht] at he'
      injection he' with he'
      injection he' with e1 e2
      subst e1 e2
      exact ⟨j, h, .inr (by have := h.le; omega)⟩
theorem EInv.ech {r c : Nat} {M : Mx} {xs : List Int} {pv : List Nat} {j : Nat} (h : EInv r c M xs pv j) (he : j = c ∨ pv.length = r) : Ech r c (mxC c xs) (fun k => pv.getD k 0) pv.length where
  le := h.le
  col := fun k hk => by have := h.col k hk; have := h.jc; omega
  inc := h.inc
  pos := fun k hk => by
    have h1 := h.col k hk
    have h2 := h.jc
    have h3 := h.le
    exact (h.norm k (by omega)).pos (by omega) (fun q hq => h.left k q hk hq) (h.ne k hk)
  only := h.only
  left := h.left
  rest := fun i q hi hir hq => by
    rcases he with e | e
    · exact h.rest i q hi hir (by omega)
    · omega
  prim := fun k hk => by
    have h1 := h.col k hk
    have h2 := h.jc
    have h3 := h.le
    exact (h.norm k (by omega)).prim (show pv.getD k 0 < c by omega) (h.ne k hk)
theorem echM_says {r c : Nat} {xs ys : List Int} {pv : List Nat} (hx : xs.length = r * c) (hn : nums xs = true) (h : echM r c xs = some (ys, pv)) :
    Ech r c (mxC c ys) (fun k => pv.getD k 0) pv.length ∧ SubSp r r c (mxC c ys) (mxC c xs) ∧ SubSp r r c (mxC c xs) (mxC c ys) ∧ ys.length = r * c ∧ nums ys = true ∧ ∀ i, i < r → Norm c (mxC c ys i) := by
  obtain ⟨j, h, e⟩ := EInv.all c 0 _ [] ys pv (by omega) (EInv.start hx hn) h
  exact ⟨h.ech e, h.toM, h.ofM, h.len, h.num, h.norm⟩
end Go.Proofs.Ytpelnfenfeoeeaa
end

section
/-
  Chapter 3, in the program: a row that shares its memory with the matrix.
-/
namespace Go.Proofs.Ytpelnfenfeoeeaa
set_option maxRecDepth 100000
open Go.RowKit
def rwL (c : Nat) (v : Nat → Int) : List Int := (List.range c).map v
theorem rwL_length (c : Nat) (v : Nat → Int) : (rwL c v).length = c := by simp [rwL]
theorem rwL_at {c : Nat} {v : Nat → Int} {j : Nat} (hj : j < c) : (rwL c v).getD j 0 = v j := by simp [rwL, List.getD, hj]
theorem rwL_congr {c : Nat} {u v : Nat → Int} (h : ∀ j, j < c → u j = v j) : rwL c u = rwL c v := List.map_congr_left fun j hj => h j (List.mem_range.mp hj)
def RowAt (q : Option Addr) (D c : Nat) (w : World) (e : Ending) (w' : World) : Prop :=
  ∃ (q' : Option Addr) (m' : Nat), e = .returned (.slice q' c m') ∧ c ≤ m' ∧ (∀ g o : Nat, q = some ⟨g, o, none⟩ → 0 < c → q' = some ⟨g, o + D, none⟩) ∧ (q = none → q' = none) ∧ Below w.heap.size w w'
theorem Rd.row {w : World} {q q' : Option Addr} {xs : List Int} {r c i : Nat} (h : Rd w q xs) (hx : xs.length = r * c) (hi : i < r) (hq : ∀ g o : Nat, q = some ⟨g, o, none⟩ → 0 < c → q' = some ⟨g, o + i * c, none⟩) : Rd w q' (rwL c (mxC c xs i)) := fun j hj => by
  rw [rwL_length] at hj
  obtain ⟨b, o, ha, hc⟩ := h (i * c + j) (by rw [hx]; exact idx_lt hi hj)
  refine ⟨b, o + i * c, hq b o ha (by omega), ?_⟩
  rw [rwL_at hj, Nat.add_assoc]
  exact hc
set_option maxHeartbeats 1000000 in
theorem iRowIn (r c i D N cap : Nat) (q : Option Addr) (w : World) (hq : Spot q) (hD : i * c = D) (hN : D + c ≤ N) (hc : N ≤ cap) (hn : q = none → cap = 0) (h1 : N ≤ 600) (hi : i ≤ 600) :
    Calls Try.prog 83 #[.agg #[.int .i64 r, .int .i64 c, .slice q N cap], .int .i64 i] w (RowAt q D c w) := by
  have u1 : (i : Int) * (c : Int) = (D : Int) := by rw [← hD]; exact (Int.natCast_mul _ _).symm
  have u2 : ((i : Int) + 1) * (c : Int) = ((D + c : Nat) : Int) := by rw [Int.add_mul, Int.one_mul, u1]; rfl
  have v1 : IntKind.i64.wrap ((i : Int) * (c : Int)) = (D : Int) := by rw [u1]; exact IntWalk.i64_in _ (by omega)
  have v2 : IntKind.i64.wrap ((i : Int) + 1) = (i : Int) + 1 := IntWalk.i64_in _ (by omega)
  have v3 : IntKind.i64.wrap (((i : Int) + 1) * (c : Int)) = ((D + c : Nat) : Int) := by rw [u2]; exact IntWalk.i64_in _ (by omega)
  have Z : Hid (c = 0 → D = 0) := fun h => by rw [← hD, h, Nat.mul_zero]
  have Dm : D + c ≤ cap := by omega
  have K0 : Hid (Blk3 (w.alloc (.cells #[.int .i64 r, .int .i64 c, .slice q N cap] 26)) w.heap.size 26 (.int .i64 r) (.int .i64 c) (.slice q N cap)) := Blk3.at_ _ _ _ _ rfl
  have B : Hid (Below w.heap.size w (w.alloc (.cells #[.int .i64 r, .int .i64 c, .slice q N cap] 26))) := (Below.refl _ _).alloc (Nat.le_refl _) _
  clear hD u1 u2
  rcases hq with rfl | ⟨g, o, rfl⟩
  · obtain rfl : cap = 0 := hn rfl
    obtain rfl : c = 0 := by omega
    obtain rfl : D = 0 := by omega
    obtain rfl : N = 0 := by omega
    go_enter Try.func83, Try.ntmps83
    go_wp2_with fail
    exact bodyPost_ret (v := .slice none 0 0) (by simp [results, Try.results83, go_sem]) rfl ⟨none, 0, rfl, Nat.le_refl _, (fun g o h => by cases h), (fun _ => rfl), B.out⟩
  · rcases Nat.lt_or_ge D cap with hlt | hge
    · go_enter Try.func83, Try.ntmps83
      go_wp2_with fail
      rw [show D + c - D = c by omega]
      exact bodyPost_ret (v := .slice (some ⟨g, o + D, none⟩) c (cap - D)) (by simp [results, Try.results83, go_sem]) rfl ⟨_, _, rfl, by omega, (fun g' o' h _ => by injection h with h; injection h with h1 h2; rw [h1, h2]), (fun h => by cases h), B.out⟩
    · obtain rfl : c = 0 := by omega
      obtain rfl : D = 0 := Z.out rfl
      obtain rfl : cap = 0 := by omega
      obtain rfl : N = 0 := by omega
      go_enter Try.func83, Try.ntmps83
      go_wp2_with fail
      exact bodyPost_ret (v := .slice (some ⟨g, o, none⟩) 0 0) (by simp [results, Try.results83, go_sem]) rfl ⟨_, _, rfl, Nat.le_refl _, (fun g' o' h h0 => by omega), (fun h => by cases h), B.out⟩
end Go.Proofs.Ytpelnfenfeoeeaa
end

section
/-
  What cutting out a row asks of a matrix's cells.
-/
namespace Go.Proofs.Ytpelnfenfeoeeaa
open Go.RowKit
structure CelA (a : Option Addr) (L m : Nat) : Prop where
  spot : Spot a
  le : L ≤ m
  nil : a = none → m = 0
theorem Own.celA {B N cap : Nat} {w : World} {q : Option Addr} {zs : List Int} (h : Own B w (.slice q N cap) zs) : CelA q N cap := by
  rcases h with ⟨e, -⟩ | ⟨g, c, e, -, -, h3, -⟩
  · injection e with e1 e2 e3
    subst e1 e2 e3
    exact ⟨.inl rfl, Nat.le_refl _, fun _ => rfl⟩
  · injection e with e1 e2 e3
    subst e1 e2 e3
    exact ⟨Spot.of _ _, h3, fun h => by cases h⟩
end Go.Proofs.Ytpelnfenfeoeeaa
end

section
/-
  Plain mathematics of chapter 12: lattices of rows; Hermite forms are unique. Nothing of a program is used.
-/
namespace Go.Proofs.Ytpelnfenfeoeeaa
def InL (r c : Nat) (A : Mx) (v : Nat → Int) : Prop := ∃ k : Nat → Int, ∀ j, j < c → v j = sumN r fun i => k i * A i j
def SubL (r s c : Nat) (A B : Mx) : Prop := ∀ i, i < r → InL s c B (A i)
section
variable {r s t c : Nat} {A B C : Mx} {u v : Nat → Int}
theorem InL.congr (h : InL r c A v) (e : ∀ j, j < c → u j = v j) : InL r c A u := by
  obtain ⟨k, hk⟩ := h
  exact ⟨k, fun j hj => (e j hj).trans (hk j hj)⟩
theorem sumN_unitL {n a : Nat} (ha : a < n) (f : Nat → Int) : (sumN n fun i => (if i = a then 1 else 0) * f i) = f a := by
  rw [sumN_one (a := a) ha (fun i hi hne => by rw [if_neg hne, Int.zero_mul]), if_pos rfl, Int.one_mul]
theorem InL.row {i : Nat} (hi : i < r) : InL r c A (A i) := ⟨fun k => if k = i then 1 else 0, fun j _ => (sumN_unitL hi fun k => A k j).symm⟩
theorem InL.zero : InL r c A fun _ => 0 := ⟨fun _ => 0, fun j _ => by rw [sumN_all_zero fun k _ => Int.zero_mul _]⟩
theorem InL.add (h : InL r c A u) (h' : InL r c A v) (x y : Int) : InL r c A fun j => x * u j + y * v j := by
  obtain ⟨k, hk⟩ := h
  obtain ⟨l, hl⟩ := h'
  refine ⟨fun i => x * k i + y * l i, fun j hj => ?_⟩
  show x * u j + y * v j = _
  rw [hk j hj, hl j hj, sumN_mul_left, sumN_mul_left, ← sumN_add]
  exact sumN_congr fun i _ => by grind
theorem InL.comb {V : Mx} {k : Nat → Int} : ∀ {m : Nat}, (∀ i, i < m → InL r c A (V i)) → InL r c A fun j => sumN m fun i => k i * V i j := by
  intro m
  induction m with
  | zero => intro _; exact InL.zero
  | succ m ih => intro h; exact ((ih fun i hi => h i (by omega)).add (h m (by omega)) 1 (k m)).congr fun j _ => by show (sumN m fun i => k i * V i j) + k m * V m j = _; rw [Int.one_mul]
theorem SubL.mem (h : SubL r s c A B) (hv : InL r c A v) : InL s c B v := by
  obtain ⟨k, hk⟩ := hv
  exact (InL.comb (k := k) h).congr hk
theorem SubL.trans (h : SubL r s c A B) (h' : SubL s t c B C) : SubL r t c A C := fun i hi => h'.mem (h i hi)
theorem SubL.congr (h : ∀ i j, i < r → j < c → A i j = B i j) : SubL r r c A B := fun i hi => (InL.row hi).congr fun j hj => h i j hi hj
end
structure HerP (r c : Nat) (A : Mx) (q : Nat → Nat) (t : Nat) : Prop where
  le : t ≤ r
  col : ∀ k, k < t → q k < c
  inc : ∀ k l, k < l → l < t → q k < q l
  pos : ∀ k, k < t → 0 < A k (q k)
  left : ∀ k j, k < t → j < q k → A k j = 0
  rest : ∀ i j, t ≤ i → i < r → j < c → A i j = 0
  above : ∀ k i, k < t → i < k → 0 ≤ A i (q k) ∧ A i (q k) < A k (q k)
section
variable {r s c t t' : Nat} {A B : Mx} {q q' : Nat → Nat} {v : Nat → Int}
theorem first_nz (k : Nat → Int) : ∀ m : Nat, (∀ i, i < m → k i = 0) ∨ ∃ a, a < m ∧ k a ≠ 0 ∧ ∀ i, i < a → k i = 0
  | 0 => .inl fun i hi => absurd hi (by omega)
  | m + 1 => by
    rcases first_nz k m with h | ⟨a, h1, h2, h3⟩
    · by_cases h0 : k m = 0
      · refine .inl fun i hi => ?_
        rcases Nat.lt_or_ge i m with h1 | h1
        · exact h i h1
        · obtain rfl : i = m := by omega
          exact h0
      · exact .inr ⟨m, by omega, h0, h⟩
    · exact .inr ⟨a, by omega, h2, h3⟩
end
end Go.Proofs.Ytpelnfenfeoeeaa
end

section
/-
  Plain mathematics of chapter 6: a matrix without a row and a column is a minor. Nothing of a program is used.
-/
namespace Go.Proofs.Ytpelnfenfeoeeaa
end Go.Proofs.Ytpelnfenfeoeeaa
end
