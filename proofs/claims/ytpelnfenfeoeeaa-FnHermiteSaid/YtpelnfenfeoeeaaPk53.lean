/-
  Texts of this seat, joined: ZCRI3b · ZCRI3c · ZCRI4 · ZCRwI · ZCCelA · ZCAcM
-/
import Derived.Deep.DeepCutAuto
import Derived.IntWalk
import Derived.Test.YtpelnfenfeoeeaaPk46
import Derived.Test.YtpelnfenfeoeeaaPk47
import Derived.Test.YtpelnfenfeoeeaaPk48
import Derived.Test.YtpelnfenfeoeeaaPk50
import Derived.Test.YtpelnfenfeoeeaaPk51
import Derived.Test.YtpelnfenfeoeeaaPk52

section
/-
  Chapter 5, in the program: DoRowOp, kind 1.
-/
namespace Go.Proofs.Ytpelnfenfeoeeaa
set_option maxRecDepth 100000
open Go.RowKit
set_option maxRecDepth 100000 in
set_option maxHeartbeats 1000000 in
theorem iOp_1 (R C I J : Nat) (a : Option Addr) (m : Nat) (t : Int) (xs : List Int) (w : World) (h : Rd w a xs) (hn : xs.length ≤ 16777216) (hm : isMat R C xs = true) (ho : isOp 1 I J t R = true) :
    Calls Try.prog 162 #[.agg #[.int .i64 R, .int .i64 C, .slice a xs.length m], .agg #[.int .i64 1, .int .i64 I, .int .i64 J, .int .i64 t]] w (MatRes (MR.done R C (opL 1 I J t C xs)) w) := by
  obtain ⟨⟨r1, r2⟩, ⟨c1, c2⟩, l1, nx⟩ := isMat_says hm
  obtain ⟨hk, -, ⟨i1, i2⟩, ⟨j1, j2⟩, ht, -⟩ := isOp_says ho
  have hIJ := isOp_rows1 ho
  rw [← Int.natCast_mul] at l1
  have hle : R * C ≤ 24 * 24 := Nat.mul_le_mul (by omega) (by omega)
  have hR : R ≤ 24 := by omega
  have hC : C ≤ 24 := by omega
  have hI : I < R := by omega
  have hJ : J < R := by omega
  have IJ := Lib.hid hIJ
  have NX := Lib.hid nx
  have HT := Lib.hid ht
  have M := Lib.hid hm
  have OP := Lib.hid ho
  have hn2 : xs.length ≤ 576 := by omega
  have hN0 : xs.length = R * C := by omega
  have B0 : ∀ o1 o2 o3, Below w.heap.size w (((w.alloc o1).alloc o2).alloc o3) := fun o1 o2 o3 => (((Below.refl _ _).alloc (Nat.le_refl _) _).alloc (by simp) _).alloc (by simp <;> omega) _
  have BH := Lib.hid B0
  have H := Lib.hid h
  obtain ⟨n, hx⟩ : ∃ n, xs.length = n := ⟨_, rfl⟩
  have HX := Lib.hid hx
  rw [hx] at hn hn2 hN0 ⊢
  have HN := Lib.hid hN0
  clear B0 h hx hm ho r1 r2 c1 c2 l1 i1 i2 j1 j2 hle hIJ hN0 nx ht
  go_enter Try.func162, Try.ntmps162
  go_wp2_with fail
  have ST := iIsMat R C a m xs _ (H.out.below (BH.out (.cells #[.int .i64 R, .int .i64 C, .slice a n m] 26) (.cells #[.int .i64 1, .int .i64 I, .int .i64 J, .int .i64 t] 97) (.cells #[.int .i64 0, .int .i64 0, .slice none 0 0] 26))) (by rw [HX.out]; omega)
  rw [HX.out] at ST
  refine ST.mono ?_
  clear ST
  rintro e w1 ⟨rfl, hb⟩
  have K0 : Hid (Blk3 w1 w.heap.size 26 (.int .i64 R) (.int .i64 C) (.slice a n m)) := (((Blk3.at_ _ _ _ _ rfl).old _).old _).keep hb (by simp <;> omega)
  have K1 : Hid (Blk4 w1 (w.heap.size + 1) 97 (.int .i64 1) (.int .i64 I) (.int .i64 J) (.int .i64 t)) := ((Blk4.at_ _ _ _ _ _ (by simp)).old _).keep hb (by simp <;> omega)
  have K2 : Hid (Blk3 w1 (w.heap.size + 1 + 1) 26 (.int .i64 0) (.int .i64 0) (.slice none 0 0)) := (Blk3.at_ _ _ _ _ (by simp)).keep hb (by simp)
  have B : Hid (Below w.heap.size w w1) := (BH.out _ _ _).trans (hb.mono (by simp <;> omega))
  clear hb
  obtain ⟨ca0, ca1, ca2, -, -, -⟩ := K0.out.all
  obtain ⟨cb0, cb1, cb2, cb3⟩ := K1.out.all
  obtain ⟨cc0, cc1, cc2, ff0, ff1, ff2⟩ := K2.out.all
  rw [M.out]
  go_wp2_with fail
  refine (iIsOp 1 I J t R _).mono ?_
  rintro e w2 ⟨rfl, hb⟩
  have K0 := Lib.hid (K0.out.step hb)
  have K1 := Lib.hid (K1.out.step hb)
  have K2 := Lib.hid (K2.out.step hb)
  have B := Lib.hid (stepB B.out hb)
  clear hb ca0 ca1 ca2 cb0 cb1 cb2 cb3 cc0 cc1 cc2 ff0 ff1 ff2
  obtain ⟨da0, da1, da2, -, -, -⟩ := K0.out.all
  obtain ⟨db0, db1, db2, db3⟩ := K1.out.all
  obtain ⟨dc0, dc1, dc2, gf0, gf1, gf2⟩ := K2.out.all
  rw [OP.out]
  go_upto_region 3 with fail
  go_cut [6, 7] (fun s6 s7 wx => ∃ (p6 : Nat) (v0 : Value), s6 = .pointer (some ⟨p6, 0, none⟩) ∧ s7 = .iface 147 (aggO 1 I J t) ∧ Blk3 wx p6 26 (.int .i64 R) (.int .i64 C) v0 ∧ In w2.heap.size wx.heap.size wx v0 xs ∧ Below w2.heap.size w2 wx)
  case first =>
    refine wp_region_held_drew (S := fun w' => Below w2.heap.size w2 w') (by kernel_rfl) (Below.refl _ _).drew (fun hH => ?_)
    refine wpAnyH_take (i := 0) (v := ?_) (by simp only [List.getElem?_toArray, List.getElem?_cons_zero]; rfl) (by kernel_rfl) (by kernel_rfl) (by kernel_rfl) (by exact fun _ _ _ h => h) (Or.inl ⟨by rfl, ?_⟩) hH ?_
    rotate_left
    · (intro wS hS; (try dsimp only at hS); obtain ⟨k1, k2, k3, k4, k5, k6, k7⟩ := sevB K0.out K1.out hS; go_simp; try rfl)
    try simp only [Act.put, List.setIfInBounds_toArray, List.set_cons_zero, List.set_cons_succ]
    refine wpAnyH_take (i := 2) (v := ?_) (by simp only [List.getElem?_toArray, List.getElem?_cons_succ, List.getElem?_cons_zero]; rfl) (by kernel_rfl) (by kernel_rfl) (by kernel_rfl) (by exact fun _ _ _ h => h) (Or.inl ⟨by rfl, ?_⟩) hH ?_
    rotate_left
    · (intro wS hS; (try dsimp only at hS); obtain ⟨k1, k2, k3, k4, k5, k6, k7⟩ := sevB K0.out K1.out hS; go_simp; try rfl)
    try simp only [Act.put, List.setIfInBounds_toArray, List.set_cons_zero, List.set_cons_succ]
    refine wpAnyH_ready (rs := [1, 4]) (by kernel_rfl) (by simp) ?_
    refine AllReadyH.cons (by simp only [List.getElem?_toArray, List.getElem?_cons_succ, List.getElem?_cons_zero]; rfl) (fun K hK => ?_) (AllReadyH.cons (by simp only [List.getElem?_toArray, List.getElem?_cons_succ, List.getElem?_cons_zero]; rfl) (fun K hK => ?_) AllReadyH.nil)
    · go_simp
      have hs1 := hH.size
      (with_reducible refine (iCopyOf R C a m n xs HX.out _ (H.out.below (B.out.trans (hH.mono B.out.size))) (by omega)).mono ?_)
      rintro e v1 ⟨q0, qc, rfl, own, hb1⟩
      have O := Lib.hid own.inn
      clear own
      try dsimp only
      refine hK.out _ _ ?_ (fun hH2 => ?_)
      · exact hH.trans (hb1.mono hH.size)
      clear hK K
      have hO := hH
      clear hH
      have hH := hH2
      clear hH2
      try simp only [Act.put, List.setIfInBounds_toArray, List.set_cons_zero, List.set_cons_succ]
      have z1 := hb1.size
      refine wpAnyH_ready (rs := [3, 4]) (by kernel_rfl) (by simp) ?_
      refine AllReadyH.cons (by simp only [List.getElem?_toArray, List.getElem?_cons_succ, List.getElem?_cons_zero]; rfl) (fun K hK => ?_) (AllReadyH.cons (by simp only [List.getElem?_toArray, List.getElem?_cons_succ, List.getElem?_cons_zero]; rfl) (fun K hK => ?_) AllReadyH.nil)
      · go_simp
        have hs3 := hH.size
        (with_reducible refine (iOpOf1 I J t _).mono ?_)
        rintro e v3 ⟨rfl, hb3⟩
        have O := Lib.hid (O.out.keep hb3)
        try dsimp only
        refine hK.out _ _ ?_ (fun hH2 => ?_)
        · exact hH.trans (hb3.mono hH.size)
        clear hK K
        have hO := hH
        clear hH
        have hH := hH2
        clear hH2
        try simp only [Act.put, List.setIfInBounds_toArray, List.set_cons_zero, List.set_cons_succ]
        have z3 := hb3.size
        refine wpAnyH_ready (rs := [4]) (by kernel_rfl) (by simp) ?_
        refine AllReadyH.cons (by simp only [List.getElem?_toArray, List.getElem?_cons_succ, List.getElem?_cons_zero]; rfl) (fun K hK => ?_) AllReadyH.nil
        go_simp
        have VB : Hid (Blk3 (v3.alloc (.cells #[.int .i64 0, .int .i64 0, .slice none 0 0] 26)) v3.heap.size 26 (.int .i64 0) (.int .i64 0) (.slice none 0 0)) := Blk3.at_ _ _ _ _ rfl
        have PL : w2.heap.size ≤ v3.heap.size := hH.size
        try dsimp only
        refine hK.out _ _ ?_ (fun hH2 => ?_)
        · exact hH.alloc hH.size _
        clear hK K
        have hO := hH
        clear hH
        have hH := hH2
        clear hH2
        try simp only [Act.put, List.setIfInBounds_toArray, List.set_cons_zero, List.set_cons_succ]
        refine wpAnyH_ready (rs := [5]) (by kernel_rfl) (by simp) ?_
        refine AllReadyH.cons (by simp only [List.getElem?_toArray, List.getElem?_cons_succ, List.getElem?_cons_zero]; rfl) (fun K hK => ?_) AllReadyH.nil
        go_simp
        have VB : Hid (Blk3 (v3.alloc (.cells #[.int .i64 R, .int .i64 C, .slice q0 n qc] 26)) v3.heap.size 26 (.int .i64 R) (.int .i64 C) (.slice q0 n qc)) := Blk3.at_ _ _ _ _ rfl
        try dsimp only
        refine hK.out _ _ ?_ (fun hH2 => ?_)
        · exact hO.alloc hO.size _
        clear hK K
        have hO := hH
        clear hH
        have hH := hH2
        clear hH2
        try simp only [Act.put, List.setIfInBounds_toArray, List.set_cons_zero, List.set_cons_succ]
        refine wpAnyH_take (i := 6) (v := ?_) (by simp only [List.getElem?_toArray, List.getElem?_cons_succ, List.getElem?_cons_zero]; rfl) (by kernel_rfl) (by kernel_rfl) (by kernel_rfl) (by exact fun _ _ _ h => h) (Or.inl ⟨by rfl, ?_⟩) hH ?_
        rotate_left
        · (intro wS hS; clear hS; go_simp; try rfl)
        try simp only [Act.put, List.setIfInBounds_toArray, List.set_cons_zero, List.set_cons_succ]
        refine wpAnyH_done (by kernel_rfl) ?_ _
        go_wp2_with fail
        go_meet
        exact ⟨v3.heap.size, _, rfl, rfl, VB.out, (O.out.old _).wide hs1 (by have := hb3.size; first | (simp; done) | (simp; omega) | omega), hH⟩
      · go_simp
        have VB : Hid (Blk3 (v1.alloc (.cells #[.int .i64 0, .int .i64 0, .slice none 0 0] 26)) v1.heap.size 26 (.int .i64 0) (.int .i64 0) (.slice none 0 0)) := Blk3.at_ _ _ _ _ rfl
        have O := Lib.hid (O.out.old (.cells #[.int .i64 0, .int .i64 0, .slice none 0 0] 26))
        have PL : w2.heap.size ≤ v1.heap.size := hH.size
        try dsimp only
        refine hK.out _ _ ?_ (fun hH2 => ?_)
        · exact hH.alloc hH.size _
        clear hK K
        have hO := hH
        clear hH
        have hH := hH2
        clear hH2
        try simp only [Act.put, List.setIfInBounds_toArray, List.set_cons_zero, List.set_cons_succ]
        refine wpAnyH_ready (rs := [3]) (by kernel_rfl) (by simp) ?_
        refine AllReadyH.cons (by simp only [List.getElem?_toArray, List.getElem?_cons_succ, List.getElem?_cons_zero]; rfl) (fun K hK => ?_) AllReadyH.nil
        go_simp
        have hs3 := hH.size
        have lb3 := VB.out.lt
        (with_reducible refine (iOpOf1 I J t _).mono ?_)
        rintro e v3 ⟨rfl, hb3⟩
        have O := Lib.hid (O.out.keep hb3)
        have VB := Lib.hid (VB.out.keep hb3 VB.out.lt)
        try dsimp only
        refine hK.out _ _ ?_ (fun hH2 => ?_)
        · exact hH.trans (hb3.mono hH.size)
        clear hK K
        have hO := hH
        clear hH
        have hH := hH2
        clear hH2
        try simp only [Act.put, List.setIfInBounds_toArray, List.set_cons_zero, List.set_cons_succ]
        have z3 := hb3.size
        refine wpAnyH_ready (rs := [5]) (by kernel_rfl) (by simp) ?_
        refine AllReadyH.cons (by simp only [List.getElem?_toArray, List.getElem?_cons_succ, List.getElem?_cons_zero]; rfl) (fun K hK => ?_) AllReadyH.nil
        obtain ⟨y0, y1, y2, y3, y4, y5⟩ := VB.out.all
        go_simp
        have VB := Lib.hid (((VB.out.set0 (.int .i64 R)).set1 (.int .i64 C)).set2 (.slice q0 n qc))
        try dsimp only
        refine hK.out _ _ ?_ (fun hH2 => ?_)
        · exact (((hH.setCell PL _).setCell PL _).setCell PL _)
        clear hK K
        have hO := hH
        clear hH
        have hH := hH2
        clear hH2
        try simp only [Act.put, List.setIfInBounds_toArray, List.set_cons_zero, List.set_cons_succ]
        refine wpAnyH_take (i := 6) (v := ?_) (by simp only [List.getElem?_toArray, List.getElem?_cons_succ, List.getElem?_cons_zero]; rfl) (by kernel_rfl) (by kernel_rfl) (by kernel_rfl) (by exact fun _ _ _ h => h) (Or.inl ⟨by rfl, ?_⟩) hH ?_
        rotate_left
        · (intro wS hS; clear hS; go_simp; try rfl)
        try simp only [Act.put, List.setIfInBounds_toArray, List.set_cons_zero, List.set_cons_succ]
        refine wpAnyH_done (by kernel_rfl) ?_ _
        go_wp2_with fail
        go_meet
        exact ⟨v1.heap.size, _, rfl, rfl, VB.out, (((O.out.far (by first | exact .inl lb1 | exact .inr (Nat.le_refl _) | omega) _).far (by first | exact .inl lb1 | exact .inr (Nat.le_refl _) | omega) _).far (by first | exact .inl lb1 | exact .inr (Nat.le_refl _) | omega) _).wide hs1 (by have := hb3.size; first | (simp; done) | (simp; omega) | omega), hH⟩
    · go_simp
      have VB : Hid (Blk3 (w2.drew.alloc (.cells #[.int .i64 0, .int .i64 0, .slice none 0 0] 26)) w2.heap.size 26 (.int .i64 0) (.int .i64 0) (.slice none 0 0)) := Blk3.at_ _ _ _ _ rfl
      have PL : w2.heap.size ≤ w2.drew.heap.size := hH.size
      try dsimp only
      refine hK.out _ _ ?_ (fun hH2 => ?_)
      · exact hH.alloc hH.size _
      clear hK K
      have hO := hH
      clear hH
      have hH := hH2
      clear hH2
      try simp only [Act.put, List.setIfInBounds_toArray, List.set_cons_zero, List.set_cons_succ]
      refine wpAnyH_ready (rs := [1]) (by kernel_rfl) (by simp) ?_
      refine AllReadyH.cons (by simp only [List.getElem?_toArray, List.getElem?_cons_succ, List.getElem?_cons_zero]; rfl) (fun K hK => ?_) AllReadyH.nil
      go_simp
      have hs1 := hH.size
      have lb1 := VB.out.lt
      (with_reducible refine (iCopyOf R C a m n xs HX.out _ (H.out.below (B.out.trans (hH.mono B.out.size))) (by omega)).mono ?_)
      rintro e v1 ⟨q0, qc, rfl, own, hb1⟩
      have O := Lib.hid own.inn
      clear own
      have VB := Lib.hid (VB.out.keep hb1 VB.out.lt)
      try dsimp only
      refine hK.out _ _ ?_ (fun hH2 => ?_)
      · exact hH.trans (hb1.mono hH.size)
      clear hK K
      have hO := hH
      clear hH
      have hH := hH2
      clear hH2
      try simp only [Act.put, List.setIfInBounds_toArray, List.set_cons_zero, List.set_cons_succ]
      have z1 := hb1.size
      refine wpAnyH_ready (rs := [3]) (by kernel_rfl) (by simp) ?_
      refine AllReadyH.cons (by simp only [List.getElem?_toArray, List.getElem?_cons_succ, List.getElem?_cons_zero]; rfl) (fun K hK => ?_) AllReadyH.nil
      go_simp
      have hs3 := hH.size
      have lb3 := VB.out.lt
      (with_reducible refine (iOpOf1 I J t _).mono ?_)
      rintro e v3 ⟨rfl, hb3⟩
      have O := Lib.hid (O.out.keep hb3)
      have VB := Lib.hid (VB.out.keep hb3 VB.out.lt)
      try dsimp only
      refine hK.out _ _ ?_ (fun hH2 => ?_)
      · exact hH.trans (hb3.mono hH.size)
      clear hK K
      have hO := hH
      clear hH
      have hH := hH2
      clear hH2
      try simp only [Act.put, List.setIfInBounds_toArray, List.set_cons_zero, List.set_cons_succ]
      have z3 := hb3.size
      refine wpAnyH_ready (rs := [5]) (by kernel_rfl) (by simp) ?_
      refine AllReadyH.cons (by simp only [List.getElem?_toArray, List.getElem?_cons_succ, List.getElem?_cons_zero]; rfl) (fun K hK => ?_) AllReadyH.nil
      obtain ⟨y0, y1, y2, y3, y4, y5⟩ := VB.out.all
      go_simp
      have VB := Lib.hid (((VB.out.set0 (.int .i64 R)).set1 (.int .i64 C)).set2 (.slice q0 n qc))
      try dsimp only
      refine hK.out _ _ ?_ (fun hH2 => ?_)
      · exact (((hH.setCell PL _).setCell PL _).setCell PL _)
      clear hK K
      have hO := hH
      clear hH
      have hH := hH2
      clear hH2
      try simp only [Act.put, List.setIfInBounds_toArray, List.set_cons_zero, List.set_cons_succ]
      refine wpAnyH_take (i := 6) (v := ?_) (by simp only [List.getElem?_toArray, List.getElem?_cons_succ, List.getElem?_cons_zero]; rfl) (by kernel_rfl) (by kernel_rfl) (by kernel_rfl) (by exact fun _ _ _ h => h) (Or.inl ⟨by rfl, ?_⟩) hH ?_
      rotate_left
      · (intro wS hS; clear hS; go_simp; try rfl)
      try simp only [Act.put, List.setIfInBounds_toArray, List.set_cons_zero, List.set_cons_succ]
      refine wpAnyH_done (by kernel_rfl) ?_ _
      go_wp2_with fail
      go_meet
      exact ⟨w2.heap.size, _, rfl, rfl, VB.out, (((O.out.far (by first | exact .inl lb1 | exact .inr (Nat.le_refl _) | omega) _).far (by first | exact .inl lb1 | exact .inr (Nat.le_refl _) | omega) _).far (by first | exact .inl lb1 | exact .inr (Nat.le_refl _) | omega) _).wide hs1 (by have := hb3.size; first | (simp; done) | (simp; omega) | omega), hH⟩
  case rest =>
    obtain ⟨p6, v0, rfl, rfl, k6, in0, hb⟩ := hcut
    have lK0 := K0.out.lt
    have lK1 := K1.out.lt
    have lK2 := K2.out.lt
    have K0 := Lib.hid (K0.out.step hb)
    have K1 := Lib.hid (K1.out.step hb)
    have K2 := Lib.hid (K2.out.step hb)
    have B := Lib.hid (stepB B.out hb)
    have K6 := Lib.hid k6
    have LP := hb.size
    clear hb k6 da0 da1 da2 db0 db1 db2 db3 dc0 dc1 dc2 gf0 gf1 gf2
    obtain ⟨cc0, cc1, cc2, -, -, -⟩ := K0.out.all
    have lw : w.heap.size ≤ w2.heap.size := by have := B.out.size; omega
    rcases in0.cases with ⟨rfl, rfl⟩ | ⟨g, qc, hv, gB, -, gi, gc⟩
    · obtain rfl : n = 0 := HX.out.symm
      have hC0 : C ≤ 0 := by
        rcases Nat.eq_zero_or_pos C with h | h
        · omega
        · have := Nat.mul_pos (show 0 < R by omega) h
          have := HN.out
          omega
      have EQ : Hid (MR.done R C (opL 1 I J t C []) = MR.done R C []) := rfl
      clear in0
      go_wp2_with fail
      go_loopw [31] (fun i wr => i = .int .i64 0 ∧ wr = wc) (fun _ _ => 0)
      case atStart => exact ⟨rfl, rfl⟩
      case round =>
        obtain ⟨rfl, rfl⟩ := hrel
        obtain ⟨dd0, dd1, dd2, -, -, -⟩ := K6.out.all
        go_wp2_with fail
        refine (iDone R C none 0 [] wr (Rd.nil _ _) (by simp)).mono ?_
        rintro e w4 ⟨rfl, hb⟩
        have R2 := Lib.hid (K2.out.step hb)
        have B := Lib.hid (stepB B.out hb)
        clear hb
        obtain ⟨s0, s1, s2, t0, t1, t2⟩ := R2.out.all
        have be : ∀ x y z, Below w.heap.size w (((w4.setCell ⟨w.heap.size + 1 + 1, 0, none⟩ x).setCell ⟨w.heap.size + 1 + 1, 1, none⟩ y).setCell ⟨w.heap.size + 1 + 1, 2, none⟩ z) := fun x y z =>
          (((B.out.setCell (by show w.heap.size ≤ w.heap.size + 1 + 1; omega) _).setCell (by show w.heap.size ≤ w.heap.size + 1 + 1; omega) _).setCell (by show w.heap.size ≤ w.heap.size + 1 + 1; omega) _)
        have BE := Lib.hid be
        clear be
        rcases Bool.eq_false_or_eq_true (isMat R C []) with hd | hd
        · have E : Hid (MR.done R C [] = ⟨true, R, C, []⟩) := by show MR.done R C [] = _; unfold MR.done; rw [hd]; rfl
          rw [hd]
          clear hd
          unfold DoneRes
          go_wp2_with fail
          obtain ⟨E0, E1, E2, -, -, -⟩ := (((R2.out.set0 (.int .i64 R)).set1 (.int .i64 C)).set2 (.slice none 0 0)).all
          rw [EQ.out, E.out]
          exact bodyPost_ret (v := .tuple #[.agg #[.int .i64 R, .int .i64 C, .slice none 0 0], .bool true]) (by simp [results, Try.results162, go_sem, E0, E1, E2]) rfl ⟨_, rfl, .inl ⟨rfl, rfl⟩, BE.out _ _ _⟩
        · have E : Hid (MR.done R C [] = MR.no) := by show MR.done R C [] = _; unfold MR.done; rw [hd]; rfl
          rw [hd]
          clear hd
          unfold DoneRes
          go_wp2_with fail
          obtain ⟨E0, E1, E2, -, -, -⟩ := (((R2.out.set0 (.int .i64 0)).set1 (.int .i64 0)).set2 (.slice none 0 0)).all
          rw [EQ.out, E.out]
          exact bodyPost_ret (v := .tuple #[.agg #[.int .i64 0, .int .i64 0, .slice none 0 0], .bool false]) (by simp [results, Try.results162, go_sem, E0, E1, E2]) rfl ⟨_, rfl, .inl ⟨rfl, rfl⟩, BE.out _ _ _⟩
    rw [HX.out] at hv gc
    subst hv
    have NE := gi.ne_blk K6.out
    have GI := Lib.hid gi
    clear in0 gi
    go_wp2_with fail
    go_loopw [31] (fun i wr => ∃ q : Nat, i = .int .i64 q ∧ q ≤ C ∧ Ints wr g (colTo (rwAt 1 I J t C xs) C xs q) ∧ wc.grownBy wr (some g) ∧ prodTo 1 J t C xs q) (fun i _ => C - (intOf i).toNat)
    case atStart => exact ⟨0, rfl, by omega, by rw [colTo_zero]; exact GI.out, World.grownBy.refl _ _, prodTo_zero _ _ _ _ _⟩
    case round =>
      obtain ⟨q, rfl, hq, hi, hgr, hp⟩ := hrel
      have IT := Lib.hid hi
      have G := Lib.hid hgr
      have P := Lib.hid hp
      clear hi hgr hp
      have R0 := Lib.hid (K0.out.keepOne G.out (by omega))
      have R1 := Lib.hid (K1.out.keepOne G.out (by omega))
      have R2 := Lib.hid (K2.out.keepOne G.out (by omega))
      have R6 := Lib.hid (K6.out.keepOne G.out NE.symm)
      have BW := Lib.hid (B.out.trans (below_of_one G.out (by omega) B.out.size))
      have HR := Lib.hid (H.out.below BW.out)
      obtain ⟨r0, r1, r2, -, -, -⟩ := R0.out.all
      obtain ⟨o0, o1, o2, o3⟩ := R1.out.all
      obtain ⟨s0, s1, s2, -, -, -⟩ := R6.out.all
      by_cases hlt : q < C
      · have a1 : I * C + q < n := by rw [HN.out]; exact idx_lt hI hlt
        have a2 : J * C + q < n := by rw [HN.out]; exact idx_lt hJ hlt
        have c1 : (I : Int) * (C : Int) = ((I * C : Nat) : Int) := (Int.natCast_mul _ _).symm
        have c2 : (J : Int) * (C : Int) = ((J * C : Nat) : Int) := (Int.natCast_mul _ _).symm
        have d1 : 0 ≤ (I : Int) * (C : Int) ∧ (I : Int) * (C : Int) ≤ 600 := by rw [c1]; omega
        have d2 : 0 ≤ (J : Int) * (C : Int) ∧ (J : Int) * (C : Int) ≤ 600 := by rw [c2]; omega
        have e1 : 0 ≤ (I : Int) * (C : Int) + (q : Int) := by omega
        have e2 : (I : Int) * (C : Int) + (q : Int) < (n : Int) := by rw [c1]; omega
        have e3 : ((I : Int) * (C : Int) + (q : Int)).toNat = I * C + q := by rw [c1]; omega
        have f1 : 0 ≤ (J : Int) * (C : Int) + (q : Int) := by omega
        have f2 : (J : Int) * (C : Int) + (q : Int) < (n : Int) := by rw [c2]; omega
        have f3 : ((J : Int) * (C : Int) + (q : Int)).toNat = J * C + q := by rw [c2]; omega
        obtain ⟨d11, d12⟩ := d1
        obtain ⟨d21, d22⟩ := d2
        have v1 : IntKind.i64.wrap ((I : Int) * (C : Int)) = (I : Int) * (C : Int) := IntWalk.i64_in _ (by omega)
        have v2 : IntKind.i64.wrap ((I : Int) * (C : Int) + (q : Int)) = (I : Int) * (C : Int) + (q : Int) := IntWalk.i64_in _ (by omega)
        have v3 : IntKind.i64.wrap ((J : Int) * (C : Int)) = (J : Int) * (C : Int) := IntWalk.i64_in _ (by omega)
        have v4 : IntKind.i64.wrap ((J : Int) * (C : Int) + (q : Int)) = (J : Int) * (C : Int) + (q : Int) := IntWalk.i64_in _ (by omega)
        obtain ⟨ba, oa, rfl, x1⟩ := HR.out (I * C + q) (by rw [HX.out]; exact a1)
        have x2 := HR.out.cells (J * C + q) (by rw [HX.out]; exact a2)
        clear c1 c2
        go_wp2_with fail
        go_quiet (fail)
        have R0 := Lib.hid (R0.out.drewN nq)
        have R1 := Lib.hid (R1.out.keepOne (grown_of_below (below_drewN (Below.refl _ _) nq) (some w.heap.size)) (by omega))
        have R2 := Lib.hid (R2.out.drewN nq)
        have R6 := Lib.hid (R6.out.drewN nq)
        have IT := Lib.hid (IT.out.drewN nq)
        have G := Lib.hid (grown_drewN_one G.out nq)
        have BW := Lib.hid (below_drewN BW.out nq)
        have HR := Lib.hid (H.out.below BW.out)
        clear r0 r1 r2 o0 o1 o2 o3 s0 s1 s2 x1 x2
        generalize wr.drewN nq = w3 at R0 R1 R2 R6 IT G BW HR ⊢
        obtain ⟨za, hza⟩ : ∃ z, xs.getD (I * C + q) 0 = z := ⟨_, rfl⟩
        obtain ⟨zb, hzb⟩ : ∃ z, xs.getD (J * C + q) 0 = z := ⟨_, rfl⟩
        have ZA := Lib.hid hza
        have ZB := Lib.hid hzb
        have CC : Hid (∀ wS, Below w3.heap.size w3 wS → _) := fun wS hS => colCells R0.out HR.out HX.out a1 a2 hS
        rw [hza, hzb] at CC
        clear hza hzb
        have NA : Hid (NumP za) := by rw [← ZA.out]; exact nums_at NX.out (by rw [HX.out]; exact a1)
        have NB : Hid (NumP zb) := by rw [← ZB.out]; exact nums_at NX.out (by rw [HX.out]; exact a2)
        go_upto_region 8 with fail
        refine wp_region_held_drew (S := fun w' => Below w3.heap.size w3 w') (by kernel_rfl) (Below.refl _ _).drew (fun hH => ?_)
        refine wpAnyH_take (i := 0) (v := ?_) (by simp only [List.getElem?_toArray, List.getElem?_cons_zero]; rfl) (by kernel_rfl) (by kernel_rfl) (by kernel_rfl) (by exact fun _ _ _ h => h) (Or.inl ⟨by rfl, ?_⟩) hH ?_
        rotate_left
        · (intro wS hS; clear hS; go_simp; try rfl)
        try simp only [Act.put, List.setIfInBounds_toArray, List.set_cons_zero, List.set_cons_succ]
        refine wpAnyH_take (i := 1) (v := ?_) (by simp only [List.getElem?_toArray, List.getElem?_cons_succ, List.getElem?_cons_zero]; rfl) (by kernel_rfl) (by kernel_rfl) (by kernel_rfl) (by exact fun _ _ _ h => h) (Or.inl ⟨by rfl, ?_⟩) hH ?_
        rotate_left
        · (intro wS hS; clear hS; go_simp; try rfl)
        try simp only [Act.put, List.setIfInBounds_toArray, List.set_cons_zero, List.set_cons_succ]
        refine wpAnyH_take (i := 2) (v := ?_) (by simp only [List.getElem?_toArray, List.getElem?_cons_succ, List.getElem?_cons_zero]; rfl) (by kernel_rfl) (by kernel_rfl) (by kernel_rfl) (by exact fun _ _ _ h => h) (Or.inl ⟨by rfl, ?_⟩) hH ?_
        rotate_left
        · (intro wS hS; (try dsimp only at hS); obtain ⟨k1, k2, k3, k4, k5⟩ := CC.out _ hS; go_simp; try rfl)
        try simp only [Act.put, List.setIfInBounds_toArray, List.set_cons_zero, List.set_cons_succ]
        refine wpAnyH_take (i := 3) (v := ?_) (by simp only [List.getElem?_toArray, List.getElem?_cons_succ, List.getElem?_cons_zero]; rfl) (by kernel_rfl) (by kernel_rfl) (by kernel_rfl) (by exact fun _ _ _ h => h) (Or.inl ⟨by rfl, ?_⟩) hH ?_
        rotate_left
        · (intro wS hS; clear hS; go_simp; try rfl)
        try simp only [Act.put, List.setIfInBounds_toArray, List.set_cons_zero, List.set_cons_succ]
        refine wpAnyH_take (i := 4) (v := ?_) (by simp only [List.getElem?_toArray, List.getElem?_cons_succ, List.getElem?_cons_zero]; rfl) (by kernel_rfl) (by kernel_rfl) (by kernel_rfl) (by exact fun _ _ _ h => h) (Or.inl ⟨by rfl, ?_⟩) hH ?_
        rotate_left
        · (intro wS hS; clear hS; go_simp; try rfl)
        try simp only [Act.put, List.setIfInBounds_toArray, List.set_cons_zero, List.set_cons_succ]
        refine wpAnyH_take (i := 5) (v := ?_) (by simp only [List.getElem?_toArray, List.getElem?_cons_succ, List.getElem?_cons_zero]; rfl) (by kernel_rfl) (by kernel_rfl) (by kernel_rfl) (by exact fun _ _ _ h => h) (Or.inl ⟨by rfl, ?_⟩) hH ?_
        rotate_left
        · (intro wS hS; (try dsimp only at hS); obtain ⟨k1, k2, k3, k4, k5⟩ := CC.out _ hS; go_simp; try rfl)
        try simp only [Act.put, List.setIfInBounds_toArray, List.set_cons_zero, List.set_cons_succ]
        refine wpAnyH_take (i := 6) (v := ?_) (by simp only [List.getElem?_toArray, List.getElem?_cons_succ, List.getElem?_cons_zero]; rfl) (by kernel_rfl) (by kernel_rfl) (by kernel_rfl) (by exact fun _ _ _ h => h) (Or.inl ⟨by rfl, ?_⟩) hH ?_
        rotate_left
        · (intro wS hS; clear hS; go_simp; try rfl)
        try simp only [Act.put, List.setIfInBounds_toArray, List.set_cons_zero, List.set_cons_succ]
        refine wpAnyH_take (i := 7) (v := ?_) (by simp only [List.getElem?_toArray, List.getElem?_cons_succ, List.getElem?_cons_zero]; rfl) (by kernel_rfl) (by kernel_rfl) (by kernel_rfl) (by exact fun _ _ _ h => h) (Or.inl ⟨by rfl, ?_⟩) hH ?_
        rotate_left
        · (intro wS hS; (try dsimp only at hS); obtain ⟨k1, k2, k3, k4, k5⟩ := CC.out _ hS; go_simp; try rfl)
        try simp only [Act.put, List.setIfInBounds_toArray, List.set_cons_zero, List.set_cons_succ]
        refine wpAnyH_take (i := 8) (v := ?_) (by simp only [List.getElem?_toArray, List.getElem?_cons_succ, List.getElem?_cons_zero]; rfl) (by kernel_rfl) (by kernel_rfl) (by kernel_rfl) (by exact fun _ _ _ h => h) (Or.inl ⟨by rfl, ?_⟩) hH ?_
        rotate_left
        · (intro wS hS; clear hS; go_simp; try rfl)
        try simp only [Act.put, List.setIfInBounds_toArray, List.set_cons_zero, List.set_cons_succ]
        refine wpAnyH_take (i := 9) (v := ?_) (by simp only [List.getElem?_toArray, List.getElem?_cons_succ, List.getElem?_cons_zero]; rfl) (by kernel_rfl) (by kernel_rfl) (by kernel_rfl) (by exact fun _ _ _ h => h) (Or.inl ⟨by rfl, ?_⟩) hH ?_
        rotate_left
        · (intro wS hS; clear hS; go_simp; try rfl)
        try simp only [Act.put, List.setIfInBounds_toArray, List.set_cons_zero, List.set_cons_succ]
        refine wpAnyH_take (i := 10) (v := ?_) (by simp only [List.getElem?_toArray, List.getElem?_cons_succ, List.getElem?_cons_zero]; rfl) (by kernel_rfl) (by kernel_rfl) (by kernel_rfl) (by exact fun _ _ _ h => h) (Or.inl ⟨by rfl, ?_⟩) hH ?_
        rotate_left
        · (intro wS hS; (try dsimp only at hS); obtain ⟨k1, k2, k3, k4, k5⟩ := CC.out _ hS; go_simp; try rfl)
        try simp only [Act.put, List.setIfInBounds_toArray, List.set_cons_zero, List.set_cons_succ]
        refine wpAnyH_take (i := 11) (v := ?_) (by simp only [List.getElem?_toArray, List.getElem?_cons_succ, List.getElem?_cons_zero]; rfl) (by kernel_rfl) (by kernel_rfl) (by kernel_rfl) (by exact fun _ _ _ h => h) (Or.inl ⟨by rfl, ?_⟩) hH ?_
        rotate_left
        · (intro wS hS; clear hS; go_simp; try rfl)
        try simp only [Act.put, List.setIfInBounds_toArray, List.set_cons_zero, List.set_cons_succ]
        refine wpAnyH_take (i := 12) (v := ?_) (by simp only [List.getElem?_toArray, List.getElem?_cons_succ, List.getElem?_cons_zero]; rfl) (by kernel_rfl) (by kernel_rfl) (by kernel_rfl) (by exact fun _ _ _ h => h) (Or.inl ⟨by rfl, ?_⟩) hH ?_
        rotate_left
        · (intro wS hS; clear hS; go_simp; try rfl)
        try simp only [Act.put, List.setIfInBounds_toArray, List.set_cons_zero, List.set_cons_succ]
        refine wpAnyH_take (i := 13) (v := ?_) (by simp only [List.getElem?_toArray, List.getElem?_cons_succ, List.getElem?_cons_zero]; rfl) (by kernel_rfl) (by kernel_rfl) (by kernel_rfl) (by exact fun _ _ _ h => h) (Or.inl ⟨by rfl, ?_⟩) hH ?_
        rotate_left
        · (intro wS hS; clear hS; go_simp; try rfl)
        try simp only [Act.put, List.setIfInBounds_toArray, List.set_cons_zero, List.set_cons_succ]
        refine wpAnyH_ready (rs := [14]) (by kernel_rfl) (by simp) ?_
        refine AllReadyH.cons (by simp only [List.getElem?_toArray, List.getElem?_cons_succ, List.getElem?_cons_zero]; rfl) (fun K hK => ?_) AllReadyH.nil
        go_simp
        go_upon
        (with_reducible refine (iDo1 za zb I J t _ NA.out).mono ?_)
        rintro e v14 ⟨rfl, hb14⟩
        try dsimp only
        refine hK.out _ _ ?_ (fun hH2 => ?_)
        · exact hH.trans (hb14.mono hH.size)
        clear hK K hH
        have hH := hH2
        clear hH2
        try simp only [Act.put, List.setIfInBounds_toArray, List.set_cons_zero, List.set_cons_succ]
        refine wpAnyH_take (i := 15) (v := ?_) (by simp only [List.getElem?_toArray, List.getElem?_cons_succ, List.getElem?_cons_zero]; rfl) (by kernel_rfl) (by kernel_rfl) (by kernel_rfl) (by exact fun _ _ _ h => h) (Or.inl ⟨by rfl, ?_⟩) hH ?_
        rotate_left
        · (intro wS hS; clear hS; go_simp; try rfl)
        try simp only [Act.put, List.setIfInBounds_toArray, List.set_cons_zero, List.set_cons_succ]
        refine wpAnyH_take (i := 16) (v := ?_) (by simp only [List.getElem?_toArray, List.getElem?_cons_succ, List.getElem?_cons_zero]; rfl) (by kernel_rfl) (by kernel_rfl) (by kernel_rfl) (by exact fun _ _ _ h => h) (Or.inl ⟨by rfl, ?_⟩) hH ?_
        rotate_left
        · (intro wS hS; clear hS; go_simp; try rfl)
        try simp only [Act.put, List.setIfInBounds_toArray, List.set_cons_zero, List.set_cons_succ]
        refine wpAnyH_take (i := 17) (v := ?_) (by simp only [List.getElem?_toArray, List.getElem?_cons_succ, List.getElem?_cons_zero]; rfl) (by kernel_rfl) (by kernel_rfl) (by kernel_rfl) (by exact fun _ _ _ h => h) (Or.inl ⟨by rfl, ?_⟩) hH ?_
        rotate_left
        · (intro wS hS; clear hS; go_simp; try rfl)
        try simp only [Act.put, List.setIfInBounds_toArray, List.set_cons_zero, List.set_cons_succ]
        refine wpAnyH_take (i := 18) (v := ?_) (by simp only [List.getElem?_toArray, List.getElem?_cons_succ, List.getElem?_cons_zero]; rfl) (by kernel_rfl) (by kernel_rfl) (by kernel_rfl) (by exact fun _ _ _ h => h) (Or.inl ⟨by rfl, ?_⟩) hH ?_
        rotate_left
        · (intro wS hS; clear hS; go_simp; try rfl)
        try simp only [Act.put, List.setIfInBounds_toArray, List.set_cons_zero, List.set_cons_succ]
        refine wpAnyH_take (i := 19) (v := ?_) (by simp only [List.getElem?_toArray, List.getElem?_cons_succ, List.getElem?_cons_zero]; rfl) (by kernel_rfl) (by kernel_rfl) (by kernel_rfl) (by exact fun _ _ _ h => h) (Or.inl ⟨by rfl, ?_⟩) hH ?_
        rotate_left
        · (intro wS hS; clear hS; go_simp; try rfl)
        try simp only [Act.put, List.setIfInBounds_toArray, List.set_cons_zero, List.set_cons_succ]
        refine wpAnyH_take (i := 20) (v := ?_) (by simp only [List.getElem?_toArray, List.getElem?_cons_succ, List.getElem?_cons_zero]; rfl) (by kernel_rfl) (by kernel_rfl) (by kernel_rfl) (by exact fun _ _ _ h => h) (Or.inl ⟨by rfl, ?_⟩) hH ?_
        rotate_left
        · (intro wS hS; clear hS; go_simp; try rfl)
        try simp only [Act.put, List.setIfInBounds_toArray, List.set_cons_zero, List.set_cons_succ]
        refine wpAnyH_take (i := 21) (v := ?_) (by simp only [List.getElem?_toArray, List.getElem?_cons_succ, List.getElem?_cons_zero]; rfl) (by kernel_rfl) (by kernel_rfl) (by kernel_rfl) (by exact fun _ _ _ h => h) (Or.inl ⟨by rfl, ?_⟩) hH ?_
        rotate_left
        · (intro wS hS; clear hS; go_simp; try rfl)
        try simp only [Act.put, List.setIfInBounds_toArray, List.set_cons_zero, List.set_cons_succ]
        refine wpAnyH_done (by kernel_rfl) ?_ _
        have hb : Below w3.heap.size w3 v14 := hH
        have R0 := Lib.hid (R0.out.step hb)
        have R1 := Lib.hid (R1.out.step hb)
        have R2 := Lib.hid (R2.out.step hb)
        have R6 := Lib.hid (R6.out.step hb)
        have IT := Lib.hid (IT.out.keep hb IT.out.lt)
        have G := Lib.hid (G.out.trans (grown_of_below hb (some g)))
        have BW := Lib.hid (stepB BW.out hb)
        clear CC hH hb14 hb HR
        obtain ⟨s0, s1, s2, -, -, -⟩ := R6.out.all
        obtain ⟨y0, y1, y2, y3, y4, y5⟩ := R2.out.all
        go_upto_region 11 with fail
        have hold1 := IT.out.cell (i := I * C + q) (by rw [colTo_length, HX.out]; exact a1)
        have hfr1 := IT.out.free (I * C + q)
        refine wp_region_held_drew (S := fun w' => v14.grownBy w' (some g)) (by kernel_rfl) (grown_drew_one (World.grownBy.refl _ _)) (fun hH => ?_)
        refine wpAnyH_take (i := 0) (v := ?_) (by simp only [List.getElem?_toArray, List.getElem?_cons_zero]; rfl) (by kernel_rfl) (by kernel_rfl) (by kernel_rfl) (by exact fun _ _ _ h => h) (Or.inl ⟨by rfl, ?_⟩) hH ?_
        rotate_left
        · (intro wS hS; clear hS; go_simp; try rfl)
        try simp only [Act.put, List.setIfInBounds_toArray, List.set_cons_zero, List.set_cons_succ]
        refine wpAnyH_take (i := 1) (v := ?_) (by simp only [List.getElem?_toArray, List.getElem?_cons_succ, List.getElem?_cons_zero]; rfl) (by kernel_rfl) (by kernel_rfl) (by kernel_rfl) (by exact fun _ _ _ h => h) (Or.inl ⟨by rfl, ?_⟩) hH ?_
        rotate_left
        · (intro wS hS; (try dsimp only at hS); obtain ⟨k1, k2, k3, -, -, -⟩ := (R6.out.keepOne hS NE.symm).all; go_simp; try rfl)
        try simp only [Act.put, List.setIfInBounds_toArray, List.set_cons_zero, List.set_cons_succ]
        refine wpAnyH_take (i := 2) (v := ?_) (by simp only [List.getElem?_toArray, List.getElem?_cons_succ, List.getElem?_cons_zero]; rfl) (by kernel_rfl) (by kernel_rfl) (by kernel_rfl) (by exact fun _ _ _ h => h) (Or.inl ⟨by rfl, ?_⟩) hH ?_
        rotate_left
        · (intro wS hS; clear hS; go_simp; try rfl)
        try simp only [Act.put, List.setIfInBounds_toArray, List.set_cons_zero, List.set_cons_succ]
        refine wpAnyH_take (i := 3) (v := ?_) (by simp only [List.getElem?_toArray, List.getElem?_cons_succ, List.getElem?_cons_zero]; rfl) (by kernel_rfl) (by kernel_rfl) (by kernel_rfl) (by exact fun _ _ _ h => h) (Or.inl ⟨by rfl, ?_⟩) hH ?_
        rotate_left
        · (intro wS hS; clear hS; go_simp; try rfl)
        try simp only [Act.put, List.setIfInBounds_toArray, List.set_cons_zero, List.set_cons_succ]
        refine wpAnyH_take (i := 4) (v := ?_) (by simp only [List.getElem?_toArray, List.getElem?_cons_succ, List.getElem?_cons_zero]; rfl) (by kernel_rfl) (by kernel_rfl) (by kernel_rfl) (by exact fun _ _ _ h => h) (Or.inl ⟨by rfl, ?_⟩) hH ?_
        rotate_left
        · (intro wS hS; (try dsimp only at hS); obtain ⟨k1, k2, k3, -, -, -⟩ := (R6.out.keepOne hS NE.symm).all; go_simp; try rfl)
        try simp only [Act.put, List.setIfInBounds_toArray, List.set_cons_zero, List.set_cons_succ]
        refine wpAnyH_take (i := 5) (v := ?_) (by simp only [List.getElem?_toArray, List.getElem?_cons_succ, List.getElem?_cons_zero]; rfl) (by kernel_rfl) (by kernel_rfl) (by kernel_rfl) (by exact fun _ _ _ h => h) (Or.inl ⟨by rfl, ?_⟩) hH ?_
        rotate_left
        · (intro wS hS; clear hS; go_simp; try rfl)
        try simp only [Act.put, List.setIfInBounds_toArray, List.set_cons_zero, List.set_cons_succ]
        refine wpAnyH_take (i := 6) (v := ?_) (by simp only [List.getElem?_toArray, List.getElem?_cons_succ, List.getElem?_cons_zero]; rfl) (by kernel_rfl) (by kernel_rfl) (by kernel_rfl) (by exact fun _ _ _ h => h) (Or.inl ⟨by rfl, ?_⟩) hH ?_
        rotate_left
        · (intro wS hS; clear hS; go_simp; try rfl)
        try simp only [Act.put, List.setIfInBounds_toArray, List.set_cons_zero, List.set_cons_succ]
        refine wpAnyH_take (i := 7) (v := ?_) (by simp only [List.getElem?_toArray, List.getElem?_cons_succ, List.getElem?_cons_zero]; rfl) (by kernel_rfl) (by kernel_rfl) (by kernel_rfl) (by exact fun _ _ _ h => h) (Or.inl ⟨by rfl, ?_⟩) hH ?_
        rotate_left
        · (intro wS hS; clear hS; go_simp; try rfl)
        try simp only [Act.put, List.setIfInBounds_toArray, List.set_cons_zero, List.set_cons_succ]
        refine wpAnyH_take (i := 8) (v := ?_) (by simp only [List.getElem?_toArray, List.getElem?_cons_succ, List.getElem?_cons_zero]; rfl) (by kernel_rfl) (by kernel_rfl) (by kernel_rfl) (by exact fun _ _ _ h => h) (Or.inl ⟨by rfl, ?_⟩) hH ?_
        rotate_left
        · (intro wS hS; clear hS; go_simp; try rfl)
        try simp only [Act.put, List.setIfInBounds_toArray, List.set_cons_zero, List.set_cons_succ]
        refine wpAnyH_ready (rs := [9]) (by kernel_rfl) (by simp) ?_
        refine AllReadyH.cons (by simp only [List.getElem?_toArray, List.getElem?_cons_succ, List.getElem?_cons_zero]; rfl) (fun K hK => ?_) AllReadyH.nil
        clear hH
        go_simp
        have IT2 := Lib.hid (IT.out.set (I * C + q) (-za))
        refine hK.out _ _ (grown_drew_one (grown_set_one (World.grownBy.refl _ _) rfl _)) (fun hH => ?_)
        clear hK K
        try simp only [Act.put, List.setIfInBounds_toArray, List.set_cons_zero, List.set_cons_succ]
        refine wpAnyH_take (i := 10) (v := ?_) (by simp only [List.getElem?_toArray, List.getElem?_cons_succ, List.getElem?_cons_zero]; rfl) (by kernel_rfl) (by kernel_rfl) (by kernel_rfl) (by exact fun _ _ _ h => h) (Or.inl ⟨by rfl, ?_⟩) hH ?_
        rotate_left
        · (intro wS hS; clear hS; go_simp; try rfl)
        try simp only [Act.put, List.setIfInBounds_toArray, List.set_cons_zero, List.set_cons_succ]
        refine wpAnyH_ready (rs := [11]) (by kernel_rfl) (by simp) ?_
        refine AllReadyH.cons (by simp only [List.getElem?_toArray, List.getElem?_cons_succ, List.getElem?_cons_zero]; rfl) (fun K hK => ?_) AllReadyH.nil
        clear hH hold1 hfr1
        have hold2 := IT2.out.cell (i := J * C + q) (by rw [List.length_set, colTo_length, HX.out]; exact a2)
        have hfr2 := IT2.out.free (J * C + q)
        go_simp
        refine hK.out _ _ (grown_drew_one (grown_set_one (b := g) (grown_set_one (b := g) (World.grownBy.refl v14 (some g)) rfl _) rfl _)) (fun hH => ?_)
        clear hK K hH hold2 hfr2
        refine wpAnyH_done (by kernel_rfl) ?_ _
        go_wp2_with fail
        go_roundw
        case rel =>
          obtain rfl : I = J := by have := IJ.out; omega
          have E := rw_neg I t C R xs q (HX.out.trans HN.out) hI hlt
          rw [ZA.out] at E
          refine ⟨q + 1, by go_num, by omega, ?_, grown_drew_one (grown_set_one (b := g) (grown_set_one (b := g) G.out rfl _) rfl _), fun h => absurd h (by decide)⟩
          rw [← E]
          exact (IT2.out.set (I * C + q) (-za)).drew
        case measure => simp [intOf]; omega
      · have hqC : q = C := by omega
        rw [hqC] at IT P
        have HL : Hid ((colTo (rwAt 1 I J t C xs) C xs C).length = n) := by show _ = n; rw [colTo_length, HX.out]
        have EQ : Hid (MR.done R C (opL 1 I J t C xs) = MR.done R C (colTo (rwAt 1 I J t C xs) C xs C)) := rw_done 1 I J t R C xs (by decide) (HX.out.trans HN.out) NX.out HT.out P.out
        generalize colTo (rwAt 1 I J t C xs) C xs C = L at IT HL EQ
        clear o0 o1 o2 o3
        go_wp2_with fail
        have ST := iDone R C (some ⟨g, 0, none⟩) qc L wr IT.out.rd (by rw [HL.out]; omega)
        rw [HL.out] at ST
        refine ST.mono ?_
        clear ST
        rintro e w4 ⟨rfl, hb⟩
        have R2 := Lib.hid (R2.out.step hb)
        have IT := Lib.hid (IT.out.keep hb IT.out.lt)
        have B := Lib.hid (stepB BW.out hb)
        clear hb
        obtain ⟨s0, s1, s2, t0, t1, t2⟩ := R2.out.all
        have be : ∀ x y z, Below w.heap.size w (((w4.setCell ⟨w.heap.size + 1 + 1, 0, none⟩ x).setCell ⟨w.heap.size + 1 + 1, 1, none⟩ y).setCell ⟨w.heap.size + 1 + 1, 2, none⟩ z) := fun x y z =>
          (((B.out.setCell (by show w.heap.size ≤ w.heap.size + 1 + 1; omega) _).setCell (by show w.heap.size ≤ w.heap.size + 1 + 1; omega) _).setCell (by show w.heap.size ≤ w.heap.size + 1 + 1; omega) _)
        have BE := Lib.hid be
        clear be
        rcases Bool.eq_false_or_eq_true (isMat R C L) with hd | hd
        · have E : Hid (MR.done R C L = ⟨true, R, C, L⟩) := by show MR.done R C L = _; unfold MR.done; rw [hd]; rfl
          rw [hd]
          clear hd
          unfold DoneRes
          go_wp2_with fail
          obtain ⟨E0, E1, E2, -, -, -⟩ := (((R2.out.set0 (.int .i64 R)).set1 (.int .i64 C)).set2 (.slice (some ⟨g, 0, none⟩) n qc)).all
          rw [EQ.out, E.out]
          refine bodyPost_ret (v := .tuple #[.agg #[.int .i64 R, .int .i64 C, .slice (some ⟨g, 0, none⟩) n qc], .bool true]) (by simp [results, Try.results162, go_sem, E0, E1, E2]) rfl ⟨_, rfl, ?_, ?_⟩
          · refine .inr ⟨g, qc, by rw [HL.out], by omega, ?_, by rw [HL.out]; omega, by rw [HL.out]; omega⟩
            exact ((IT.out.far (by show g ≠ w.heap.size + 1 + 1; omega) _).far (by show g ≠ w.heap.size + 1 + 1; omega) _).far (by show g ≠ w.heap.size + 1 + 1; omega) _
          · exact BE.out _ _ _
        · have E : Hid (MR.done R C L = MR.no) := by show MR.done R C L = _; unfold MR.done; rw [hd]; rfl
          rw [hd]
          clear hd
          unfold DoneRes
          go_wp2_with fail
          obtain ⟨E0, E1, E2, -, -, -⟩ := (((R2.out.set0 (.int .i64 0)).set1 (.int .i64 0)).set2 (.slice none 0 0)).all
          rw [EQ.out, E.out]
          exact bodyPost_ret (v := .tuple #[.agg #[.int .i64 0, .int .i64 0, .slice none 0 0], .bool false]) (by simp [results, Try.results162, go_sem, E0, E1, E2]) rfl ⟨_, rfl, .inl ⟨rfl, rfl⟩, BE.out _ _ _⟩
end Go.Proofs.Ytpelnfenfeoeeaa
end

section
/-
  Chapter 5, in the program: DoRowOp, kind 2.
-/
namespace Go.Proofs.Ytpelnfenfeoeeaa
set_option maxRecDepth 100000
open Go.RowKit
set_option maxRecDepth 100000 in
set_option maxHeartbeats 1000000 in
theorem iOp_2 (R C I J : Nat) (a : Option Addr) (m : Nat) (t : Int) (xs : List Int) (w : World) (h : Rd w a xs) (hn : xs.length ≤ 16777216) (hm : isMat R C xs = true) (ho : isOp 2 I J t R = true) :
    Calls Try.prog 162 #[.agg #[.int .i64 R, .int .i64 C, .slice a xs.length m], .agg #[.int .i64 2, .int .i64 I, .int .i64 J, .int .i64 t]] w (MatRes (MR.done R C (opL 2 I J t C xs)) w) := by
  obtain ⟨⟨r1, r2⟩, ⟨c1, c2⟩, l1, nx⟩ := isMat_says hm
  obtain ⟨hk, -, ⟨i1, i2⟩, ⟨j1, j2⟩, ht, -⟩ := isOp_says ho
  have hIJ := isOp_rows2 ho
  rw [← Int.natCast_mul] at l1
  have hle : R * C ≤ 24 * 24 := Nat.mul_le_mul (by omega) (by omega)
  have hR : R ≤ 24 := by omega
  have hC : C ≤ 24 := by omega
  have hI : I < R := by omega
  have hJ : J < R := by omega
  have IJ := Lib.hid hIJ
  have NX := Lib.hid nx
  have HT := Lib.hid ht
  have M := Lib.hid hm
  have OP := Lib.hid ho
  have hn2 : xs.length ≤ 576 := by omega
  have hN0 : xs.length = R * C := by omega
  have B0 : ∀ o1 o2 o3, Below w.heap.size w (((w.alloc o1).alloc o2).alloc o3) := fun o1 o2 o3 => (((Below.refl _ _).alloc (Nat.le_refl _) _).alloc (by simp) _).alloc (by simp <;> omega) _
  have BH := Lib.hid B0
  have H := Lib.hid h
  obtain ⟨n, hx⟩ : ∃ n, xs.length = n := ⟨_, rfl⟩
  have HX := Lib.hid hx
  rw [hx] at hn hn2 hN0 ⊢
  have HN := Lib.hid hN0
  clear B0 h hx hm ho r1 r2 c1 c2 l1 i1 i2 j1 j2 hle hIJ hN0 nx ht
  go_enter Try.func162, Try.ntmps162
  go_wp2_with fail
  have ST := iIsMat R C a m xs _ (H.out.below (BH.out (.cells #[.int .i64 R, .int .i64 C, .slice a n m] 26) (.cells #[.int .i64 2, .int .i64 I, .int .i64 J, .int .i64 t] 97) (.cells #[.int .i64 0, .int .i64 0, .slice none 0 0] 26))) (by rw [HX.out]; omega)
  rw [HX.out] at ST
  refine ST.mono ?_
  clear ST
  rintro e w1 ⟨rfl, hb⟩
  have K0 : Hid (Blk3 w1 w.heap.size 26 (.int .i64 R) (.int .i64 C) (.slice a n m)) := (((Blk3.at_ _ _ _ _ rfl).old _).old _).keep hb (by simp <;> omega)
  have K1 : Hid (Blk4 w1 (w.heap.size + 1) 97 (.int .i64 2) (.int .i64 I) (.int .i64 J) (.int .i64 t)) := ((Blk4.at_ _ _ _ _ _ (by simp)).old _).keep hb (by simp <;> omega)
  have K2 : Hid (Blk3 w1 (w.heap.size + 1 + 1) 26 (.int .i64 0) (.int .i64 0) (.slice none 0 0)) := (Blk3.at_ _ _ _ _ (by simp)).keep hb (by simp)
  have B : Hid (Below w.heap.size w w1) := (BH.out _ _ _).trans (hb.mono (by simp <;> omega))
  clear hb
  obtain ⟨ca0, ca1, ca2, -, -, -⟩ := K0.out.all
  obtain ⟨cb0, cb1, cb2, cb3⟩ := K1.out.all
  obtain ⟨cc0, cc1, cc2, ff0, ff1, ff2⟩ := K2.out.all
  rw [M.out]
  go_wp2_with fail
  refine (iIsOp 2 I J t R _).mono ?_
  rintro e w2 ⟨rfl, hb⟩
  have K0 := Lib.hid (K0.out.step hb)
  have K1 := Lib.hid (K1.out.step hb)
  have K2 := Lib.hid (K2.out.step hb)
  have B := Lib.hid (stepB B.out hb)
  clear hb ca0 ca1 ca2 cb0 cb1 cb2 cb3 cc0 cc1 cc2 ff0 ff1 ff2
  obtain ⟨da0, da1, da2, -, -, -⟩ := K0.out.all
  obtain ⟨db0, db1, db2, db3⟩ := K1.out.all
  obtain ⟨dc0, dc1, dc2, gf0, gf1, gf2⟩ := K2.out.all
  rw [OP.out]
  go_upto_region 3 with fail
  go_cut [6, 7] (fun s6 s7 wx => ∃ (p6 : Nat) (v0 : Value), s6 = .pointer (some ⟨p6, 0, none⟩) ∧ s7 = .iface 148 (aggO 2 I J t) ∧ Blk3 wx p6 26 (.int .i64 R) (.int .i64 C) v0 ∧ In w2.heap.size wx.heap.size wx v0 xs ∧ Below w2.heap.size w2 wx)
  case first =>
    refine wp_region_held_drew (S := fun w' => Below w2.heap.size w2 w') (by kernel_rfl) (Below.refl _ _).drew (fun hH => ?_)
    refine wpAnyH_take (i := 0) (v := ?_) (by simp only [List.getElem?_toArray, List.getElem?_cons_zero]; rfl) (by kernel_rfl) (by kernel_rfl) (by kernel_rfl) (by exact fun _ _ _ h => h) (Or.inl ⟨by rfl, ?_⟩) hH ?_
    rotate_left
    · (intro wS hS; (try dsimp only at hS); obtain ⟨k1, k2, k3, k4, k5, k6, k7⟩ := sevB K0.out K1.out hS; go_simp; try rfl)
    try simp only [Act.put, List.setIfInBounds_toArray, List.set_cons_zero, List.set_cons_succ]
    refine wpAnyH_take (i := 2) (v := ?_) (by simp only [List.getElem?_toArray, List.getElem?_cons_succ, List.getElem?_cons_zero]; rfl) (by kernel_rfl) (by kernel_rfl) (by kernel_rfl) (by exact fun _ _ _ h => h) (Or.inl ⟨by rfl, ?_⟩) hH ?_
    rotate_left
    · (intro wS hS; (try dsimp only at hS); obtain ⟨k1, k2, k3, k4, k5, k6, k7⟩ := sevB K0.out K1.out hS; go_simp; try rfl)
    try simp only [Act.put, List.setIfInBounds_toArray, List.set_cons_zero, List.set_cons_succ]
    refine wpAnyH_ready (rs := [1, 4]) (by kernel_rfl) (by simp) ?_
    refine AllReadyH.cons (by simp only [List.getElem?_toArray, List.getElem?_cons_succ, List.getElem?_cons_zero]; rfl) (fun K hK => ?_) (AllReadyH.cons (by simp only [List.getElem?_toArray, List.getElem?_cons_succ, List.getElem?_cons_zero]; rfl) (fun K hK => ?_) AllReadyH.nil)
    · go_simp
      have hs1 := hH.size
      (with_reducible refine (iCopyOf R C a m n xs HX.out _ (H.out.below (B.out.trans (hH.mono B.out.size))) (by omega)).mono ?_)
      rintro e v1 ⟨q0, qc, rfl, own, hb1⟩
      have O := Lib.hid own.inn
      clear own
      try dsimp only
      refine hK.out _ _ ?_ (fun hH2 => ?_)
      · exact hH.trans (hb1.mono hH.size)
      clear hK K
      have hO := hH
      clear hH
      have hH := hH2
      clear hH2
      try simp only [Act.put, List.setIfInBounds_toArray, List.set_cons_zero, List.set_cons_succ]
      have z1 := hb1.size
      refine wpAnyH_ready (rs := [3, 4]) (by kernel_rfl) (by simp) ?_
      refine AllReadyH.cons (by simp only [List.getElem?_toArray, List.getElem?_cons_succ, List.getElem?_cons_zero]; rfl) (fun K hK => ?_) (AllReadyH.cons (by simp only [List.getElem?_toArray, List.getElem?_cons_succ, List.getElem?_cons_zero]; rfl) (fun K hK => ?_) AllReadyH.nil)
      · go_simp
        have hs3 := hH.size
        (with_reducible refine (iOpOf2 I J t _).mono ?_)
        rintro e v3 ⟨rfl, hb3⟩
        have O := Lib.hid (O.out.keep hb3)
        try dsimp only
        refine hK.out _ _ ?_ (fun hH2 => ?_)
        · exact hH.trans (hb3.mono hH.size)
        clear hK K
        have hO := hH
        clear hH
        have hH := hH2
        clear hH2
        try simp only [Act.put, List.setIfInBounds_toArray, List.set_cons_zero, List.set_cons_succ]
        have z3 := hb3.size
        refine wpAnyH_ready (rs := [4]) (by kernel_rfl) (by simp) ?_
        refine AllReadyH.cons (by simp only [List.getElem?_toArray, List.getElem?_cons_succ, List.getElem?_cons_zero]; rfl) (fun K hK => ?_) AllReadyH.nil
        go_simp
        have VB : Hid (Blk3 (v3.alloc (.cells #[.int .i64 0, .int .i64 0, .slice none 0 0] 26)) v3.heap.size 26 (.int .i64 0) (.int .i64 0) (.slice none 0 0)) := Blk3.at_ _ _ _ _ rfl
        have PL : w2.heap.size ≤ v3.heap.size := hH.size
        try dsimp only
        refine hK.out _ _ ?_ (fun hH2 => ?_)
        · exact hH.alloc hH.size _
        clear hK K
        have hO := hH
        clear hH
        have hH := hH2
        clear hH2
        try simp only [Act.put, List.setIfInBounds_toArray, List.set_cons_zero, List.set_cons_succ]
        refine wpAnyH_ready (rs := [5]) (by kernel_rfl) (by simp) ?_
        refine AllReadyH.cons (by simp only [List.getElem?_toArray, List.getElem?_cons_succ, List.getElem?_cons_zero]; rfl) (fun K hK => ?_) AllReadyH.nil
        go_simp
        have VB : Hid (Blk3 (v3.alloc (.cells #[.int .i64 R, .int .i64 C, .slice q0 n qc] 26)) v3.heap.size 26 (.int .i64 R) (.int .i64 C) (.slice q0 n qc)) := Blk3.at_ _ _ _ _ rfl
        try dsimp only
        refine hK.out _ _ ?_ (fun hH2 => ?_)
        · exact hO.alloc hO.size _
        clear hK K
        have hO := hH
        clear hH
        have hH := hH2
        clear hH2
        try simp only [Act.put, List.setIfInBounds_toArray, List.set_cons_zero, List.set_cons_succ]
        refine wpAnyH_take (i := 6) (v := ?_) (by simp only [List.getElem?_toArray, List.getElem?_cons_succ, List.getElem?_cons_zero]; rfl) (by kernel_rfl) (by kernel_rfl) (by kernel_rfl) (by exact fun _ _ _ h => h) (Or.inl ⟨by rfl, ?_⟩) hH ?_
        rotate_left
        · (intro wS hS; clear hS; go_simp; try rfl)
        try simp only [Act.put, List.setIfInBounds_toArray, List.set_cons_zero, List.set_cons_succ]
        refine wpAnyH_done (by kernel_rfl) ?_ _
        go_wp2_with fail
        go_meet
        exact ⟨v3.heap.size, _, rfl, rfl, VB.out, (O.out.old _).wide hs1 (by have := hb3.size; first | (simp; done) | (simp; omega) | omega), hH⟩
      · go_simp
        have VB : Hid (Blk3 (v1.alloc (.cells #[.int .i64 0, .int .i64 0, .slice none 0 0] 26)) v1.heap.size 26 (.int .i64 0) (.int .i64 0) (.slice none 0 0)) := Blk3.at_ _ _ _ _ rfl
        have O := Lib.hid (O.out.old (.cells #[.int .i64 0, .int .i64 0, .slice none 0 0] 26))
        have PL : w2.heap.size ≤ v1.heap.size := hH.size
        try dsimp only
        refine hK.out _ _ ?_ (fun hH2 => ?_)
        · exact hH.alloc hH.size _
        clear hK K
        have hO := hH
        clear hH
        have hH := hH2
        clear hH2
        try simp only [Act.put, List.setIfInBounds_toArray, List.set_cons_zero, List.set_cons_succ]
        refine wpAnyH_ready (rs := [3]) (by kernel_rfl) (by simp) ?_
        refine AllReadyH.cons (by simp only [List.getElem?_toArray, List.getElem?_cons_succ, List.getElem?_cons_zero]; rfl) (fun K hK => ?_) AllReadyH.nil
        go_simp
        have hs3 := hH.size
        have lb3 := VB.out.lt
        (with_reducible refine (iOpOf2 I J t _).mono ?_)
        rintro e v3 ⟨rfl, hb3⟩
        have O := Lib.hid (O.out.keep hb3)
        have VB := Lib.hid (VB.out.keep hb3 VB.out.lt)
        try dsimp only
        refine hK.out _ _ ?_ (fun hH2 => ?_)
        · exact hH.trans (hb3.mono hH.size)
        clear hK K
        have hO := hH
        clear hH
        have hH := hH2
        clear hH2
        try simp only [Act.put, List.setIfInBounds_toArray, List.set_cons_zero, List.set_cons_succ]
        have z3 := hb3.size
        refine wpAnyH_ready (rs := [5]) (by kernel_rfl) (by simp) ?_
        refine AllReadyH.cons (by simp only [List.getElem?_toArray, List.getElem?_cons_succ, List.getElem?_cons_zero]; rfl) (fun K hK => ?_) AllReadyH.nil
        obtain ⟨y0, y1, y2, y3, y4, y5⟩ := VB.out.all
        go_simp
        have VB := Lib.hid (((VB.out.set0 (.int .i64 R)).set1 (.int .i64 C)).set2 (.slice q0 n qc))
        try dsimp only
        refine hK.out _ _ ?_ (fun hH2 => ?_)
        · exact (((hH.setCell PL _).setCell PL _).setCell PL _)
        clear hK K
        have hO := hH
        clear hH
        have hH := hH2
        clear hH2
        try simp only [Act.put, List.setIfInBounds_toArray, List.set_cons_zero, List.set_cons_succ]
        refine wpAnyH_take (i := 6) (v := ?_) (by simp only [List.getElem?_toArray, List.getElem?_cons_succ, List.getElem?_cons_zero]; rfl) (by kernel_rfl) (by kernel_rfl) (by kernel_rfl) (by exact fun _ _ _ h => h) (Or.inl ⟨by rfl, ?_⟩) hH ?_
        rotate_left
        · (intro wS hS; clear hS; go_simp; try rfl)
        try simp only [Act.put, List.setIfInBounds_toArray, List.set_cons_zero, List.set_cons_succ]
        refine wpAnyH_done (by kernel_rfl) ?_ _
        go_wp2_with fail
        go_meet
        exact ⟨v1.heap.size, _, rfl, rfl, VB.out, (((O.out.far (by first | exact .inl lb1 | exact .inr (Nat.le_refl _) | omega) _).far (by first | exact .inl lb1 | exact .inr (Nat.le_refl _) | omega) _).far (by first | exact .inl lb1 | exact .inr (Nat.le_refl _) | omega) _).wide hs1 (by have := hb3.size; first | (simp; done) | (simp; omega) | omega), hH⟩
    · go_simp
      have VB : Hid (Blk3 (w2.drew.alloc (.cells #[.int .i64 0, .int .i64 0, .slice none 0 0] 26)) w2.heap.size 26 (.int .i64 0) (.int .i64 0) (.slice none 0 0)) := Blk3.at_ _ _ _ _ rfl
      have PL : w2.heap.size ≤ w2.drew.heap.size := hH.size
      try dsimp only
      refine hK.out _ _ ?_ (fun hH2 => ?_)
      · exact hH.alloc hH.size _
      clear hK K
      have hO := hH
      clear hH
      have hH := hH2
      clear hH2
      try simp only [Act.put, List.setIfInBounds_toArray, List.set_cons_zero, List.set_cons_succ]
      refine wpAnyH_ready (rs := [1]) (by kernel_rfl) (by simp) ?_
      refine AllReadyH.cons (by simp only [List.getElem?_toArray, List.getElem?_cons_succ, List.getElem?_cons_zero]; rfl) (fun K hK => ?_) AllReadyH.nil
      go_simp
      have hs1 := hH.size
      have lb1 := VB.out.lt
      (with_reducible refine (iCopyOf R C a m n xs HX.out _ (H.out.below (B.out.trans (hH.mono B.out.size))) (by omega)).mono ?_)
      rintro e v1 ⟨q0, qc, rfl, own, hb1⟩
      have O := Lib.hid own.inn
      clear own
      have VB := Lib.hid (VB.out.keep hb1 VB.out.lt)
      try dsimp only
      refine hK.out _ _ ?_ (fun hH2 => ?_)
      · exact hH.trans (hb1.mono hH.size)
      clear hK K
      have hO := hH
      clear hH
      have hH := hH2
      clear hH2
      try simp only [Act.put, List.setIfInBounds_toArray, List.set_cons_zero, List.set_cons_succ]
      have z1 := hb1.size
      refine wpAnyH_ready (rs := [3]) (by kernel_rfl) (by simp) ?_
      refine AllReadyH.cons (by simp only [List.getElem?_toArray, List.getElem?_cons_succ, List.getElem?_cons_zero]; rfl) (fun K hK => ?_) AllReadyH.nil
      go_simp
      have hs3 := hH.size
      have lb3 := VB.out.lt
      (with_reducible refine (iOpOf2 I J t _).mono ?_)
      rintro e v3 ⟨rfl, hb3⟩
      have O := Lib.hid (O.out.keep hb3)
      have VB := Lib.hid (VB.out.keep hb3 VB.out.lt)
      try dsimp only
      refine hK.out _ _ ?_ (fun hH2 => ?_)
      · exact hH.trans (hb3.mono hH.size)
      clear hK K
      have hO := hH
      clear hH
      have hH := hH2
      clear hH2
      try simp only [Act.put, List.setIfInBounds_toArray, List.set_cons_zero, List.set_cons_succ]
      have z3 := hb3.size
      refine wpAnyH_ready (rs := [5]) (by kernel_rfl) (by simp) ?_
      refine AllReadyH.cons (by simp only [List.getElem?_toArray, List.getElem?_cons_succ, List.getElem?_cons_zero]; rfl) (fun K hK => ?_) AllReadyH.nil
      obtain ⟨y0, y1, y2, y3, y4, y5⟩ := VB.out.all
      go_simp
      have VB := Lib.hid (((VB.out.set0 (.int .i64 R)).set1 (.int .i64 C)).set2 (.slice q0 n qc))
      try dsimp only
      refine hK.out _ _ ?_ (fun hH2 => ?_)
      · exact (((hH.setCell PL _).setCell PL _).setCell PL _)
      clear hK K
      have hO := hH
      clear hH
      have hH := hH2
      clear hH2
      try simp only [Act.put, List.setIfInBounds_toArray, List.set_cons_zero, List.set_cons_succ]
      refine wpAnyH_take (i := 6) (v := ?_) (by simp only [List.getElem?_toArray, List.getElem?_cons_succ, List.getElem?_cons_zero]; rfl) (by kernel_rfl) (by kernel_rfl) (by kernel_rfl) (by exact fun _ _ _ h => h) (Or.inl ⟨by rfl, ?_⟩) hH ?_
      rotate_left
      · (intro wS hS; clear hS; go_simp; try rfl)
      try simp only [Act.put, List.setIfInBounds_toArray, List.set_cons_zero, List.set_cons_succ]
      refine wpAnyH_done (by kernel_rfl) ?_ _
      go_wp2_with fail
      go_meet
      exact ⟨w2.heap.size, _, rfl, rfl, VB.out, (((O.out.far (by first | exact .inl lb1 | exact .inr (Nat.le_refl _) | omega) _).far (by first | exact .inl lb1 | exact .inr (Nat.le_refl _) | omega) _).far (by first | exact .inl lb1 | exact .inr (Nat.le_refl _) | omega) _).wide hs1 (by have := hb3.size; first | (simp; done) | (simp; omega) | omega), hH⟩
  case rest =>
    obtain ⟨p6, v0, rfl, rfl, k6, in0, hb⟩ := hcut
    have lK0 := K0.out.lt
    have lK1 := K1.out.lt
    have lK2 := K2.out.lt
    have K0 := Lib.hid (K0.out.step hb)
    have K1 := Lib.hid (K1.out.step hb)
    have K2 := Lib.hid (K2.out.step hb)
    have B := Lib.hid (stepB B.out hb)
    have K6 := Lib.hid k6
    have LP := hb.size
    clear hb k6 da0 da1 da2 db0 db1 db2 db3 dc0 dc1 dc2 gf0 gf1 gf2
    obtain ⟨cc0, cc1, cc2, -, -, -⟩ := K0.out.all
    have lw : w.heap.size ≤ w2.heap.size := by have := B.out.size; omega
    rcases in0.cases with ⟨rfl, rfl⟩ | ⟨g, qc, hv, gB, -, gi, gc⟩
    · obtain rfl : n = 0 := HX.out.symm
      have hC0 : C ≤ 0 := by
        rcases Nat.eq_zero_or_pos C with h | h
        · omega
        · have := Nat.mul_pos (show 0 < R by omega) h
          have := HN.out
          omega
      have EQ : Hid (MR.done R C (opL 2 I J t C []) = MR.done R C []) := rfl
      clear in0
      go_wp2_with fail
      go_loopw [31] (fun i wr => i = .int .i64 0 ∧ wr = wc) (fun _ _ => 0)
      case atStart => exact ⟨rfl, rfl⟩
      case round =>
        obtain ⟨rfl, rfl⟩ := hrel
        obtain ⟨dd0, dd1, dd2, -, -, -⟩ := K6.out.all
        go_wp2_with fail
        refine (iDone R C none 0 [] wr (Rd.nil _ _) (by simp)).mono ?_
        rintro e w4 ⟨rfl, hb⟩
        have R2 := Lib.hid (K2.out.step hb)
        have B := Lib.hid (stepB B.out hb)
        clear hb
        obtain ⟨s0, s1, s2, t0, t1, t2⟩ := R2.out.all
        have be : ∀ x y z, Below w.heap.size w (((w4.setCell ⟨w.heap.size + 1 + 1, 0, none⟩ x).setCell ⟨w.heap.size + 1 + 1, 1, none⟩ y).setCell ⟨w.heap.size + 1 + 1, 2, none⟩ z) := fun x y z =>
          (((B.out.setCell (by show w.heap.size ≤ w.heap.size + 1 + 1; omega) _).setCell (by show w.heap.size ≤ w.heap.size + 1 + 1; omega) _).setCell (by show w.heap.size ≤ w.heap.size + 1 + 1; omega) _)
        have BE := Lib.hid be
        clear be
        rcases Bool.eq_false_or_eq_true (isMat R C []) with hd | hd
        · have E : Hid (MR.done R C [] = ⟨true, R, C, []⟩) := by show MR.done R C [] = _; unfold MR.done; rw [hd]; rfl
          rw [hd]
          clear hd
          unfold DoneRes
          go_wp2_with fail
          obtain ⟨E0, E1, E2, -, -, -⟩ := (((R2.out.set0 (.int .i64 R)).set1 (.int .i64 C)).set2 (.slice none 0 0)).all
          rw [EQ.out, E.out]
          exact bodyPost_ret (v := .tuple #[.agg #[.int .i64 R, .int .i64 C, .slice none 0 0], .bool true]) (by simp [results, Try.results162, go_sem, E0, E1, E2]) rfl ⟨_, rfl, .inl ⟨rfl, rfl⟩, BE.out _ _ _⟩
        · have E : Hid (MR.done R C [] = MR.no) := by show MR.done R C [] = _; unfold MR.done; rw [hd]; rfl
          rw [hd]
          clear hd
          unfold DoneRes
          go_wp2_with fail
          obtain ⟨E0, E1, E2, -, -, -⟩ := (((R2.out.set0 (.int .i64 0)).set1 (.int .i64 0)).set2 (.slice none 0 0)).all
          rw [EQ.out, E.out]
          exact bodyPost_ret (v := .tuple #[.agg #[.int .i64 0, .int .i64 0, .slice none 0 0], .bool false]) (by simp [results, Try.results162, go_sem, E0, E1, E2]) rfl ⟨_, rfl, .inl ⟨rfl, rfl⟩, BE.out _ _ _⟩
    rw [HX.out] at hv gc
    subst hv
    have NE := gi.ne_blk K6.out
    have GI := Lib.hid gi
    clear in0 gi
    go_wp2_with fail
    go_loopw [31] (fun i wr => ∃ q : Nat, i = .int .i64 q ∧ q ≤ C ∧ Ints wr g (colTo (rwAt 2 I J t C xs) C xs q) ∧ wc.grownBy wr (some g) ∧ prodTo 2 J t C xs q) (fun i _ => C - (intOf i).toNat)
    case atStart => exact ⟨0, rfl, by omega, by rw [colTo_zero]; exact GI.out, World.grownBy.refl _ _, prodTo_zero _ _ _ _ _⟩
    case round =>
      obtain ⟨q, rfl, hq, hi, hgr, hp⟩ := hrel
      have IT := Lib.hid hi
      have G := Lib.hid hgr
      have P := Lib.hid hp
      clear hi hgr hp
      have R0 := Lib.hid (K0.out.keepOne G.out (by omega))
      have R1 := Lib.hid (K1.out.keepOne G.out (by omega))
      have R2 := Lib.hid (K2.out.keepOne G.out (by omega))
      have R6 := Lib.hid (K6.out.keepOne G.out NE.symm)
      have BW := Lib.hid (B.out.trans (below_of_one G.out (by omega) B.out.size))
      have HR := Lib.hid (H.out.below BW.out)
      obtain ⟨r0, r1, r2, -, -, -⟩ := R0.out.all
      obtain ⟨o0, o1, o2, o3⟩ := R1.out.all
      obtain ⟨s0, s1, s2, -, -, -⟩ := R6.out.all
      by_cases hlt : q < C
      · have a1 : I * C + q < n := by rw [HN.out]; exact idx_lt hI hlt
        have a2 : J * C + q < n := by rw [HN.out]; exact idx_lt hJ hlt
        have c1 : (I : Int) * (C : Int) = ((I * C : Nat) : Int) := (Int.natCast_mul _ _).symm
        have c2 : (J : Int) * (C : Int) = ((J * C : Nat) : Int) := (Int.natCast_mul _ _).symm
        have d1 : 0 ≤ (I : Int) * (C : Int) ∧ (I : Int) * (C : Int) ≤ 600 := by rw [c1]; omega
        have d2 : 0 ≤ (J : Int) * (C : Int) ∧ (J : Int) * (C : Int) ≤ 600 := by rw [c2]; omega
        have e1 : 0 ≤ (I : Int) * (C : Int) + (q : Int) := by omega
        have e2 : (I : Int) * (C : Int) + (q : Int) < (n : Int) := by rw [c1]; omega
        have e3 : ((I : Int) * (C : Int) + (q : Int)).toNat = I * C + q := by rw [c1]; omega
        have f1 : 0 ≤ (J : Int) * (C : Int) + (q : Int) := by omega
        have f2 : (J : Int) * (C : Int) + (q : Int) < (n : Int) := by rw [c2]; omega
        have f3 : ((J : Int) * (C : Int) + (q : Int)).toNat = J * C + q := by rw [c2]; omega
        obtain ⟨d11, d12⟩ := d1
        obtain ⟨d21, d22⟩ := d2
        have v1 : IntKind.i64.wrap ((I : Int) * (C : Int)) = (I : Int) * (C : Int) := IntWalk.i64_in _ (by omega)
        have v2 : IntKind.i64.wrap ((I : Int) * (C : Int) + (q : Int)) = (I : Int) * (C : Int) + (q : Int) := IntWalk.i64_in _ (by omega)
        have v3 : IntKind.i64.wrap ((J : Int) * (C : Int)) = (J : Int) * (C : Int) := IntWalk.i64_in _ (by omega)
        have v4 : IntKind.i64.wrap ((J : Int) * (C : Int) + (q : Int)) = (J : Int) * (C : Int) + (q : Int) := IntWalk.i64_in _ (by omega)
        obtain ⟨ba, oa, rfl, x1⟩ := HR.out (I * C + q) (by rw [HX.out]; exact a1)
        have x2 := HR.out.cells (J * C + q) (by rw [HX.out]; exact a2)
        clear c1 c2
        go_wp2_with fail
        go_quiet (fail)
        have R0 := Lib.hid (R0.out.drewN nq)
        have R1 := Lib.hid (R1.out.keepOne (grown_of_below (below_drewN (Below.refl _ _) nq) (some w.heap.size)) (by omega))
        have R2 := Lib.hid (R2.out.drewN nq)
        have R6 := Lib.hid (R6.out.drewN nq)
        have IT := Lib.hid (IT.out.drewN nq)
        have G := Lib.hid (grown_drewN_one G.out nq)
        have BW := Lib.hid (below_drewN BW.out nq)
        have HR := Lib.hid (H.out.below BW.out)
        clear r0 r1 r2 o0 o1 o2 o3 s0 s1 s2 x1 x2
        generalize wr.drewN nq = w3 at R0 R1 R2 R6 IT G BW HR ⊢
        obtain ⟨za, hza⟩ : ∃ z, xs.getD (I * C + q) 0 = z := ⟨_, rfl⟩
        obtain ⟨zb, hzb⟩ : ∃ z, xs.getD (J * C + q) 0 = z := ⟨_, rfl⟩
        have ZA := Lib.hid hza
        have ZB := Lib.hid hzb
        have CC : Hid (∀ wS, Below w3.heap.size w3 wS → _) := fun wS hS => colCells R0.out HR.out HX.out a1 a2 hS
        rw [hza, hzb] at CC
        clear hza hzb
        have NA : Hid (NumP za) := by rw [← ZA.out]; exact nums_at NX.out (by rw [HX.out]; exact a1)
        have NB : Hid (NumP zb) := by rw [← ZB.out]; exact nums_at NX.out (by rw [HX.out]; exact a2)
        go_upto_region 8 with fail
        obtain ⟨bb, hbb⟩ : ∃ b, decide (NumP (zb * t)) = b := ⟨_, rfl⟩
        have DO : Hid (∀ w, Calls Try.prog 188 #[aggO 2 I J t, .int .i64 za, .int .i64 zb] w (Gives (.tuple #[.int .i64 (za + zb * t), .int .i64 zb, .bool bb]) w)) := fun w => by rw [← hbb]; exact iDo2 za zb I J t w NA.out NB.out HT.out
        have HBB := Lib.hid hbb
        clear hbb
        refine wp_region_held_drew (S := fun w' => Below w3.heap.size w3 w') (by kernel_rfl) (Below.refl _ _).drew (fun hH => ?_)
        refine wpAnyH_take (i := 0) (v := ?_) (by simp only [List.getElem?_toArray, List.getElem?_cons_zero]; rfl) (by kernel_rfl) (by kernel_rfl) (by kernel_rfl) (by exact fun _ _ _ h => h) (Or.inl ⟨by rfl, ?_⟩) hH ?_
        rotate_left
        · (intro wS hS; clear hS; go_simp; try rfl)
        try simp only [Act.put, List.setIfInBounds_toArray, List.set_cons_zero, List.set_cons_succ]
        refine wpAnyH_take (i := 1) (v := ?_) (by simp only [List.getElem?_toArray, List.getElem?_cons_succ, List.getElem?_cons_zero]; rfl) (by kernel_rfl) (by kernel_rfl) (by kernel_rfl) (by exact fun _ _ _ h => h) (Or.inl ⟨by rfl, ?_⟩) hH ?_
        rotate_left
        · (intro wS hS; clear hS; go_simp; try rfl)
        try simp only [Act.put, List.setIfInBounds_toArray, List.set_cons_zero, List.set_cons_succ]
        refine wpAnyH_take (i := 2) (v := ?_) (by simp only [List.getElem?_toArray, List.getElem?_cons_succ, List.getElem?_cons_zero]; rfl) (by kernel_rfl) (by kernel_rfl) (by kernel_rfl) (by exact fun _ _ _ h => h) (Or.inl ⟨by rfl, ?_⟩) hH ?_
        rotate_left
        · (intro wS hS; (try dsimp only at hS); obtain ⟨k1, k2, k3, k4, k5⟩ := CC.out _ hS; go_simp; try rfl)
        try simp only [Act.put, List.setIfInBounds_toArray, List.set_cons_zero, List.set_cons_succ]
        refine wpAnyH_take (i := 3) (v := ?_) (by simp only [List.getElem?_toArray, List.getElem?_cons_succ, List.getElem?_cons_zero]; rfl) (by kernel_rfl) (by kernel_rfl) (by kernel_rfl) (by exact fun _ _ _ h => h) (Or.inl ⟨by rfl, ?_⟩) hH ?_
        rotate_left
        · (intro wS hS; clear hS; go_simp; try rfl)
        try simp only [Act.put, List.setIfInBounds_toArray, List.set_cons_zero, List.set_cons_succ]
        refine wpAnyH_take (i := 4) (v := ?_) (by simp only [List.getElem?_toArray, List.getElem?_cons_succ, List.getElem?_cons_zero]; rfl) (by kernel_rfl) (by kernel_rfl) (by kernel_rfl) (by exact fun _ _ _ h => h) (Or.inl ⟨by rfl, ?_⟩) hH ?_
        rotate_left
        · (intro wS hS; clear hS; go_simp; try rfl)
        try simp only [Act.put, List.setIfInBounds_toArray, List.set_cons_zero, List.set_cons_succ]
        refine wpAnyH_take (i := 5) (v := ?_) (by simp only [List.getElem?_toArray, List.getElem?_cons_succ, List.getElem?_cons_zero]; rfl) (by kernel_rfl) (by kernel_rfl) (by kernel_rfl) (by exact fun _ _ _ h => h) (Or.inl ⟨by rfl, ?_⟩) hH ?_
        rotate_left
        · (intro wS hS; (try dsimp only at hS); obtain ⟨k1, k2, k3, k4, k5⟩ := CC.out _ hS; go_simp; try rfl)
        try simp only [Act.put, List.setIfInBounds_toArray, List.set_cons_zero, List.set_cons_succ]
        refine wpAnyH_take (i := 6) (v := ?_) (by simp only [List.getElem?_toArray, List.getElem?_cons_succ, List.getElem?_cons_zero]; rfl) (by kernel_rfl) (by kernel_rfl) (by kernel_rfl) (by exact fun _ _ _ h => h) (Or.inl ⟨by rfl, ?_⟩) hH ?_
        rotate_left
        · (intro wS hS; clear hS; go_simp; try rfl)
        try simp only [Act.put, List.setIfInBounds_toArray, List.set_cons_zero, List.set_cons_succ]
        refine wpAnyH_take (i := 7) (v := ?_) (by simp only [List.getElem?_toArray, List.getElem?_cons_succ, List.getElem?_cons_zero]; rfl) (by kernel_rfl) (by kernel_rfl) (by kernel_rfl) (by exact fun _ _ _ h => h) (Or.inl ⟨by rfl, ?_⟩) hH ?_
        rotate_left
        · (intro wS hS; (try dsimp only at hS); obtain ⟨k1, k2, k3, k4, k5⟩ := CC.out _ hS; go_simp; try rfl)
        try simp only [Act.put, List.setIfInBounds_toArray, List.set_cons_zero, List.set_cons_succ]
        refine wpAnyH_take (i := 8) (v := ?_) (by simp only [List.getElem?_toArray, List.getElem?_cons_succ, List.getElem?_cons_zero]; rfl) (by kernel_rfl) (by kernel_rfl) (by kernel_rfl) (by exact fun _ _ _ h => h) (Or.inl ⟨by rfl, ?_⟩) hH ?_
        rotate_left
        · (intro wS hS; clear hS; go_simp; try rfl)
        try simp only [Act.put, List.setIfInBounds_toArray, List.set_cons_zero, List.set_cons_succ]
        refine wpAnyH_take (i := 9) (v := ?_) (by simp only [List.getElem?_toArray, List.getElem?_cons_succ, List.getElem?_cons_zero]; rfl) (by kernel_rfl) (by kernel_rfl) (by kernel_rfl) (by exact fun _ _ _ h => h) (Or.inl ⟨by rfl, ?_⟩) hH ?_
        rotate_left
        · (intro wS hS; clear hS; go_simp; try rfl)
        try simp only [Act.put, List.setIfInBounds_toArray, List.set_cons_zero, List.set_cons_succ]
        refine wpAnyH_take (i := 10) (v := ?_) (by simp only [List.getElem?_toArray, List.getElem?_cons_succ, List.getElem?_cons_zero]; rfl) (by kernel_rfl) (by kernel_rfl) (by kernel_rfl) (by exact fun _ _ _ h => h) (Or.inl ⟨by rfl, ?_⟩) hH ?_
        rotate_left
        · (intro wS hS; (try dsimp only at hS); obtain ⟨k1, k2, k3, k4, k5⟩ := CC.out _ hS; go_simp; try rfl)
        try simp only [Act.put, List.setIfInBounds_toArray, List.set_cons_zero, List.set_cons_succ]
        refine wpAnyH_take (i := 11) (v := ?_) (by simp only [List.getElem?_toArray, List.getElem?_cons_succ, List.getElem?_cons_zero]; rfl) (by kernel_rfl) (by kernel_rfl) (by kernel_rfl) (by exact fun _ _ _ h => h) (Or.inl ⟨by rfl, ?_⟩) hH ?_
        rotate_left
        · (intro wS hS; clear hS; go_simp; try rfl)
        try simp only [Act.put, List.setIfInBounds_toArray, List.set_cons_zero, List.set_cons_succ]
        refine wpAnyH_take (i := 12) (v := ?_) (by simp only [List.getElem?_toArray, List.getElem?_cons_succ, List.getElem?_cons_zero]; rfl) (by kernel_rfl) (by kernel_rfl) (by kernel_rfl) (by exact fun _ _ _ h => h) (Or.inl ⟨by rfl, ?_⟩) hH ?_
        rotate_left
        · (intro wS hS; clear hS; go_simp; try rfl)
        try simp only [Act.put, List.setIfInBounds_toArray, List.set_cons_zero, List.set_cons_succ]
        refine wpAnyH_take (i := 13) (v := ?_) (by simp only [List.getElem?_toArray, List.getElem?_cons_succ, List.getElem?_cons_zero]; rfl) (by kernel_rfl) (by kernel_rfl) (by kernel_rfl) (by exact fun _ _ _ h => h) (Or.inl ⟨by rfl, ?_⟩) hH ?_
        rotate_left
        · (intro wS hS; clear hS; go_simp; try rfl)
        try simp only [Act.put, List.setIfInBounds_toArray, List.set_cons_zero, List.set_cons_succ]
        refine wpAnyH_ready (rs := [14]) (by kernel_rfl) (by simp) ?_
        refine AllReadyH.cons (by simp only [List.getElem?_toArray, List.getElem?_cons_succ, List.getElem?_cons_zero]; rfl) (fun K hK => ?_) AllReadyH.nil
        go_simp
        go_upon
        (with_reducible refine (DO.out _).mono ?_)
        rintro e v14 ⟨rfl, hb14⟩
        try dsimp only
        refine hK.out _ _ ?_ (fun hH2 => ?_)
        · exact hH.trans (hb14.mono hH.size)
        clear hK K hH
        have hH := hH2
        clear hH2
        try simp only [Act.put, List.setIfInBounds_toArray, List.set_cons_zero, List.set_cons_succ]
        refine wpAnyH_take (i := 15) (v := ?_) (by simp only [List.getElem?_toArray, List.getElem?_cons_succ, List.getElem?_cons_zero]; rfl) (by kernel_rfl) (by kernel_rfl) (by kernel_rfl) (by exact fun _ _ _ h => h) (Or.inl ⟨by rfl, ?_⟩) hH ?_
        rotate_left
        · (intro wS hS; clear hS; go_simp; try rfl)
        try simp only [Act.put, List.setIfInBounds_toArray, List.set_cons_zero, List.set_cons_succ]
        refine wpAnyH_take (i := 16) (v := ?_) (by simp only [List.getElem?_toArray, List.getElem?_cons_succ, List.getElem?_cons_zero]; rfl) (by kernel_rfl) (by kernel_rfl) (by kernel_rfl) (by exact fun _ _ _ h => h) (Or.inl ⟨by rfl, ?_⟩) hH ?_
        rotate_left
        · (intro wS hS; clear hS; go_simp; try rfl)
        try simp only [Act.put, List.setIfInBounds_toArray, List.set_cons_zero, List.set_cons_succ]
        refine wpAnyH_take (i := 17) (v := ?_) (by simp only [List.getElem?_toArray, List.getElem?_cons_succ, List.getElem?_cons_zero]; rfl) (by kernel_rfl) (by kernel_rfl) (by kernel_rfl) (by exact fun _ _ _ h => h) (Or.inl ⟨by rfl, ?_⟩) hH ?_
        rotate_left
        · (intro wS hS; clear hS; go_simp; try rfl)
        try simp only [Act.put, List.setIfInBounds_toArray, List.set_cons_zero, List.set_cons_succ]
        refine wpAnyH_take (i := 18) (v := ?_) (by simp only [List.getElem?_toArray, List.getElem?_cons_succ, List.getElem?_cons_zero]; rfl) (by kernel_rfl) (by kernel_rfl) (by kernel_rfl) (by exact fun _ _ _ h => h) (Or.inl ⟨by rfl, ?_⟩) hH ?_
        rotate_left
        · (intro wS hS; clear hS; go_simp; try rfl)
        try simp only [Act.put, List.setIfInBounds_toArray, List.set_cons_zero, List.set_cons_succ]
        refine wpAnyH_take (i := 19) (v := ?_) (by simp only [List.getElem?_toArray, List.getElem?_cons_succ, List.getElem?_cons_zero]; rfl) (by kernel_rfl) (by kernel_rfl) (by kernel_rfl) (by exact fun _ _ _ h => h) (Or.inl ⟨by rfl, ?_⟩) hH ?_
        rotate_left
        · (intro wS hS; clear hS; go_simp; try rfl)
        try simp only [Act.put, List.setIfInBounds_toArray, List.set_cons_zero, List.set_cons_succ]
        refine wpAnyH_take (i := 20) (v := ?_) (by simp only [List.getElem?_toArray, List.getElem?_cons_succ, List.getElem?_cons_zero]; rfl) (by kernel_rfl) (by kernel_rfl) (by kernel_rfl) (by exact fun _ _ _ h => h) (Or.inl ⟨by rfl, ?_⟩) hH ?_
        rotate_left
        · (intro wS hS; clear hS; go_simp; try rfl)
        try simp only [Act.put, List.setIfInBounds_toArray, List.set_cons_zero, List.set_cons_succ]
        refine wpAnyH_take (i := 21) (v := ?_) (by simp only [List.getElem?_toArray, List.getElem?_cons_succ, List.getElem?_cons_zero]; rfl) (by kernel_rfl) (by kernel_rfl) (by kernel_rfl) (by exact fun _ _ _ h => h) (Or.inl ⟨by rfl, ?_⟩) hH ?_
        rotate_left
        · (intro wS hS; clear hS; go_simp; try rfl)
        try simp only [Act.put, List.setIfInBounds_toArray, List.set_cons_zero, List.set_cons_succ]
        refine wpAnyH_done (by kernel_rfl) ?_ _
        have hb : Below w3.heap.size w3 v14 := hH
        have R0 := Lib.hid (R0.out.step hb)
        have R1 := Lib.hid (R1.out.step hb)
        have R2 := Lib.hid (R2.out.step hb)
        have R6 := Lib.hid (R6.out.step hb)
        have IT := Lib.hid (IT.out.keep hb IT.out.lt)
        have G := Lib.hid (G.out.trans (grown_of_below hb (some g)))
        have BW := Lib.hid (stepB BW.out hb)
        clear CC hH hb14 hb HR
        obtain ⟨s0, s1, s2, -, -, -⟩ := R6.out.all
        obtain ⟨y0, y1, y2, y3, y4, y5⟩ := R2.out.all
        cases bb
        · have EQ : Hid (MR.done R C (opL 2 I J t C xs) = MR.no) := rw_over I J t R C xs q (HX.out.trans HN.out) hI hlt NX.out HT.out (by rw [ZB.out]; exact of_decide_eq_false HBB.out)
          clear IT
          go_wp2_with fail
          obtain ⟨E0, E1, E2, -, -, -⟩ := (((R2.out.set0 (.int .i64 0)).set1 (.int .i64 0)).set2 (.slice none 0 0)).all
          rw [EQ.out]
          exact bodyPost_ret (v := .tuple #[.agg #[.int .i64 0, .int .i64 0, .slice none 0 0], .bool false]) (by simp [results, Try.results162, go_sem, E0, E1, E2]) rfl ⟨_, rfl, .inl ⟨rfl, rfl⟩, ((BW.out.setCell (by show w.heap.size ≤ w.heap.size + 1 + 1; omega) _).setCell (by show w.heap.size ≤ w.heap.size + 1 + 1; omega) _).setCell (by show w.heap.size ≤ w.heap.size + 1 + 1; omega) _⟩
        · go_upto_region 11 with fail
          have hold1 := IT.out.cell (i := I * C + q) (by rw [colTo_length, HX.out]; exact a1)
          have hfr1 := IT.out.free (I * C + q)
          refine wp_region_held_drew (S := fun w' => v14.grownBy w' (some g)) (by kernel_rfl) (grown_drew_one (World.grownBy.refl _ _)) (fun hH => ?_)
          refine wpAnyH_take (i := 0) (v := ?_) (by simp only [List.getElem?_toArray, List.getElem?_cons_zero]; rfl) (by kernel_rfl) (by kernel_rfl) (by kernel_rfl) (by exact fun _ _ _ h => h) (Or.inl ⟨by rfl, ?_⟩) hH ?_
          rotate_left
          · (intro wS hS; clear hS; go_simp; try rfl)
          try simp only [Act.put, List.setIfInBounds_toArray, List.set_cons_zero, List.set_cons_succ]
          refine wpAnyH_take (i := 1) (v := ?_) (by simp only [List.getElem?_toArray, List.getElem?_cons_succ, List.getElem?_cons_zero]; rfl) (by kernel_rfl) (by kernel_rfl) (by kernel_rfl) (by exact fun _ _ _ h => h) (Or.inl ⟨by rfl, ?_⟩) hH ?_
          rotate_left
          · (intro wS hS; (try dsimp only at hS); obtain ⟨k1, k2, k3, -, -, -⟩ := (R6.out.keepOne hS NE.symm).all; go_simp; try rfl)
          try simp only [Act.put, List.setIfInBounds_toArray, List.set_cons_zero, List.set_cons_succ]
          refine wpAnyH_take (i := 2) (v := ?_) (by simp only [List.getElem?_toArray, List.getElem?_cons_succ, List.getElem?_cons_zero]; rfl) (by kernel_rfl) (by kernel_rfl) (by kernel_rfl) (by exact fun _ _ _ h => h) (Or.inl ⟨by rfl, ?_⟩) hH ?_
          rotate_left
          · (intro wS hS; clear hS; go_simp; try rfl)
          try simp only [Act.put, List.setIfInBounds_toArray, List.set_cons_zero, List.set_cons_succ]
          refine wpAnyH_take (i := 3) (v := ?_) (by simp only [List.getElem?_toArray, List.getElem?_cons_succ, List.getElem?_cons_zero]; rfl) (by kernel_rfl) (by kernel_rfl) (by kernel_rfl) (by exact fun _ _ _ h => h) (Or.inl ⟨by rfl, ?_⟩) hH ?_
          rotate_left
          · (intro wS hS; clear hS; go_simp; try rfl)
          try simp only [Act.put, List.setIfInBounds_toArray, List.set_cons_zero, List.set_cons_succ]
          refine wpAnyH_take (i := 4) (v := ?_) (by simp only [List.getElem?_toArray, List.getElem?_cons_succ, List.getElem?_cons_zero]; rfl) (by kernel_rfl) (by kernel_rfl) (by kernel_rfl) (by exact fun _ _ _ h => h) (Or.inl ⟨by rfl, ?_⟩) hH ?_
          rotate_left
          · (intro wS hS; (try dsimp only at hS); obtain ⟨k1, k2, k3, -, -, -⟩ := (R6.out.keepOne hS NE.symm).all; go_simp; try rfl)
          try simp only [Act.put, List.setIfInBounds_toArray, List.set_cons_zero, List.set_cons_succ]
          refine wpAnyH_take (i := 5) (v := ?_) (by simp only [List.getElem?_toArray, List.getElem?_cons_succ, List.getElem?_cons_zero]; rfl) (by kernel_rfl) (by kernel_rfl) (by kernel_rfl) (by exact fun _ _ _ h => h) (Or.inl ⟨by rfl, ?_⟩) hH ?_
          rotate_left
          · (intro wS hS; clear hS; go_simp; try rfl)
          try simp only [Act.put, List.setIfInBounds_toArray, List.set_cons_zero, List.set_cons_succ]
          refine wpAnyH_take (i := 6) (v := ?_) (by simp only [List.getElem?_toArray, List.getElem?_cons_succ, List.getElem?_cons_zero]; rfl) (by kernel_rfl) (by kernel_rfl) (by kernel_rfl) (by exact fun _ _ _ h => h) (Or.inl ⟨by rfl, ?_⟩) hH ?_
          rotate_left
          · (intro wS hS; clear hS; go_simp; try rfl)
          try simp only [Act.put, List.setIfInBounds_toArray, List.set_cons_zero, List.set_cons_succ]
          refine wpAnyH_take (i := 7) (v := ?_) (by simp only [List.getElem?_toArray, List.getElem?_cons_succ, List.getElem?_cons_zero]; rfl) (by kernel_rfl) (by kernel_rfl) (by kernel_rfl) (by exact fun _ _ _ h => h) (Or.inl ⟨by rfl, ?_⟩) hH ?_
          rotate_left
          · (intro wS hS; clear hS; go_simp; try rfl)
          try simp only [Act.put, List.setIfInBounds_toArray, List.set_cons_zero, List.set_cons_succ]
          refine wpAnyH_take (i := 8) (v := ?_) (by simp only [List.getElem?_toArray, List.getElem?_cons_succ, List.getElem?_cons_zero]; rfl) (by kernel_rfl) (by kernel_rfl) (by kernel_rfl) (by exact fun _ _ _ h => h) (Or.inl ⟨by rfl, ?_⟩) hH ?_
          rotate_left
          · (intro wS hS; clear hS; go_simp; try rfl)
          try simp only [Act.put, List.setIfInBounds_toArray, List.set_cons_zero, List.set_cons_succ]
          refine wpAnyH_ready (rs := [9]) (by kernel_rfl) (by simp) ?_
          refine AllReadyH.cons (by simp only [List.getElem?_toArray, List.getElem?_cons_succ, List.getElem?_cons_zero]; rfl) (fun K hK => ?_) AllReadyH.nil
          clear hH
          go_simp
          have IT2 := Lib.hid (IT.out.set (I * C + q) (za + zb * t))
          refine hK.out _ _ (grown_drew_one (grown_set_one (World.grownBy.refl _ _) rfl _)) (fun hH => ?_)
          clear hK K
          try simp only [Act.put, List.setIfInBounds_toArray, List.set_cons_zero, List.set_cons_succ]
          refine wpAnyH_take (i := 10) (v := ?_) (by simp only [List.getElem?_toArray, List.getElem?_cons_succ, List.getElem?_cons_zero]; rfl) (by kernel_rfl) (by kernel_rfl) (by kernel_rfl) (by exact fun _ _ _ h => h) (Or.inl ⟨by rfl, ?_⟩) hH ?_
          rotate_left
          · (intro wS hS; clear hS; go_simp; try rfl)
          try simp only [Act.put, List.setIfInBounds_toArray, List.set_cons_zero, List.set_cons_succ]
          refine wpAnyH_ready (rs := [11]) (by kernel_rfl) (by simp) ?_
          refine AllReadyH.cons (by simp only [List.getElem?_toArray, List.getElem?_cons_succ, List.getElem?_cons_zero]; rfl) (fun K hK => ?_) AllReadyH.nil
          clear hH hold1 hfr1
          have hold2 := IT2.out.cell (i := J * C + q) (by rw [List.length_set, colTo_length, HX.out]; exact a2)
          have hfr2 := IT2.out.free (J * C + q)
          go_simp
          refine hK.out _ _ (grown_drew_one (grown_set_one (b := g) (grown_set_one (b := g) (World.grownBy.refl v14 (some g)) rfl _) rfl _)) (fun hH => ?_)
          clear hK K hH hold2 hfr2
          refine wpAnyH_done (by kernel_rfl) ?_ _
          go_wp2_with fail
          go_roundw
          case rel =>
            have E := rw_add I J t C R xs q (HX.out.trans HN.out) hI hJ hlt (by have := IJ.out; omega)
            rw [ZA.out, ZB.out] at E
            refine ⟨q + 1, by go_num, by omega, ?_, grown_drew_one (grown_set_one (b := g) (grown_set_one (b := g) G.out rfl _) rfl _), prodTo_succ P.out (fun _ => by rw [ZB.out]; exact of_decide_eq_true HBB.out)⟩
            rw [← E]
            exact (IT2.out.set (J * C + q) (zb)).drew
          case measure => simp [intOf]; omega
      · have hqC : q = C := by omega
        rw [hqC] at IT P
        have HL : Hid ((colTo (rwAt 2 I J t C xs) C xs C).length = n) := by show _ = n; rw [colTo_length, HX.out]
        have EQ : Hid (MR.done R C (opL 2 I J t C xs) = MR.done R C (colTo (rwAt 2 I J t C xs) C xs C)) := rw_done 2 I J t R C xs (by decide) (HX.out.trans HN.out) NX.out HT.out P.out
        generalize colTo (rwAt 2 I J t C xs) C xs C = L at IT HL EQ
        clear o0 o1 o2 o3
        go_wp2_with fail
        have ST := iDone R C (some ⟨g, 0, none⟩) qc L wr IT.out.rd (by rw [HL.out]; omega)
        rw [HL.out] at ST
        refine ST.mono ?_
        clear ST
        rintro e w4 ⟨rfl, hb⟩
        have R2 := Lib.hid (R2.out.step hb)
        have IT := Lib.hid (IT.out.keep hb IT.out.lt)
        have B := Lib.hid (stepB BW.out hb)
        clear hb
        obtain ⟨s0, s1, s2, t0, t1, t2⟩ := R2.out.all
        have be : ∀ x y z, Below w.heap.size w (((w4.setCell ⟨w.heap.size + 1 + 1, 0, none⟩ x).setCell ⟨w.heap.size + 1 + 1, 1, none⟩ y).setCell ⟨w.heap.size + 1 + 1, 2, none⟩ z) := fun x y z =>
          (((B.out.setCell (by show w.heap.size ≤ w.heap.size + 1 + 1; omega) _).setCell (by show w.heap.size ≤ w.heap.size + 1 + 1; omega) _).setCell (by show w.heap.size ≤ w.heap.size + 1 + 1; omega) _)
        have BE := Lib.hid be
        clear be
        rcases Bool.eq_false_or_eq_true (isMat R C L) with hd | hd
        · have E : Hid (MR.done R C L = ⟨true, R, C, L⟩) := by show MR.done R C L = _; unfold MR.done; rw [hd]; rfl
          rw [hd]
          clear hd
          unfold DoneRes
          go_wp2_with fail
          obtain ⟨E0, E1, E2, -, -, -⟩ := (((R2.out.set0 (.int .i64 R)).set1 (.int .i64 C)).set2 (.slice (some ⟨g, 0, none⟩) n qc)).all
          rw [EQ.out, E.out]
          refine bodyPost_ret (v := .tuple #[.agg #[.int .i64 R, .int .i64 C, .slice (some ⟨g, 0, none⟩) n qc], .bool true]) (by simp [results, Try.results162, go_sem, E0, E1, E2]) rfl ⟨_, rfl, ?_, ?_⟩
          · refine .inr ⟨g, qc, by rw [HL.out], by omega, ?_, by rw [HL.out]; omega, by rw [HL.out]; omega⟩
            exact ((IT.out.far (by show g ≠ w.heap.size + 1 + 1; omega) _).far (by show g ≠ w.heap.size + 1 + 1; omega) _).far (by show g ≠ w.heap.size + 1 + 1; omega) _
          · exact BE.out _ _ _
        · have E : Hid (MR.done R C L = MR.no) := by show MR.done R C L = _; unfold MR.done; rw [hd]; rfl
          rw [hd]
          clear hd
          unfold DoneRes
          go_wp2_with fail
          obtain ⟨E0, E1, E2, -, -, -⟩ := (((R2.out.set0 (.int .i64 0)).set1 (.int .i64 0)).set2 (.slice none 0 0)).all
          rw [EQ.out, E.out]
          exact bodyPost_ret (v := .tuple #[.agg #[.int .i64 0, .int .i64 0, .slice none 0 0], .bool false]) (by simp [results, Try.results162, go_sem, E0, E1, E2]) rfl ⟨_, rfl, .inl ⟨rfl, rfl⟩, BE.out _ _ _⟩
end Go.Proofs.Ytpelnfenfeoeeaa
end

section
/-
  Chapter 5, in the program: DoRowOp, any matrix and operation.
-/
namespace Go.Proofs.Ytpelnfenfeoeeaa
set_option maxRecDepth 100000
open Go.RowKit
set_option maxHeartbeats 1000000 in
theorem iOp (k i j t r c : Int) (a : Option Addr) (m : Nat) (xs : List Int) (w : World) (h : Rd w a xs) (hn : xs.length ≤ 16777216) (_ : Spot a) :
    Calls Try.prog 162 #[.agg #[.int .i64 r, .int .i64 c, .slice a xs.length m], .agg #[.int .i64 k, .int .i64 i, .int .i64 j, .int .i64 t]] w (MatRes (opM k i j t r c xs) w) := by
  rcases Bool.eq_false_or_eq_true (isMat r c xs) with hm | hm
  · rcases Bool.eq_false_or_eq_true (isOp k i j t r) with ho | ho
    · obtain ⟨hk, -, ⟨i1, i2⟩, ⟨j1, j2⟩, -, -⟩ := isOp_says ho
      obtain ⟨⟨r1, r2⟩, ⟨c1, c2⟩, -, -⟩ := isMat_says hm
      obtain ⟨R, rfl⟩ := Int.eq_ofNat_of_zero_le r1
      obtain ⟨C, rfl⟩ := Int.eq_ofNat_of_zero_le c1
      obtain ⟨I, rfl⟩ := Int.eq_ofNat_of_zero_le i1
      obtain ⟨J, rfl⟩ := Int.eq_ofNat_of_zero_le j1
      have E : opM k I J t R C xs = MR.done R C (opL k I J t C xs) := by unfold opM; rw [hm, ho]; rfl
      rw [E]
      clear E
      rcases hk with rfl | rfl | rfl
      · exact iOp_0 R C I J a m t xs w h hn hm ho
      · exact iOp_1 R C I J a m t xs w h hn hm ho
      · exact iOp_2 R C I J a m t xs w h hn hm ho
    · have E : Hid (opM k i j t r c xs = MR.no) := by show opM k i j t r c xs = _; unfold opM; rw [hm, ho]; rfl
      have M := Lib.hid hm
      have OP := Lib.hid ho
      clear hm ho
      have B0 : ∀ o1 o2 o3, Below w.heap.size w (((w.alloc o1).alloc o2).alloc o3) := fun o1 o2 o3 => (((Below.refl _ _).alloc (Nat.le_refl _) _).alloc (by simp) _).alloc (by simp <;> omega) _
      have BH := Lib.hid B0
      have H := Lib.hid h
      obtain ⟨n, hx⟩ : ∃ n, xs.length = n := ⟨_, rfl⟩
      have HX := Lib.hid hx
      rw [hx] at hn ⊢
      clear B0 h hx
      go_enter Try.func162, Try.ntmps162
      go_wp2_with fail
      have ST := iIsMat r c a m xs _ (H.out.below (BH.out (.cells #[.int .i64 r, .int .i64 c, .slice a n m] 26) (.cells #[.int .i64 k, .int .i64 i, .int .i64 j, .int .i64 t] 97) (.cells #[.int .i64 0, .int .i64 0, .slice none 0 0] 26))) (by rw [HX.out]; omega)
      rw [HX.out] at ST
      refine ST.mono ?_
      clear ST
      rintro e w1 ⟨rfl, hb⟩
      have K0 : Hid (Blk3 w1 w.heap.size 26 (.int .i64 r) (.int .i64 c) (.slice a n m)) := (((Blk3.at_ _ _ _ _ rfl).old _).old _).keep hb (by simp <;> omega)
      have K1 : Hid (Blk4 w1 (w.heap.size + 1) 97 (.int .i64 k) (.int .i64 i) (.int .i64 j) (.int .i64 t)) := ((Blk4.at_ _ _ _ _ _ (by simp)).old _).keep hb (by simp <;> omega)
      have K2 : Hid (Blk3 w1 (w.heap.size + 1 + 1) 26 (.int .i64 0) (.int .i64 0) (.slice none 0 0)) := (Blk3.at_ _ _ _ _ (by simp)).keep hb (by simp)
      have B : Hid (Below w.heap.size w w1) := (BH.out _ _ _).trans (hb.mono (by simp <;> omega))
      clear hb
      obtain ⟨ca0, ca1, ca2, -, -, -⟩ := K0.out.all
      obtain ⟨cb0, cb1, cb2, cb3⟩ := K1.out.all
      obtain ⟨cc0, cc1, cc2, ff0, ff1, ff2⟩ := K2.out.all
      rw [M.out]
      go_wp2_with fail
      refine (iIsOp k i j t r _).mono ?_
      rintro e w2 ⟨rfl, hb⟩
      have K0 := Lib.hid (K0.out.step hb)
      have K1 := Lib.hid (K1.out.step hb)
      have K2 := Lib.hid (K2.out.step hb)
      have B := Lib.hid (stepB B.out hb)
      clear hb
      obtain ⟨da0, da1, da2, -, -, -⟩ := K0.out.all
      obtain ⟨db0, db1, db2, db3⟩ := K1.out.all
      obtain ⟨dc0, dc1, dc2, gf0, gf1, gf2⟩ := K2.out.all
      rw [OP.out]
      go_wp2_with fail
      obtain ⟨E0, E1, E2, -, -, -⟩ := (((K2.out.set0 (.int .i64 0)).set1 (.int .i64 0)).set2 (.slice none 0 0)).all
      rw [E.out]
      exact bodyPost_ret (v := .tuple #[.agg #[.int .i64 0, .int .i64 0, .slice none 0 0], .bool false]) (by simp [results, Try.results162, go_sem, E0, E1, E2]) rfl ⟨_, rfl, .inl ⟨rfl, rfl⟩, ((B.out.setCell (by show w.heap.size ≤ w.heap.size + 1 + 1; omega) _).setCell (by show w.heap.size ≤ w.heap.size + 1 + 1; omega) _).setCell (by show w.heap.size ≤ w.heap.size + 1 + 1; omega) _⟩
  · have E : Hid (opM k i j t r c xs = MR.no) := by show opM k i j t r c xs = _; unfold opM; rw [hm]; rfl
    have M := Lib.hid hm
    clear hm
    have B0 : ∀ o1 o2 o3, Below w.heap.size w (((w.alloc o1).alloc o2).alloc o3) := fun o1 o2 o3 => (((Below.refl _ _).alloc (Nat.le_refl _) _).alloc (by simp) _).alloc (by simp <;> omega) _
    have BH := Lib.hid B0
    have H := Lib.hid h
    obtain ⟨n, hx⟩ : ∃ n, xs.length = n := ⟨_, rfl⟩
    have HX := Lib.hid hx
    rw [hx] at hn ⊢
    clear B0 h hx
    go_enter Try.func162, Try.ntmps162
    go_wp2_with fail
    have ST := iIsMat r c a m xs _ (H.out.below (BH.out (.cells #[.int .i64 r, .int .i64 c, .slice a n m] 26) (.cells #[.int .i64 k, .int .i64 i, .int .i64 j, .int .i64 t] 97) (.cells #[.int .i64 0, .int .i64 0, .slice none 0 0] 26))) (by rw [HX.out]; omega)
    rw [HX.out] at ST
    refine ST.mono ?_
    clear ST
    rintro e w1 ⟨rfl, hb⟩
    have K0 : Hid (Blk3 w1 w.heap.size 26 (.int .i64 r) (.int .i64 c) (.slice a n m)) := (((Blk3.at_ _ _ _ _ rfl).old _).old _).keep hb (by simp <;> omega)
    have K1 : Hid (Blk4 w1 (w.heap.size + 1) 97 (.int .i64 k) (.int .i64 i) (.int .i64 j) (.int .i64 t)) := ((Blk4.at_ _ _ _ _ _ (by simp)).old _).keep hb (by simp <;> omega)
    have K2 : Hid (Blk3 w1 (w.heap.size + 1 + 1) 26 (.int .i64 0) (.int .i64 0) (.slice none 0 0)) := (Blk3.at_ _ _ _ _ (by simp)).keep hb (by simp)
    have B : Hid (Below w.heap.size w w1) := (BH.out _ _ _).trans (hb.mono (by simp <;> omega))
    clear hb
    obtain ⟨ca0, ca1, ca2, -, -, -⟩ := K0.out.all
    obtain ⟨cb0, cb1, cb2, cb3⟩ := K1.out.all
    obtain ⟨cc0, cc1, cc2, ff0, ff1, ff2⟩ := K2.out.all
    rw [M.out]
    go_wp2_with fail
    obtain ⟨E0, E1, E2, -, -, -⟩ := (((K2.out.set0 (.int .i64 0)).set1 (.int .i64 0)).set2 (.slice none 0 0)).all
    rw [E.out]
    exact bodyPost_ret (v := .tuple #[.agg #[.int .i64 0, .int .i64 0, .slice none 0 0], .bool false]) (by simp [results, Try.results162, go_sem, E0, E1, E2]) rfl ⟨_, rfl, .inl ⟨rfl, rfl⟩, ((B.out.setCell (by show w.heap.size ≤ w.heap.size + 1 + 1; omega) _).setCell (by show w.heap.size ≤ w.heap.size + 1 + 1; omega) _).setCell (by show w.heap.size ≤ w.heap.size + 1 + 1; omega) _⟩
end Go.Proofs.Ytpelnfenfeoeeaa
end

section
/-
  Chapter 3, in the program: a row that shares its memory with the matrix.
-/
namespace Go.Proofs.Ytpelnfenfeoeeaa
set_option maxRecDepth 100000
open Go.RowKit
def rwL (c : Nat) (v : Nat → Int) : List Int := (List.range c).map v
theorem rwL_length (c : Nat) (v : Nat → Int) : (rwL c v).length = c := by simp [rwL]
theorem rwL_at {c : Nat} {v : Nat → Int} {j : Nat} (hj : j < c) : (rwL c v).getD j 0 = v j := by simp [rwL, List.getD, hj]
def RowAt (q : Option Addr) (D c : Nat) (w : World) (e : Ending) (w' : World) : Prop :=
  ∃ (q' : Option Addr) (m' : Nat), e = .returned (.slice q' c m') ∧ c ≤ m' ∧ (∀ g o : Nat, q = some ⟨g, o, none⟩ → 0 < c → q' = some ⟨g, o + D, none⟩) ∧ (q = none → q' = none) ∧ Below w.heap.size w w'
theorem Rd.row {w : World} {q q' : Option Addr} {xs : List Int} {r c i : Nat} (h : Rd w q xs) (hx : xs.length = r * c) (hi : i < r) (hq : ∀ g o : Nat, q = some ⟨g, o, none⟩ → 0 < c → q' = some ⟨g, o + i * c, none⟩) : Rd w q' (rwL c (mxC c xs i)) := fun j hj => by
  rw [rwL_length] at hj
  obtain ⟨b, o, ha, hc⟩ := h (i * c + j) (by rw [hx]; exact idx_lt hi hj)
  refine ⟨b, o + i * c, hq b o ha (by omega), ?_⟩
  rw [rwL_at hj, Nat.add_assoc]
  exact hc
set_option maxHeartbeats 1000000 in
theorem iRowIn (r c i D N cap : Nat) (q : Option Addr) (w : World) (hq : Spot q) (hD : i * c = D) (hN : D + c ≤ N) (hc : N ≤ cap) (hn : q = none → cap = 0) (h1 : N ≤ 600) (hi : i ≤ 600) :
    Calls Try.prog 83 #[.agg #[.int .i64 r, .int .i64 c, .slice q N cap], .int .i64 i] w (RowAt q D c w) := by
  have u1 : (i : Int) * (c : Int) = (D : Int) := by rw [← hD]; exact (Int.natCast_mul _ _).symm
  have u2 : ((i : Int) + 1) * (c : Int) = ((D + c : Nat) : Int) := by rw [Int.add_mul, Int.one_mul, u1]; rfl
  have v1 : IntKind.i64.wrap ((i : Int) * (c : Int)) = (D : Int) := by rw [u1]; exact IntWalk.i64_in _ (by omega)
  have v2 : IntKind.i64.wrap ((i : Int) + 1) = (i : Int) + 1 := IntWalk.i64_in _ (by omega)
  have v3 : IntKind.i64.wrap (((i : Int) + 1) * (c : Int)) = ((D + c : Nat) : Int) := by rw [u2]; exact IntWalk.i64_in _ (by omega)
  have Z : Hid (c = 0 → D = 0) := fun h => by rw [← hD, h, Nat.mul_zero]
  have Dm : D + c ≤ cap := by omega
  have K0 : Hid (Blk3 (w.alloc (.cells #[.int .i64 r, .int .i64 c, .slice q N cap] 26)) w.heap.size 26 (.int .i64 r) (.int .i64 c) (.slice q N cap)) := Blk3.at_ _ _ _ _ rfl
  have B : Hid (Below w.heap.size w (w.alloc (.cells #[.int .i64 r, .int .i64 c, .slice q N cap] 26))) := (Below.refl _ _).alloc (Nat.le_refl _) _
  clear hD u1 u2
  rcases hq with rfl | ⟨g, o, rfl⟩
  · obtain rfl : cap = 0 := hn rfl
    obtain rfl : c = 0 := by omega
    obtain rfl : D = 0 := by omega
    obtain rfl : N = 0 := by omega
    go_enter Try.func83, Try.ntmps83
    go_wp2_with fail
    exact bodyPost_ret (v := .slice none 0 0) (by simp [results, Try.results83, go_sem]) rfl ⟨none, 0, rfl, Nat.le_refl _, (fun g o h => by cases h), (fun _ => rfl), B.out⟩
  · rcases Nat.lt_or_ge D cap with hlt | hge
    · go_enter Try.func83, Try.ntmps83
      go_wp2_with fail
      rw [show D + c - D = c by omega]
      exact bodyPost_ret (v := .slice (some ⟨g, o + D, none⟩) c (cap - D)) (by simp [results, Try.results83, go_sem]) rfl ⟨_, _, rfl, by omega, (fun g' o' h _ => by injection h with h; injection h with h1 h2; rw [h1, h2]), (fun h => by cases h), B.out⟩
    · obtain rfl : c = 0 := by omega
      obtain rfl : D = 0 := Z.out rfl
      obtain rfl : cap = 0 := by omega
      obtain rfl : N = 0 := by omega
      go_enter Try.func83, Try.ntmps83
      go_wp2_with fail
      exact bodyPost_ret (v := .slice (some ⟨g, o, none⟩) 0 0) (by simp [results, Try.results83, go_sem]) rfl ⟨_, _, rfl, Nat.le_refl _, (fun g' o' h h0 => by omega), (fun h => by cases h), B.out⟩
end Go.Proofs.Ytpelnfenfeoeeaa
end

section
/-
  What cutting out a row asks of a matrix's cells.
-/
namespace Go.Proofs.Ytpelnfenfeoeeaa
open Go.RowKit
structure CelA (a : Option Addr) (L m : Nat) : Prop where
  spot : Spot a
  le : L ≤ m
  nil : a = none → m = 0
theorem Own.celA {B N cap : Nat} {w : World} {q : Option Addr} {zs : List Int} (h : Own B w (.slice q N cap) zs) : CelA q N cap := by
  rcases h with ⟨e, -⟩ | ⟨g, c, e, -, -, h3, -⟩
  · injection e with e1 e2 e3
    subst e1 e2 e3
    exact ⟨.inl rfl, Nat.le_refl _, fun _ => rfl⟩
  · injection e with e1 e2 e3
    subst e1 e2 e3
    exact ⟨Spot.of _ _, h3, fun h => by cases h⟩
end Go.Proofs.Ytpelnfenfeoeeaa
end

section
/-
  Chapter 12, in the program: a matrix on its way and its account, each behind a pointer: what lies in memory.
-/
namespace Go.Proofs.Ytpelnfenfeoeeaa
open Go.RowKit
theorem Own.moveA {B : Nat} {w w' : World} {v : Value} {zs : List Int} (h : Own B w v zs) (e : ∀ k, v.ownBlock = some k → w'.heap[k]? = w.heap[k]?) : Own B w' v zs := by
  rcases h with h | ⟨g, cap, hv, hB, hi, hl, hc⟩
  · exact .inl h
  · exact .inr ⟨g, cap, hv, hB, hi.move (e g (by rw [hv]; rfl)), hl, hc⟩
theorem Own.ne_box {B b : Nat} {w : World} {v : Value} {zs : List Int} {x y z : Value} (h : Own B w v zs) (k : Blk3 w b 26 x y z) : v.ownBlock ≠ some b := fun e => by
  rcases h with ⟨h2, -⟩ | ⟨g, cap, rfl, hB, ⟨rest, hg⟩, -⟩
  · rw [h2] at e; cases e
  · simp only [Value.ownBlock, Option.some.injEq] at e
    subst e
    unfold Blk3 at k
    rw [hg] at k
    injection k with k
    injection k with _ k2 _
    exact absurd k2 (by decide)
theorem Own.lt_of {B k : Nat} {w : World} {v : Value} {zs : List Int} (h : Own B w v zs) (e : v.ownBlock = some k) : B ≤ k ∧ k < w.heap.size := by
  rcases h with ⟨h2, -⟩ | ⟨g, cap, rfl, hB, hi, -⟩
  · rw [h2] at e; cases e
  · simp only [Value.ownBlock, Option.some.injEq] at e
    subst e
    exact ⟨hB, hi.lt⟩
theorem Own.setA {B b : Nat} {w : World} {v : Value} {zs : List Int} (h : Own B w v zs) (hb : v.ownBlock ≠ some b) (x y z : Value) : Own B (((w.setCell ⟨b, 0, none⟩ x).setCell ⟨b, 1, none⟩ y).setCell ⟨b, 2, none⟩ z) v zs :=
  h.moveA fun k hk => by
    have hne : k ≠ b := fun e => hb (by rw [hk, e])
    exact ((Below.heap_setCell _ _ z k hne).trans (Below.heap_setCell _ _ y k hne)).trans (Below.heap_setCell _ _ x k hne)
structure AcV (R C na nu bf ba B : Nat) (s : HSt) (qa qu : Option Addr) (ma mu : Nat) (w : World) : Prop where
  kf : Blk3 w bf 26 (.int .i64 R) (.int .i64 C) (.slice qa na ma)
  ka : Blk3 w ba 26 (.int .i64 R) (.int .i64 R) (.slice qu nu mu)
  fA : Own B w (.slice qa na ma) s.1
  fU : Own B w (.slice qu nu mu) s.2
  df : ∀ k, (Value.slice qa na ma).ownBlock = some k → (Value.slice qu nu mu).ownBlock ≠ some k
  lf : s.1.length = na
  lu : s.2.length = nu
  bb : bf ≠ ba
def AcW (R C na nu bf ba B : Nat) (s : HSt) (w : World) : Prop := ∃ qa qu ma mu, AcV R C na nu bf ba B s qa qu ma mu w
theorem AcV.step {R C na nu bf ba B : Nat} {s : HSt} {qa qu : Option Addr} {ma mu : Nat} {w w' : World} (h : AcV R C na nu bf ba B s qa qu ma mu w) (hb : Below w.heap.size w w') : AcV R C na nu bf ba B s qa qu ma mu w' :=
  ⟨h.kf.keep hb h.kf.lt, h.ka.keep hb h.ka.lt, h.fA.keep hb, h.fU.keep hb, h.df, h.lf, h.lu, h.bb⟩
theorem AcW.step {R C na nu bf ba B : Nat} {s : HSt} {w w' : World} (h : AcW R C na nu bf ba B s w) (hb : Below w.heap.size w w') : AcW R C na nu bf ba B s w' := by
  obtain ⟨qa, qu, ma, mu, h⟩ := h
  exact ⟨qa, qu, ma, mu, h.step hb⟩
theorem AcW.lt {R C na nu bf ba B : Nat} {s : HSt} {w : World} (h : AcW R C na nu bf ba B s w) : bf < w.heap.size ∧ ba < w.heap.size := by
  obtain ⟨qa, qu, ma, mu, h⟩ := h
  exact ⟨h.kf.lt, h.ka.lt⟩
theorem AcV.rd {R C na nu bf ba B : Nat} {s : HSt} {qa qu : Option Addr} {ma mu : Nat} {w : World} (h : AcV R C na nu bf ba B s qa qu ma mu w) : Rd w qa s.1 := by
  rcases h.fA with ⟨e, h0⟩ | ⟨g, c, e, -, hi, -⟩
  · rw [h0]; exact Rd.nil _ _
  · injection e with e1 _ _
    rw [e1]; exact hi.rd
theorem AcV.rdu {R C na nu bf ba B : Nat} {s : HSt} {qa qu : Option Addr} {ma mu : Nat} {w : World} (h : AcV R C na nu bf ba B s qa qu ma mu w) : Rd w qu s.2 := by
  rcases h.fU with ⟨e, h0⟩ | ⟨g, c, e, -, hi, -⟩
  · rw [h0]; exact Rd.nil _ _
  · injection e with e1 _ _
    rw [e1]; exact hi.rd
theorem AcV.putF {R C na nu bf ba B : Nat} {s : HSt} {qa qu : Option Addr} {ma mu : Nat} {w w1 : World} (h : AcV R C na nu bf ba B s qa qu ma mu w) (hb : Below w.heap.size w w1) (hB : B ≤ w.heap.size) {q : Option Addr} {m : Nat} {zs : List Int} (ho : Own w.heap.size w1 (.slice q na m) zs) (hz : zs.length = na) :
    AcW R C na nu bf ba B (zs, s.2) (((w1.setCell ⟨bf, 0, none⟩ (.int .i64 R)).setCell ⟨bf, 1, none⟩ (.int .i64 C)).setCell ⟨bf, 2, none⟩ (.slice q na m)) := by
  have h1 := h.step hb
  have l1 := h.kf.lt
  have ob : (Value.slice q na m).ownBlock ≠ some bf := fun e => by have := ho.lt_of e; omega
  refine ⟨q, qu, m, mu, ((h1.kf.set0 _).set1 _).set2 _, ((h1.ka.far (a := ⟨bf, 0, none⟩) (by show ba ≠ bf; exact h.bb.symm) _).far (a := ⟨bf, 1, none⟩) (by show ba ≠ bf; exact h.bb.symm) _).far (a := ⟨bf, 2, none⟩) (by show ba ≠ bf; exact h.bb.symm) _, (ho.setA ob _ _ _).le hB, h1.fU.setA (h1.fU.ne_box h1.kf) _ _ _, fun k hk e => ?_, hz, h.lu, h.bb⟩
  have a1 := ho.lt_of hk
  have a2 := h.fU.lt_of e
  omega
theorem AcV.putU {R C na nu bf ba B : Nat} {s : HSt} {qa qu : Option Addr} {ma mu : Nat} {w w1 : World} (h : AcV R C na nu bf ba B s qa qu ma mu w) (hb : Below w.heap.size w w1) (hB : B ≤ w.heap.size) {q : Option Addr} {m : Nat} {zs : List Int} (ho : Own w.heap.size w1 (.slice q nu m) zs) (hz : zs.length = nu) :
    AcW R C na nu bf ba B (s.1, zs) (((w1.setCell ⟨ba, 0, none⟩ (.int .i64 R)).setCell ⟨ba, 1, none⟩ (.int .i64 R)).setCell ⟨ba, 2, none⟩ (.slice q nu m)) := by
  have h1 := h.step hb
  have l1 := h.ka.lt
  have ob : (Value.slice q nu m).ownBlock ≠ some ba := fun e => by have := ho.lt_of e; omega
  refine ⟨qa, q, ma, m, ((h1.kf.far (a := ⟨ba, 0, none⟩) (by show bf ≠ ba; exact h.bb) _).far (a := ⟨ba, 1, none⟩) (by show bf ≠ ba; exact h.bb) _).far (a := ⟨ba, 2, none⟩) (by show bf ≠ ba; exact h.bb) _, ((h1.ka.set0 _).set1 _).set2 _, h1.fA.setA (h1.fA.ne_box h1.ka) _ _ _, (ho.setA ob _ _ _).le hB, fun k hk e => ?_, h.lf, hz, h.bb⟩
  have a1 := ho.lt_of e
  have a2 := h.fA.lt_of hk
  omega
def acS (R C : Nat) (k : Int) (I J : Nat) (z : Int) (s : HSt) : Nat → HSt
  | 0 => s
  | 1 => (opL k I J z C s.1, s.2)
  | _ => op2 R C k I J z s
def acB (R C : Nat) (k : Int) (I J : Nat) (z : Int) (s : HSt) : Nat → Bool
  | 0 => true
  | 1 => nums (opL k I J z C s.1)
  | _ => okS (op2 R C k I J z s)
theorem opM_case {k : Int} {I J : Nat} {z : Int} {R C : Nat} {xs : List Int} (hm : isMat R C xs = true) (ho : isOp k I J z R = true) (hl : (opL k I J z C xs).length = R * C) :
    opM k I J z R C xs = if nums (opL k I J z C xs) = true then ⟨true, R, C, opL k I J z C xs⟩ else MR.no := by
  have E : opM k I J z R C xs = MR.done R C (opL k I J z C xs) := by unfold opM; rw [hm, ho]; rfl
  obtain ⟨⟨-, r2⟩, ⟨-, c2⟩, -, -⟩ := isMat_says hm
  rw [E]
  unfold MR.done
  cases hn : nums (opL k I J z C xs) with
  | true => rw [if_pos rfl, if_pos (isMat_mk (by omega) (by omega) hl hn)]
  | false =>
    have h0 : ¬ isMat R C (opL k I J z C xs) = true := fun h => by
      have := (isMat_says h).2.2.2
      rw [hn] at this
      cases this
    rw [if_neg h0]
    rfl
structure DoAt (R C na nu bf ba B : Nat) (k : Int) (I J : Nat) (z : Int) (s : HSt) (i : Nat) (w : World) (bx cx nx : Nat) (qx : Option Addr) (mx : Nat) (xs zs : List Int) (fx : Bool) : Prop where
  blk : Blk3 w bx 26 (.int .i64 R) (.int .i64 cx) (.slice qx nx mx)
  rd : Rd w qx xs
  lx : xs.length = nx
  lz : zs.length = nx
  spot : Spot qx
  op : opM k I J z R cx xs = if fx = true then ⟨true, R, cx, zs⟩ else MR.no
  eb : bx = if i = 0 then bf else ba
  nn : nx = na ∨ nx = nu
  ef : fx = acB R C k I J z s (i + 1)
  bad : fx = false → okS (op2 R C k I J z s) = false
  next : ∀ w1 q m, Below w.heap.size w w1 → Own w.heap.size w1 (.slice q nx m) zs → AcW R C na nu bf ba B (acS R C k I J z s (i + 1)) (((w1.setCell ⟨bx, 0, none⟩ (.int .i64 R)).setCell ⟨bx, 1, none⟩ (.int .i64 cx)).setCell ⟨bx, 2, none⟩ (.slice q nx m))
theorem do_at {R C na nu bf ba B : Nat} {k : Int} {I J : Nat} {z : Int} {s : HSt} {i : Nat} {w : World} (hi : i < 2) (hR : R ≤ 24) (hC : C ≤ 24) (hna : na = R * C) (hnu : nu = R * R) (h : AcW R C na nu bf ba B (acS R C k I J z s i) w) (hB : B ≤ w.heap.size) (hS : Siz R C s) (ho : okS s = true) (hop : isOp k I J z R = true) (hf : acB R C k I J z s i = true) :
    ∃ bx cx nx qx mx xs zs fx, DoAt R C na nu bf ba B k I J z s i w bx cx nx qx mx xs zs fx := by
  obtain ⟨qa, qu, ma, mu, h⟩ := h
  have n2 := okS_and ho
  have S2 := hS.op k I J z
  have l1 : (opL k I J z C s.1).length = R * C := S2.l1
  have l2 : (opL k I J z R s.2).length = R * R := S2.l2
  rcases i with _ | _ | i
  · refine ⟨bf, C, na, qa, ma, s.1, opL k I J z C s.1, nums (opL k I J z C s.1), h.kf, h.rd, h.lf, by rw [l1, hna], h.fA.celA.spot, opM_case (isMat_mk hR hC hS.l1 n2.1) hop l1, rfl, .inl rfl, rfl, fun h0 => ?_, fun w1 q m hb hw => ?_⟩
    · show (nums _ && nums _) = false
      show (nums (opL k I J z C s.1) && nums (opL k I J z R s.2)) = false
      rw [h0]; rfl
    · exact h.putF hb hB hw (by rw [l1, hna])
  · have hf1 : nums (opL k I J z C s.1) = true := hf
    refine ⟨ba, R, nu, qu, mu, s.2, opL k I J z R s.2, nums (opL k I J z R s.2), h.ka, h.rdu, h.lu, by rw [l2, hnu], h.fU.celA.spot, opM_case (isMat_mk hR hR hS.l2 n2.2) hop l2, rfl, .inr rfl, ?_, fun h0 => ?_, fun w1 q m hb hw => ?_⟩
    · show _ = (nums (opL k I J z C s.1) && nums (opL k I J z R s.2))
      rw [hf1]; rfl
    · show (nums (opL k I J z C s.1) && nums (opL k I J z R s.2)) = false
      rw [h0, hf1]; rfl
    · exact h.putU hb hB hw (by rw [l2, hnu])
  · omega
theorem do_at_le {R C na nu bf ba B : Nat} {k : Int} {I J : Nat} {z : Int} {s : HSt} {i : Nat} {w : World} (hi : i < 2) (hR : R ≤ 24) (hC : C ≤ 24) (hna : na = R * C) (hnu : nu = R * R) (h : AcW R C na nu bf ba B (acS R C k I J z s i) w) (hB : B ≤ w.heap.size) (hS : Siz R C s) (ho : okS s = true) (hop : isOp k I J z R = true) (hf : acB R C k I J z s i = true) :
    ∃ bx cx nx qx mx xs zs fx, DoAt R C na nu bf ba B k I J z s i w bx cx nx qx mx xs zs fx ∧ nx ≤ 600 := by
  have hle : R * C ≤ 24 * 24 := Nat.mul_le_mul hR hC
  have hlu : R * R ≤ 24 * 24 := Nat.mul_le_mul hR hR
  obtain ⟨bx, cx, nx, qx, mx, xs, zs, fx, D⟩ := do_at hi hR hC hna hnu h hB hS ho hop hf
  refine ⟨bx, cx, nx, qx, mx, xs, zs, fx, D, ?_⟩
  rcases D.nn with e | e <;> omega
end Go.Proofs.Ytpelnfenfeoeeaa
end
