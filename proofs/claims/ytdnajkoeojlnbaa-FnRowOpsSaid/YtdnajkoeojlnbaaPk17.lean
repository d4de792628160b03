/-
  Texts of this seat, joined: RI3c · RI4 · RI6 · MatI3 · RI5 · RU1 · RU2
-/
import Derived.Test.YtdnajkoeojlnbaaPk4
import Derived.Test.YtdnajkoeojlnbaaPk6
import Derived.Test.YtdnajkoeojlnbaaPk15
import Derived.Test.YtdnajkoeojlnbaaPk16

section
/-
  Chapter 5, in the program: DoRowOp, kind 2.
-/
namespace Go.Proofs.Ytdnajkoeojlnbaa
set_option maxRecDepth 100000
open Go.RowKit

set_option maxRecDepth 100000 in
set_option maxHeartbeats 1000000 in
theorem iOp_2 (R C I J : Nat) (a : Option Addr) (m : Nat) (t : Int) (xs : List Int) (w : World) (h : Rd w a xs) (hn : xs.length ≤ 16777216) (hm : isMat R C xs = true) (ho : isOp 2 I J t R = true) :
    Calls Try.prog 87 #[.agg #[.int .i64 R, .int .i64 C, .slice a xs.length m], .agg #[.int .i64 2, .int .i64 I, .int .i64 J, .int .i64 t]] w (MatRes (MR.done R C (opL 2 I J t C xs)) w) := by
  obtain ⟨⟨r1, r2⟩, ⟨c1, c2⟩, l1, nx⟩ := isMat_says hm
  obtain ⟨hk, -, ⟨i1, i2⟩, ⟨j1, j2⟩, ht, -⟩ := isOp_says ho
  have hIJ := isOp_rows2 ho
  rw [← Int.natCast_mul] at l1
  have hle : R * C ≤ 24 * 24 := Nat.mul_le_mul (by omega) (by omega)
  have hR : R ≤ 24 := by omega
  have hC : C ≤ 24 := by omega
  have hI : I < R := by omega
  have hJ : J < R := by omega
  have IJ := Lib.hid hIJ
  have NX := Lib.hid nx
  have HT := Lib.hid ht
  have M := Lib.hid hm
  have OP := Lib.hid ho
  have hn2 : xs.length ≤ 576 := by omega
  have hN0 : xs.length = R * C := by omega
  have B0 : ∀ o1 o2 o3, Below w.heap.size w (((w.alloc o1).alloc o2).alloc o3) := fun o1 o2 o3 => (((Below.refl _ _).alloc (Nat.le_refl _) _).alloc (by simp) _).alloc (by simp <;> omega) _
  have BH := Lib.hid B0
  have H := Lib.hid h
  obtain ⟨n, hx⟩ : ∃ n, xs.length = n := ⟨_, rfl⟩
  have HX := Lib.hid hx
  rw [hx] at hn hn2 hN0 ⊢
  have HN := Lib.hid hN0
  clear B0 h hx hm ho r1 r2 c1 c2 l1 i1 i2 j1 j2 hle hIJ hN0 nx ht
  go_enter Try.func87, Try.ntmps87
  go_wp2_with fail
  have ST := iIsMat R C a m xs _ (H.out.below (BH.out (.cells #[.int .i64 R, .int .i64 C, .slice a n m] 27) (.cells #[.int .i64 2, .int .i64 I, .int .i64 J, .int .i64 t] 49) (.cells #[.int .i64 0, .int .i64 0, .slice none 0 0] 27))) (by rw [HX.out]; omega)
  rw [HX.out] at ST
  refine ST.mono ?_
  clear ST
  rintro e w1 ⟨rfl, hb⟩
  have K0 : Hid (Blk3 w1 w.heap.size 27 (.int .i64 R) (.int .i64 C) (.slice a n m)) := (((Blk3.at_ _ _ _ _ rfl).old _).old _).keep hb (by simp <;> omega)
  have K1 : Hid (Blk4 w1 (w.heap.size + 1) 49 (.int .i64 2) (.int .i64 I) (.int .i64 J) (.int .i64 t)) := ((Blk4.at_ _ _ _ _ _ (by simp)).old _).keep hb (by simp <;> omega)
  have K2 : Hid (Blk3 w1 (w.heap.size + 1 + 1) 27 (.int .i64 0) (.int .i64 0) (.slice none 0 0)) := (Blk3.at_ _ _ _ _ (by simp)).keep hb (by simp)
  have B : Hid (Below w.heap.size w w1) := (BH.out _ _ _).trans (hb.mono (by simp <;> omega))
  clear hb
  obtain ⟨ca0, ca1, ca2, -, -, -⟩ := K0.out.all
  obtain ⟨cb0, cb1, cb2, cb3⟩ := K1.out.all
  obtain ⟨cc0, cc1, cc2, ff0, ff1, ff2⟩ := K2.out.all
  rw [M.out]
  go_wp2_with fail
  refine (iIsOp 2 I J t R _).mono ?_
  rintro e w2 ⟨rfl, hb⟩
  have K0 := Lib.hid (K0.out.step hb)
  have K1 := Lib.hid (K1.out.step hb)
  have K2 := Lib.hid (K2.out.step hb)
  have B := Lib.hid (stepB B.out hb)
  clear hb ca0 ca1 ca2 cb0 cb1 cb2 cb3 cc0 cc1 cc2 ff0 ff1 ff2
  obtain ⟨da0, da1, da2, -, -, -⟩ := K0.out.all
  obtain ⟨db0, db1, db2, db3⟩ := K1.out.all
  obtain ⟨dc0, dc1, dc2, gf0, gf1, gf2⟩ := K2.out.all
  rw [OP.out]
  go_upto_region 3 with fail
  go_cut [6, 7] (fun s6 s7 wx => ∃ (p6 : Nat) (v0 : Value), s6 = .pointer (some ⟨p6, 0, none⟩) ∧ s7 = .iface 110 (aggO 2 I J t) ∧ Blk3 wx p6 27 (.int .i64 R) (.int .i64 C) v0 ∧ In w2.heap.size wx.heap.size wx v0 xs ∧ Below w2.heap.size w2 wx)
  case first =>
    refine wp_region_held_drew (S := fun w' => Below w2.heap.size w2 w') (by kernel_rfl) (Below.refl _ _).drew (fun hH => ?_)
    refine wpAnyH_take (i := 0) (v := ?_) (by simp only [List.getElem?_toArray, List.getElem?_cons_zero]; rfl) (by kernel_rfl) (by kernel_rfl) (by kernel_rfl) (by exact fun _ _ _ h => h) (Or.inl ⟨by rfl, ?_⟩) hH ?_
    rotate_left
    · (intro wS hS; (try dsimp only at hS); obtain ⟨k1, k2, k3, k4, k5, k6, k7⟩ := sevB K0.out K1.out hS; go_simp; try rfl)
    try simp only [Act.put, List.setIfInBounds_toArray, List.set_cons_zero, List.set_cons_succ]
    refine wpAnyH_take (i := 2) (v := ?_) (by simp only [List.getElem?_toArray, List.getElem?_cons_succ, List.getElem?_cons_zero]; rfl) (by kernel_rfl) (by kernel_rfl) (by kernel_rfl) (by exact fun _ _ _ h => h) (Or.inl ⟨by rfl, ?_⟩) hH ?_
    rotate_left
    · (intro wS hS; (try dsimp only at hS); obtain ⟨k1, k2, k3, k4, k5, k6, k7⟩ := sevB K0.out K1.out hS; go_simp; try rfl)
    try simp only [Act.put, List.setIfInBounds_toArray, List.set_cons_zero, List.set_cons_succ]
    refine wpAnyH_ready (rs := [1, 4]) (by kernel_rfl) (by simp) ?_
    refine AllReadyH.cons (by simp only [List.getElem?_toArray, List.getElem?_cons_succ, List.getElem?_cons_zero]; rfl) (fun K hK => ?_) (AllReadyH.cons (by simp only [List.getElem?_toArray, List.getElem?_cons_succ, List.getElem?_cons_zero]; rfl) (fun K hK => ?_) AllReadyH.nil)
    · go_simp
      have hs1 := hH.size
      (with_reducible refine (iCopyOf R C a m n xs HX.out _ (H.out.below (B.out.trans (hH.mono B.out.size))) (by omega)).mono ?_)
      rintro e v1 ⟨q0, qc, rfl, own, hb1⟩
      have O := Lib.hid own.inn
      clear own
      try dsimp only
      refine hK.out _ _ ?_ (fun hH2 => ?_)
      · exact hH.trans (hb1.mono hH.size)
      clear hK K
      have hO := hH
      clear hH
      have hH := hH2
      clear hH2
      try simp only [Act.put, List.setIfInBounds_toArray, List.set_cons_zero, List.set_cons_succ]
      have z1 := hb1.size
      refine wpAnyH_ready (rs := [3, 4]) (by kernel_rfl) (by simp) ?_
      refine AllReadyH.cons (by simp only [List.getElem?_toArray, List.getElem?_cons_succ, List.getElem?_cons_zero]; rfl) (fun K hK => ?_) (AllReadyH.cons (by simp only [List.getElem?_toArray, List.getElem?_cons_succ, List.getElem?_cons_zero]; rfl) (fun K hK => ?_) AllReadyH.nil)
      · go_simp
        have hs3 := hH.size
        (with_reducible refine (iOpOf2 I J t _).mono ?_)
        rintro e v3 ⟨rfl, hb3⟩
        have O := Lib.hid (O.out.keep hb3)
        try dsimp only
        refine hK.out _ _ ?_ (fun hH2 => ?_)
        · exact hH.trans (hb3.mono hH.size)
        clear hK K
        have hO := hH
        clear hH
        have hH := hH2
        clear hH2
        try simp only [Act.put, List.setIfInBounds_toArray, List.set_cons_zero, List.set_cons_succ]
        have z3 := hb3.size
        refine wpAnyH_ready (rs := [4]) (by kernel_rfl) (by simp) ?_
        refine AllReadyH.cons (by simp only [List.getElem?_toArray, List.getElem?_cons_succ, List.getElem?_cons_zero]; rfl) (fun K hK => ?_) AllReadyH.nil
        go_simp
        have VB : Hid (Blk3 (v3.alloc (.cells #[.int .i64 0, .int .i64 0, .slice none 0 0] 27)) v3.heap.size 27 (.int .i64 0) (.int .i64 0) (.slice none 0 0)) := Blk3.at_ _ _ _ _ rfl
        have PL : w2.heap.size ≤ v3.heap.size := hH.size
        try dsimp only
        refine hK.out _ _ ?_ (fun hH2 => ?_)
        · exact hH.alloc hH.size _
        clear hK K
        have hO := hH
        clear hH
        have hH := hH2
        clear hH2
        try simp only [Act.put, List.setIfInBounds_toArray, List.set_cons_zero, List.set_cons_succ]
        refine wpAnyH_ready (rs := [5]) (by kernel_rfl) (by simp) ?_
        refine AllReadyH.cons (by simp only [List.getElem?_toArray, List.getElem?_cons_succ, List.getElem?_cons_zero]; rfl) (fun K hK => ?_) AllReadyH.nil
        go_simp
        have VB : Hid (Blk3 (v3.alloc (.cells #[.int .i64 R, .int .i64 C, .slice q0 n qc] 27)) v3.heap.size 27 (.int .i64 R) (.int .i64 C) (.slice q0 n qc)) := Blk3.at_ _ _ _ _ rfl
        try dsimp only
        refine hK.out _ _ ?_ (fun hH2 => ?_)
        · exact hO.alloc hO.size _
        clear hK K
        have hO := hH
        clear hH
        have hH := hH2
        clear hH2
        try simp only [Act.put, List.setIfInBounds_toArray, List.set_cons_zero, List.set_cons_succ]
        refine wpAnyH_take (i := 6) (v := ?_) (by simp only [List.getElem?_toArray, List.getElem?_cons_succ, List.getElem?_cons_zero]; rfl) (by kernel_rfl) (by kernel_rfl) (by kernel_rfl) (by exact fun _ _ _ h => h) (Or.inl ⟨by rfl, ?_⟩) hH ?_
        rotate_left
        · (intro wS hS; clear hS; go_simp; try rfl)
        try simp only [Act.put, List.setIfInBounds_toArray, List.set_cons_zero, List.set_cons_succ]
        refine wpAnyH_done (by kernel_rfl) ?_ _
        go_wp2_with fail
        go_meet
        exact ⟨v3.heap.size, _, rfl, rfl, VB.out, (O.out.old _).wide hs1 (by have := hb3.size; first | (simp; done) | (simp; omega) | omega), hH⟩
      · go_simp
        have VB : Hid (Blk3 (v1.alloc (.cells #[.int .i64 0, .int .i64 0, .slice none 0 0] 27)) v1.heap.size 27 (.int .i64 0) (.int .i64 0) (.slice none 0 0)) := Blk3.at_ _ _ _ _ rfl
        have O := Lib.hid (O.out.old (.cells #[.int .i64 0, .int .i64 0, .slice none 0 0] 27))
        have PL : w2.heap.size ≤ v1.heap.size := hH.size
        try dsimp only
        refine hK.out _ _ ?_ (fun hH2 => ?_)
        · exact hH.alloc hH.size _
        clear hK K
        have hO := hH
        clear hH
        have hH := hH2
        clear hH2
        try simp only [Act.put, List.setIfInBounds_toArray, List.set_cons_zero, List.set_cons_succ]
        refine wpAnyH_ready (rs := [3]) (by kernel_rfl) (by simp) ?_
        refine AllReadyH.cons (by simp only [List.getElem?_toArray, List.getElem?_cons_succ, List.getElem?_cons_zero]; rfl) (fun K hK => ?_) AllReadyH.nil
        go_simp
        have hs3 := hH.size
        have lb3 := VB.out.lt
        (with_reducible refine (iOpOf2 I J t _).mono ?_)
        rintro e v3 ⟨rfl, hb3⟩
        have O := Lib.hid (O.out.keep hb3)
        have VB := Lib.hid (VB.out.keep hb3 VB.out.lt)
        try dsimp only
        refine hK.out _ _ ?_ (fun hH2 => ?_)
        · exact hH.trans (hb3.mono hH.size)
        clear hK K
        have hO := hH
        clear hH
        have hH := hH2
        clear hH2
        try simp only [Act.put, List.setIfInBounds_toArray, List.set_cons_zero, List.set_cons_succ]
        have z3 := hb3.size
        refine wpAnyH_ready (rs := [5]) (by kernel_rfl) (by simp) ?_
        refine AllReadyH.cons (by simp only [List.getElem?_toArray, List.getElem?_cons_succ, List.getElem?_cons_zero]; rfl) (fun K hK => ?_) AllReadyH.nil
        obtain ⟨y0, y1, y2, y3, y4, y5⟩ := VB.out.all
        go_simp
        have VB := Lib.hid (((VB.out.set0 (.int .i64 R)).set1 (.int .i64 C)).set2 (.slice q0 n qc))
        try dsimp only
        refine hK.out _ _ ?_ (fun hH2 => ?_)
        · exact (((hH.setCell PL _).setCell PL _).setCell PL _)
        clear hK K
        have hO := hH
        clear hH
        have hH := hH2
        clear hH2
        try simp only [Act.put, List.setIfInBounds_toArray, List.set_cons_zero, List.set_cons_succ]
        refine wpAnyH_take (i := 6) (v := ?_) (by simp only [List.getElem?_toArray, List.getElem?_cons_succ, List.getElem?_cons_zero]; rfl) (by kernel_rfl) (by kernel_rfl) (by kernel_rfl) (by exact fun _ _ _ h => h) (Or.inl ⟨by rfl, ?_⟩) hH ?_
        rotate_left
        · (intro wS hS; clear hS; go_simp; try rfl)
        try simp only [Act.put, List.setIfInBounds_toArray, List.set_cons_zero, List.set_cons_succ]
        refine wpAnyH_done (by kernel_rfl) ?_ _
        go_wp2_with fail
        go_meet
        exact ⟨v1.heap.size, _, rfl, rfl, VB.out, (((O.out.far (by first | exact .inl lb1 | exact .inr (Nat.le_refl _) | omega) _).far (by first | exact .inl lb1 | exact .inr (Nat.le_refl _) | omega) _).far (by first | exact .inl lb1 | exact .inr (Nat.le_refl _) | omega) _).wide hs1 (by have := hb3.size; first | (simp; done) | (simp; omega) | omega), hH⟩
    · go_simp
      have VB : Hid (Blk3 (w2.drew.alloc (.cells #[.int .i64 0, .int .i64 0, .slice none 0 0] 27)) w2.heap.size 27 (.int .i64 0) (.int .i64 0) (.slice none 0 0)) := Blk3.at_ _ _ _ _ rfl
      have PL : w2.heap.size ≤ w2.drew.heap.size := hH.size
      try dsimp only
      refine hK.out _ _ ?_ (fun hH2 => ?_)
      · exact hH.alloc hH.size _
      clear hK K
      have hO := hH
      clear hH
      have hH := hH2
      clear hH2
      try simp only [Act.put, List.setIfInBounds_toArray, List.set_cons_zero, List.set_cons_succ]
      refine wpAnyH_ready (rs := [1]) (by kernel_rfl) (by simp) ?_
      refine AllReadyH.cons (by simp only [List.getElem?_toArray, List.getElem?_cons_succ, List.getElem?_cons_zero]; rfl) (fun K hK => ?_) AllReadyH.nil
      go_simp
      have hs1 := hH.size
      have lb1 := VB.out.lt
      (with_reducible refine (iCopyOf R C a m n xs HX.out _ (H.out.below (B.out.trans (hH.mono B.out.size))) (by omega)).mono ?_)
      rintro e v1 ⟨q0, qc, rfl, own, hb1⟩
      have O := Lib.hid own.inn
      clear own
      have VB := Lib.hid (VB.out.keep hb1 VB.out.lt)
      try dsimp only
      refine hK.out _ _ ?_ (fun hH2 => ?_)
      · exact hH.trans (hb1.mono hH.size)
      clear hK K
      have hO := hH
      clear hH
      have hH := hH2
      clear hH2
      try simp only [Act.put, List.setIfInBounds_toArray, List.set_cons_zero, List.set_cons_succ]
      have z1 := hb1.size
      refine wpAnyH_ready (rs := [3]) (by kernel_rfl) (by simp) ?_
      refine AllReadyH.cons (by simp only [List.getElem?_toArray, List.getElem?_cons_succ, List.getElem?_cons_zero]; rfl) (fun K hK => ?_) AllReadyH.nil
      go_simp
      have hs3 := hH.size
      have lb3 := VB.out.lt
      (with_reducible refine (iOpOf2 I J t _).mono ?_)
      rintro e v3 ⟨rfl, hb3⟩
      have O := Lib.hid (O.out.keep hb3)
      have VB := Lib.hid (VB.out.keep hb3 VB.out.lt)
      try dsimp only
      refine hK.out _ _ ?_ (fun hH2 => ?_)
      · exact hH.trans (hb3.mono hH.size)
      clear hK K
      have hO := hH
      clear hH
      have hH := hH2
      clear hH2
      try simp only [Act.put, List.setIfInBounds_toArray, List.set_cons_zero, List.set_cons_succ]
      have z3 := hb3.size
      refine wpAnyH_ready (rs := [5]) (by kernel_rfl) (by simp) ?_
      refine AllReadyH.cons (by simp only [List.getElem?_toArray, List.getElem?_cons_succ, List.getElem?_cons_zero]; rfl) (fun K hK => ?_) AllReadyH.nil
      obtain ⟨y0, y1, y2, y3, y4, y5⟩ := VB.out.all
      go_simp
      have VB := Lib.hid (((VB.out.set0 (.int .i64 R)).set1 (.int .i64 C)).set2 (.slice q0 n qc))
      try dsimp only
      refine hK.out _ _ ?_ (fun hH2 => ?_)
      · exact (((hH.setCell PL _).setCell PL _).setCell PL _)
      clear hK K
      have hO := hH
      clear hH
      have hH := hH2
      clear hH2
      try simp only [Act.put, List.setIfInBounds_toArray, List.set_cons_zero, List.set_cons_succ]
      refine wpAnyH_take (i := 6) (v := ?_) (by simp only [List.getElem?_toArray, List.getElem?_cons_succ, List.getElem?_cons_zero]; rfl) (by kernel_rfl) (by kernel_rfl) (by kernel_rfl) (by exact fun _ _ _ h => h) (Or.inl ⟨by rfl, ?_⟩) hH ?_
      rotate_left
      · (intro wS hS; clear hS; go_simp; try rfl)
      try simp only [Act.put, List.setIfInBounds_toArray, List.set_cons_zero, List.set_cons_succ]
      refine wpAnyH_done (by kernel_rfl) ?_ _
      go_wp2_with fail
      go_meet
      exact ⟨w2.heap.size, _, rfl, rfl, VB.out, (((O.out.far (by first | exact .inl lb1 | exact .inr (Nat.le_refl _) | omega) _).far (by first | exact .inl lb1 | exact .inr (Nat.le_refl _) | omega) _).far (by first | exact .inl lb1 | exact .inr (Nat.le_refl _) | omega) _).wide hs1 (by have := hb3.size; first | (simp; done) | (simp; omega) | omega), hH⟩
  case rest =>
    obtain ⟨p6, v0, rfl, rfl, k6, in0, hb⟩ := hcut
    have lK0 := K0.out.lt
    have lK1 := K1.out.lt
    have lK2 := K2.out.lt
    have K0 := Lib.hid (K0.out.step hb)
    have K1 := Lib.hid (K1.out.step hb)
    have K2 := Lib.hid (K2.out.step hb)
    have B := Lib.hid (stepB B.out hb)
    have K6 := Lib.hid k6
    have LP := hb.size
    clear hb k6 da0 da1 da2 db0 db1 db2 db3 dc0 dc1 dc2 gf0 gf1 gf2
    obtain ⟨cc0, cc1, cc2, -, -, -⟩ := K0.out.all
    have lw : w.heap.size ≤ w2.heap.size := by have := B.out.size; omega
    rcases in0.cases with ⟨rfl, rfl⟩ | ⟨g, qc, hv, gB, -, gi, gc⟩
    · obtain rfl : n = 0 := HX.out.symm
      have hC0 : C ≤ 0 := by
        rcases Nat.eq_zero_or_pos C with h | h
        · omega
        · have := Nat.mul_pos (show 0 < R by omega) h
          have := HN.out
          omega
      have EQ : Hid (MR.done R C (opL 2 I J t C []) = MR.done R C []) := rfl
      clear in0
      go_wp2_with fail
      go_loopw [31] (fun i wr => i = .int .i64 0 ∧ wr = wc) (fun _ _ => 0)
      case atStart => exact ⟨rfl, rfl⟩
      case round =>
        obtain ⟨rfl, rfl⟩ := hrel
        obtain ⟨dd0, dd1, dd2, -, -, -⟩ := K6.out.all
        go_wp2_with fail
        refine (iDone R C none 0 [] wr (Rd.nil _ _) (by simp)).mono ?_
        rintro e w4 ⟨rfl, hb⟩
        have R2 := Lib.hid (K2.out.step hb)
        have B := Lib.hid (stepB B.out hb)
        clear hb
        obtain ⟨s0, s1, s2, t0, t1, t2⟩ := R2.out.all
        have be : ∀ x y z, Below w.heap.size w (((w4.setCell ⟨w.heap.size + 1 + 1, 0, none⟩ x).setCell ⟨w.heap.size + 1 + 1, 1, none⟩ y).setCell ⟨w.heap.size + 1 + 1, 2, none⟩ z) := fun x y z =>
          (((B.out.setCell (by show w.heap.size ≤ w.heap.size + 1 + 1; omega) _).setCell (by show w.heap.size ≤ w.heap.size + 1 + 1; omega) _).setCell (by show w.heap.size ≤ w.heap.size + 1 + 1; omega) _)
        have BE := Lib.hid be
        clear be
        rcases Bool.eq_false_or_eq_true (isMat R C []) with hd | hd
        · have E : Hid (MR.done R C [] = ⟨true, R, C, []⟩) := by show MR.done R C [] = _; unfold MR.done; rw [hd]; rfl
          rw [hd]
          clear hd
          unfold DoneRes
          go_wp2_with fail
          obtain ⟨E0, E1, E2, -, -, -⟩ := (((R2.out.set0 (.int .i64 R)).set1 (.int .i64 C)).set2 (.slice none 0 0)).all
          rw [EQ.out, E.out]
          exact bodyPost_ret (v := .tuple #[.agg #[.int .i64 R, .int .i64 C, .slice none 0 0], .bool true]) (by simp [results, Try.results87, go_sem, E0, E1, E2]) rfl ⟨_, rfl, .inl ⟨rfl, rfl⟩, BE.out _ _ _⟩
        · have E : Hid (MR.done R C [] = MR.no) := by show MR.done R C [] = _; unfold MR.done; rw [hd]; rfl
          rw [hd]
          clear hd
          unfold DoneRes
          go_wp2_with fail
          obtain ⟨E0, E1, E2, -, -, -⟩ := (((R2.out.set0 (.int .i64 0)).set1 (.int .i64 0)).set2 (.slice none 0 0)).all
          rw [EQ.out, E.out]
          exact bodyPost_ret (v := .tuple #[.agg #[.int .i64 0, .int .i64 0, .slice none 0 0], .bool false]) (by simp [results, Try.results87, go_sem, E0, E1, E2]) rfl ⟨_, rfl, .inl ⟨rfl, rfl⟩, BE.out _ _ _⟩
    rw [HX.out] at hv gc
    subst hv
    have NE := gi.ne_blk K6.out
    have GI := Lib.hid gi
    clear in0 gi
    go_wp2_with fail
    go_loopw [31] (fun i wr => ∃ q : Nat, i = .int .i64 q ∧ q ≤ C ∧ Ints wr g (colTo (rwAt 2 I J t C xs) C xs q) ∧ wc.grownBy wr (some g) ∧ prodTo 2 J t C xs q) (fun i _ => C - (intOf i).toNat)
    case atStart => exact ⟨0, rfl, by omega, by rw [colTo_zero]; exact GI.out, World.grownBy.refl _ _, prodTo_zero _ _ _ _ _⟩
    case round =>
      obtain ⟨q, rfl, hq, hi, hgr, hp⟩ := hrel
      have IT := Lib.hid hi
      have G := Lib.hid hgr
      have P := Lib.hid hp
      clear hi hgr hp
      have R0 := Lib.hid (K0.out.keepOne G.out (by omega))
      have R1 := Lib.hid (K1.out.keepOne G.out (by omega))
      have R2 := Lib.hid (K2.out.keepOne G.out (by omega))
      have R6 := Lib.hid (K6.out.keepOne G.out NE.symm)
      have BW := Lib.hid (B.out.trans (below_of_one G.out (by omega) B.out.size))
      have HR := Lib.hid (H.out.below BW.out)
      obtain ⟨r0, r1, r2, -, -, -⟩ := R0.out.all
      obtain ⟨o0, o1, o2, o3⟩ := R1.out.all
      obtain ⟨s0, s1, s2, -, -, -⟩ := R6.out.all
      by_cases hlt : q < C
      · have a1 : I * C + q < n := by rw [HN.out]; exact idx_lt hI hlt
        have a2 : J * C + q < n := by rw [HN.out]; exact idx_lt hJ hlt
        have c1 : (I : Int) * (C : Int) = ((I * C : Nat) : Int) := (Int.natCast_mul _ _).symm
        have c2 : (J : Int) * (C : Int) = ((J * C : Nat) : Int) := (Int.natCast_mul _ _).symm
        have d1 : 0 ≤ (I : Int) * (C : Int) ∧ (I : Int) * (C : Int) ≤ 600 := by rw [c1]; omega
        have d2 : 0 ≤ (J : Int) * (C : Int) ∧ (J : Int) * (C : Int) ≤ 600 := by rw [c2]; omega
        have e1 : 0 ≤ (I : Int) * (C : Int) + (q : Int) := by omega
        have e2 : (I : Int) * (C : Int) + (q : Int) < (n : Int) := by rw [c1]; omega
        have e3 : ((I : Int) * (C : Int) + (q : Int)).toNat = I * C + q := by rw [c1]; omega
        have f1 : 0 ≤ (J : Int) * (C : Int) + (q : Int) := by omega
        have f2 : (J : Int) * (C : Int) + (q : Int) < (n : Int) := by rw [c2]; omega
        have f3 : ((J : Int) * (C : Int) + (q : Int)).toNat = J * C + q := by rw [c2]; omega
        obtain ⟨d11, d12⟩ := d1
        obtain ⟨d21, d22⟩ := d2
        have v1 : IntKind.i64.wrap ((I : Int) * (C : Int)) = (I : Int) * (C : Int) := IntWalk.i64_in _ (by omega)
        have v2 : IntKind.i64.wrap ((I : Int) * (C : Int) + (q : Int)) = (I : Int) * (C : Int) + (q : Int) := IntWalk.i64_in _ (by omega)
        have v3 : IntKind.i64.wrap ((J : Int) * (C : Int)) = (J : Int) * (C : Int) := IntWalk.i64_in _ (by omega)
        have v4 : IntKind.i64.wrap ((J : Int) * (C : Int) + (q : Int)) = (J : Int) * (C : Int) + (q : Int) := IntWalk.i64_in _ (by omega)
        obtain ⟨ba, oa, rfl, x1⟩ := HR.out (I * C + q) (by rw [HX.out]; exact a1)
        have x2 := HR.out.cells (J * C + q) (by rw [HX.out]; exact a2)
        clear c1 c2
        go_wp2_with fail
        go_quiet (fail)
        have R0 := Lib.hid (R0.out.drewN nq)
        have R1 := Lib.hid (R1.out.keepOne (grown_of_below (below_drewN (Below.refl _ _) nq) (some w.heap.size)) (by omega))
        have R2 := Lib.hid (R2.out.drewN nq)
        have R6 := Lib.hid (R6.out.drewN nq)
        have IT := Lib.hid (IT.out.drewN nq)
        have G := Lib.hid (grown_drewN_one G.out nq)
        have BW := Lib.hid (below_drewN BW.out nq)
        have HR := Lib.hid (H.out.below BW.out)
        clear r0 r1 r2 o0 o1 o2 o3 s0 s1 s2 x1 x2
        generalize wr.drewN nq = w3 at R0 R1 R2 R6 IT G BW HR ⊢
        obtain ⟨za, hza⟩ : ∃ z, xs.getD (I * C + q) 0 = z := ⟨_, rfl⟩
        obtain ⟨zb, hzb⟩ : ∃ z, xs.getD (J * C + q) 0 = z := ⟨_, rfl⟩
        have ZA := Lib.hid hza
        have ZB := Lib.hid hzb
        have CC : Hid (∀ wS, Below w3.heap.size w3 wS → _) := fun wS hS => colCells R0.out HR.out HX.out a1 a2 hS
        rw [hza, hzb] at CC
        clear hza hzb
        have NA : Hid (NumP za) := by rw [← ZA.out]; exact nums_at NX.out (by rw [HX.out]; exact a1)
        have NB : Hid (NumP zb) := by rw [← ZB.out]; exact nums_at NX.out (by rw [HX.out]; exact a2)
        go_upto_region 8 with fail
        obtain ⟨bb, hbb⟩ : ∃ b, decide (NumP (zb * t)) = b := ⟨_, rfl⟩
        have DO : Hid (∀ w, Calls Try.prog 144 #[aggO 2 I J t, .int .i64 za, .int .i64 zb] w (Gives (.tuple #[.int .i64 (za + zb * t), .int .i64 zb, .bool bb]) w)) := fun w => by rw [← hbb]; exact iDo2 za zb I J t w NA.out NB.out HT.out
        have HBB := Lib.hid hbb
        clear hbb
        refine wp_region_held_drew (S := fun w' => Below w3.heap.size w3 w') (by kernel_rfl) (Below.refl _ _).drew (fun hH => ?_)
        refine wpAnyH_take (i := 0) (v := ?_) (by simp only [List.getElem?_toArray, List.getElem?_cons_zero]; rfl) (by kernel_rfl) (by kernel_rfl) (by kernel_rfl) (by exact fun _ _ _ h => h) (Or.inl ⟨by rfl, ?_⟩) hH ?_
        rotate_left
        · (intro wS hS; clear hS; go_simp; try rfl)
        try simp only [Act.put, List.setIfInBounds_toArray, List.set_cons_zero, List.set_cons_succ]
        refine wpAnyH_take (i := 1) (v := ?_) (by simp only [List.getElem?_toArray, List.getElem?_cons_succ, List.getElem?_cons_zero]; rfl) (by kernel_rfl) (by kernel_rfl) (by kernel_rfl) (by exact fun _ _ _ h => h) (Or.inl ⟨by rfl, ?_⟩) hH ?_
        rotate_left
        · (intro wS hS; clear hS; go_simp; try rfl)
        try simp only [Act.put, List.setIfInBounds_toArray, List.set_cons_zero, List.set_cons_succ]
        refine wpAnyH_take (i := 2) (v := ?_) (by simp only [List.getElem?_toArray, List.getElem?_cons_succ, List.getElem?_cons_zero]; rfl) (by kernel_rfl) (by kernel_rfl) (by kernel_rfl) (by exact fun _ _ _ h => h) (Or.inl ⟨by rfl, ?_⟩) hH ?_
        rotate_left
        · (intro wS hS; (try dsimp only at hS); obtain ⟨k1, k2, k3, k4, k5⟩ := CC.out _ hS; go_simp; try rfl)
        try simp only [Act.put, List.setIfInBounds_toArray, List.set_cons_zero, List.set_cons_succ]
        refine wpAnyH_take (i := 3) (v := ?_) (by simp only [List.getElem?_toArray, List.getElem?_cons_succ, List.getElem?_cons_zero]; rfl) (by kernel_rfl) (by kernel_rfl) (by kernel_rfl) (by exact fun _ _ _ h => h) (Or.inl ⟨by rfl, ?_⟩) hH ?_
        rotate_left
        · (intro wS hS; clear hS; go_simp; try rfl)
        try simp only [Act.put, List.setIfInBounds_toArray, List.set_cons_zero, List.set_cons_succ]
        refine wpAnyH_take (i := 4) (v := ?_) (by simp only [List.getElem?_toArray, List.getElem?_cons_succ, List.getElem?_cons_zero]; rfl) (by kernel_rfl) (by kernel_rfl) (by kernel_rfl) (by exact fun _ _ _ h => h) (Or.inl ⟨by rfl, ?_⟩) hH ?_
        rotate_left
        · (intro wS hS; clear hS; go_simp; try rfl)
        try simp only [Act.put, List.setIfInBounds_toArray, List.set_cons_zero, List.set_cons_succ]
        refine wpAnyH_take (i := 5) (v := ?_) (by simp only [List.getElem?_toArray, List.getElem?_cons_succ, List.getElem?_cons_zero]; rfl) (by kernel_rfl) (by kernel_rfl) (by kernel_rfl) (by exact fun _ _ _ h => h) (Or.inl ⟨by rfl, ?_⟩) hH ?_
        rotate_left
        · (intro wS hS; (try dsimp only at hS); obtain ⟨k1, k2, k3, k4, k5⟩ := CC.out _ hS; go_simp; try rfl)
        try simp only [Act.put, List.setIfInBounds_toArray, List.set_cons_zero, List.set_cons_succ]
        refine wpAnyH_take (i := 6) (v := ?_) (by simp only [List.getElem?_toArray, List.getElem?_cons_succ, List.getElem?_cons_zero]; rfl) (by kernel_rfl) (by kernel_rfl) (by kernel_rfl) (by exact fun _ _ _ h => h) (Or.inl ⟨by rfl, ?_⟩) hH ?_
        rotate_left
        · (intro wS hS; clear hS; go_simp; try rfl)
        try simp only [Act.put, List.setIfInBounds_toArray, List.set_cons_zero, List.set_cons_succ]
        refine wpAnyH_take (i := 7) (v := ?_) (by simp only [List.getElem?_toArray, List.getElem?_cons_succ, List.getElem?_cons_zero]; rfl) (by kernel_rfl) (by kernel_rfl) (by kernel_rfl) (by exact fun _ _ _ h => h) (Or.inl ⟨by rfl, ?_⟩) hH ?_
        rotate_left
        · (intro wS hS; (try dsimp only at hS); obtain ⟨k1, k2, k3, k4, k5⟩ := CC.out _ hS; go_simp; try rfl)
        try simp only [Act.put, List.setIfInBounds_toArray, List.set_cons_zero, List.set_cons_succ]
        refine wpAnyH_take (i := 8) (v := ?_) (by simp only [List.getElem?_toArray, List.getElem?_cons_succ, List.getElem?_cons_zero]; rfl) (by kernel_rfl) (by kernel_rfl) (by kernel_rfl) (by exact fun _ _ _ h => h) (Or.inl ⟨by rfl, ?_⟩) hH ?_
        rotate_left
        · (intro wS hS; clear hS; go_simp; try rfl)
        try simp only [Act.put, List.setIfInBounds_toArray, List.set_cons_zero, List.set_cons_succ]
        refine wpAnyH_take (i := 9) (v := ?_) (by simp only [List.getElem?_toArray, List.getElem?_cons_succ, List.getElem?_cons_zero]; rfl) (by kernel_rfl) (by kernel_rfl) (by kernel_rfl) (by exact fun _ _ _ h => h) (Or.inl ⟨by rfl, ?_⟩) hH ?_
        rotate_left
        · (intro wS hS; clear hS; go_simp; try rfl)
        try simp only [Act.put, List.setIfInBounds_toArray, List.set_cons_zero, List.set_cons_succ]
        refine wpAnyH_take (i := 10) (v := ?_) (by simp only [List.getElem?_toArray, List.getElem?_cons_succ, List.getElem?_cons_zero]; rfl) (by kernel_rfl) (by kernel_rfl) (by kernel_rfl) (by exact fun _ _ _ h => h) (Or.inl ⟨by rfl, ?_⟩) hH ?_
        rotate_left
        · (intro wS hS; (try dsimp only at hS); obtain ⟨k1, k2, k3, k4, k5⟩ := CC.out _ hS; go_simp; try rfl)
        try simp only [Act.put, List.setIfInBounds_toArray, List.set_cons_zero, List.set_cons_succ]
        refine wpAnyH_take (i := 11) (v := ?_) (by simp only [List.getElem?_toArray, List.getElem?_cons_succ, List.getElem?_cons_zero]; rfl) (by kernel_rfl) (by kernel_rfl) (by kernel_rfl) (by exact fun _ _ _ h => h) (Or.inl ⟨by rfl, ?_⟩) hH ?_
        rotate_left
        · (intro wS hS; clear hS; go_simp; try rfl)
        try simp only [Act.put, List.setIfInBounds_toArray, List.set_cons_zero, List.set_cons_succ]
        refine wpAnyH_take (i := 12) (v := ?_) (by simp only [List.getElem?_toArray, List.getElem?_cons_succ, List.getElem?_cons_zero]; rfl) (by kernel_rfl) (by kernel_rfl) (by kernel_rfl) (by exact fun _ _ _ h => h) (Or.inl ⟨by rfl, ?_⟩) hH ?_
        rotate_left
        · (intro wS hS; clear hS; go_simp; try rfl)
        try simp only [Act.put, List.setIfInBounds_toArray, List.set_cons_zero, List.set_cons_succ]
        refine wpAnyH_take (i := 13) (v := ?_) (by simp only [List.getElem?_toArray, List.getElem?_cons_succ, List.getElem?_cons_zero]; rfl) (by kernel_rfl) (by kernel_rfl) (by kernel_rfl) (by exact fun _ _ _ h => h) (Or.inl ⟨by rfl, ?_⟩) hH ?_
        rotate_left
        · (intro wS hS; clear hS; go_simp; try rfl)
        try simp only [Act.put, List.setIfInBounds_toArray, List.set_cons_zero, List.set_cons_succ]
        refine wpAnyH_ready (rs := [14]) (by kernel_rfl) (by simp) ?_
        refine AllReadyH.cons (by simp only [List.getElem?_toArray, List.getElem?_cons_succ, List.getElem?_cons_zero]; rfl) (fun K hK => ?_) AllReadyH.nil
        go_simp
        go_upon
        (with_reducible refine (DO.out _).mono ?_)
        rintro e v14 ⟨rfl, hb14⟩
        try dsimp only
        refine hK.out _ _ ?_ (fun hH2 => ?_)
        · exact hH.trans (hb14.mono hH.size)
        clear hK K hH
        have hH := hH2
        clear hH2
        try simp only [Act.put, List.setIfInBounds_toArray, List.set_cons_zero, List.set_cons_succ]
        refine wpAnyH_take (i := 15) (v := ?_) (by simp only [List.getElem?_toArray, List.getElem?_cons_succ, List.getElem?_cons_zero]; rfl) (by kernel_rfl) (by kernel_rfl) (by kernel_rfl) (by exact fun _ _ _ h => h) (Or.inl ⟨by rfl, ?_⟩) hH ?_
        rotate_left
        · (intro wS hS; clear hS; go_simp; try rfl)
        try simp only [Act.put, List.setIfInBounds_toArray, List.set_cons_zero, List.set_cons_succ]
        refine wpAnyH_take (i := 16) (v := ?_) (by simp only [List.getElem?_toArray, List.getElem?_cons_succ, List.getElem?_cons_zero]; rfl) (by kernel_rfl) (by kernel_rfl) (by kernel_rfl) (by exact fun _ _ _ h => h) (Or.inl ⟨by rfl, ?_⟩) hH ?_
        rotate_left
        · (intro wS hS; clear hS; go_simp; try rfl)
        try simp only [Act.put, List.setIfInBounds_toArray, List.set_cons_zero, List.set_cons_succ]
        refine wpAnyH_take (i := 17) (v := ?_) (by simp only [List.getElem?_toArray, List.getElem?_cons_succ, List.getElem?_cons_zero]; rfl) (by kernel_rfl) (by kernel_rfl) (by kernel_rfl) (by exact fun _ _ _ h => h) (Or.inl ⟨by rfl, ?_⟩) hH ?_
        rotate_left
        · (intro wS hS; clear hS; go_simp; try rfl)
        try simp only [Act.put, List.setIfInBounds_toArray, List.set_cons_zero, List.set_cons_succ]
        refine wpAnyH_take (i := 18) (v := ?_) (by simp only [List.getElem?_toArray, List.getElem?_cons_succ, List.getElem?_cons_zero]; rfl) (by kernel_rfl) (by kernel_rfl) (by kernel_rfl) (by exact fun _ _ _ h => h) (Or.inl ⟨by rfl, ?_⟩) hH ?_
        rotate_left
        · (intro wS hS; clear hS; go_simp; try rfl)
        try simp only [Act.put, List.setIfInBounds_toArray, List.set_cons_zero, List.set_cons_succ]
        refine wpAnyH_take (i := 19) (v := ?_) (by simp only [List.getElem?_toArray, List.getElem?_cons_succ, List.getElem?_cons_zero]; rfl) (by kernel_rfl) (by kernel_rfl) (by kernel_rfl) (by exact fun _ _ _ h => h) (Or.inl ⟨by rfl, ?_⟩) hH ?_
        rotate_left
        · (intro wS hS; clear hS; go_simp; try rfl)
        try simp only [Act.put, List.setIfInBounds_toArray, List.set_cons_zero, List.set_cons_succ]
        refine wpAnyH_take (i := 20) (v := ?_) (by simp only [List.getElem?_toArray, List.getElem?_cons_succ, List.getElem?_cons_zero]; rfl) (by kernel_rfl) (by kernel_rfl) (by kernel_rfl) (by exact fun _ _ _ h => h) (Or.inl ⟨by rfl, ?_⟩) hH ?_
        rotate_left
        · (intro wS hS; clear hS; go_simp; try rfl)
        try simp only [Act.put, List.setIfInBounds_toArray, List.set_cons_zero, List.set_cons_succ]
        refine wpAnyH_take (i := 21) (v := ?_) (by simp only [List.getElem?_toArray, List.getElem?_cons_succ, List.getElem?_cons_zero]; rfl) (by kernel_rfl) (by kernel_rfl) (by kernel_rfl) (by exact fun _ _ _ h => h) (Or.inl ⟨by rfl, ?_⟩) hH ?_
        rotate_left
        · (intro wS hS; clear hS; go_simp; try rfl)
        try simp only [Act.put, List.setIfInBounds_toArray, List.set_cons_zero, List.set_cons_succ]
        refine wpAnyH_done (by kernel_rfl) ?_ _
        have hb : Below w3.heap.size w3 v14 := hH
        have R0 := Lib.hid (R0.out.step hb)
        have R1 := Lib.hid (R1.out.step hb)
        have R2 := Lib.hid (R2.out.step hb)
        have R6 := Lib.hid (R6.out.step hb)
        have IT := Lib.hid (IT.out.keep hb IT.out.lt)
        have G := Lib.hid (G.out.trans (grown_of_below hb (some g)))
        have BW := Lib.hid (stepB BW.out hb)
        clear CC hH hb14 hb HR
        obtain ⟨s0, s1, s2, -, -, -⟩ := R6.out.all
        obtain ⟨y0, y1, y2, y3, y4, y5⟩ := R2.out.all
        cases bb
        · have EQ : Hid (MR.done R C (opL 2 I J t C xs) = MR.no) := rw_over I J t R C xs q (HX.out.trans HN.out) hI hlt NX.out HT.out (by rw [ZB.out]; exact of_decide_eq_false HBB.out)
          clear IT
          go_wp2_with fail
          obtain ⟨E0, E1, E2, -, -, -⟩ := (((R2.out.set0 (.int .i64 0)).set1 (.int .i64 0)).set2 (.slice none 0 0)).all
          rw [EQ.out]
          exact bodyPost_ret (v := .tuple #[.agg #[.int .i64 0, .int .i64 0, .slice none 0 0], .bool false]) (by simp [results, Try.results87, go_sem, E0, E1, E2]) rfl ⟨_, rfl, .inl ⟨rfl, rfl⟩, ((BW.out.setCell (by show w.heap.size ≤ w.heap.size + 1 + 1; omega) _).setCell (by show w.heap.size ≤ w.heap.size + 1 + 1; omega) _).setCell (by show w.heap.size ≤ w.heap.size + 1 + 1; omega) _⟩
        · go_upto_region 11 with fail
          have hold1 := IT.out.cell (i := I * C + q) (by rw [colTo_length, HX.out]; exact a1)
          have hfr1 := IT.out.free (I * C + q)
          refine wp_region_held_drew (S := fun w' => v14.grownBy w' (some g)) (by kernel_rfl) (grown_drew_one (World.grownBy.refl _ _)) (fun hH => ?_)
          refine wpAnyH_take (i := 0) (v := ?_) (by simp only [List.getElem?_toArray, List.getElem?_cons_zero]; rfl) (by kernel_rfl) (by kernel_rfl) (by kernel_rfl) (by exact fun _ _ _ h => h) (Or.inl ⟨by rfl, ?_⟩) hH ?_
          rotate_left
          · (intro wS hS; clear hS; go_simp; try rfl)
          try simp only [Act.put, List.setIfInBounds_toArray, List.set_cons_zero, List.set_cons_succ]
          refine wpAnyH_take (i := 1) (v := ?_) (by simp only [List.getElem?_toArray, List.getElem?_cons_succ, List.getElem?_cons_zero]; rfl) (by kernel_rfl) (by kernel_rfl) (by kernel_rfl) (by exact fun _ _ _ h => h) (Or.inl ⟨by rfl, ?_⟩) hH ?_
          rotate_left
          · (intro wS hS; (try dsimp only at hS); obtain ⟨k1, k2, k3, -, -, -⟩ := (R6.out.keepOne hS NE.symm).all; go_simp; try rfl)
          try simp only [Act.put, List.setIfInBounds_toArray, List.set_cons_zero, List.set_cons_succ]
          refine wpAnyH_take (i := 2) (v := ?_) (by simp only [List.getElem?_toArray, List.getElem?_cons_succ, List.getElem?_cons_zero]; rfl) (by kernel_rfl) (by kernel_rfl) (by kernel_rfl) (by exact fun _ _ _ h => h) (Or.inl ⟨by rfl, ?_⟩) hH ?_
          rotate_left
          · (intro wS hS; clear hS; go_simp; try rfl)
          try simp only [Act.put, List.setIfInBounds_toArray, List.set_cons_zero, List.set_cons_succ]
          refine wpAnyH_take (i := 3) (v := ?_) (by simp only [List.getElem?_toArray, List.getElem?_cons_succ, List.getElem?_cons_zero]; rfl) (by kernel_rfl) (by kernel_rfl) (by kernel_rfl) (by exact fun _ _ _ h => h) (Or.inl ⟨by rfl, ?_⟩) hH ?_
          rotate_left
          · (intro wS hS; clear hS; go_simp; try rfl)
          try simp only [Act.put, List.setIfInBounds_toArray, List.set_cons_zero, List.set_cons_succ]
          refine wpAnyH_take (i := 4) (v := ?_) (by simp only [List.getElem?_toArray, List.getElem?_cons_succ, List.getElem?_cons_zero]; rfl) (by kernel_rfl) (by kernel_rfl) (by kernel_rfl) (by exact fun _ _ _ h => h) (Or.inl ⟨by rfl, ?_⟩) hH ?_
          rotate_left
          · (intro wS hS; (try dsimp only at hS); obtain ⟨k1, k2, k3, -, -, -⟩ := (R6.out.keepOne hS NE.symm).all; go_simp; try rfl)
          try simp only [Act.put, List.setIfInBounds_toArray, List.set_cons_zero, List.set_cons_succ]
          refine wpAnyH_take (i := 5) (v := ?_) (by simp only [List.getElem?_toArray, List.getElem?_cons_succ, List.getElem?_cons_zero]; rfl) (by kernel_rfl) (by kernel_rfl) (by kernel_rfl) (by exact fun _ _ _ h => h) (Or.inl ⟨by rfl, ?_⟩) hH ?_
          rotate_left
          · (intro wS hS; clear hS; go_simp; try rfl)
          try simp only [Act.put, List.setIfInBounds_toArray, List.set_cons_zero, List.set_cons_succ]
          refine wpAnyH_take (i := 6) (v := ?_) (by simp only [List.getElem?_toArray, List.getElem?_cons_succ, List.getElem?_cons_zero]; rfl) (by kernel_rfl) (by kernel_rfl) (by kernel_rfl) (by exact fun _ _ _ h => h) (Or.inl ⟨by rfl, ?_⟩) hH ?_
          rotate_left
          · (intro wS hS; clear hS; go_simp; try rfl)
          try simp only [Act.put, List.setIfInBounds_toArray, List.set_cons_zero, List.set_cons_succ]
          refine wpAnyH_take (i := 7) (v := ?_) (by simp only [List.getElem?_toArray, List.getElem?_cons_succ, List.getElem?_cons_zero]; rfl) (by kernel_rfl) (by kernel_rfl) (by kernel_rfl) (by exact fun _ _ _ h => h) (Or.inl ⟨by rfl, ?_⟩) hH ?_
          rotate_left
          · (intro wS hS; clear hS; go_simp; try rfl)
          try simp only [Act.put, List.setIfInBounds_toArray, List.set_cons_zero, List.set_cons_succ]
          refine wpAnyH_take (i := 8) (v := ?_) (by simp only [List.getElem?_toArray, List.getElem?_cons_succ, List.getElem?_cons_zero]; rfl) (by kernel_rfl) (by kernel_rfl) (by kernel_rfl) (by exact fun _ _ _ h => h) (Or.inl ⟨by rfl, ?_⟩) hH ?_
          rotate_left
          · (intro wS hS; clear hS; go_simp; try rfl)
          try simp only [Act.put, List.setIfInBounds_toArray, List.set_cons_zero, List.set_cons_succ]
          refine wpAnyH_ready (rs := [9]) (by kernel_rfl) (by simp) ?_
          refine AllReadyH.cons (by simp only [List.getElem?_toArray, List.getElem?_cons_succ, List.getElem?_cons_zero]; rfl) (fun K hK => ?_) AllReadyH.nil
          clear hH
          go_simp
          have IT2 := Lib.hid (IT.out.set (I * C + q) (za + zb * t))
          refine hK.out _ _ (grown_drew_one (grown_set_one (World.grownBy.refl _ _) rfl _)) (fun hH => ?_)
          clear hK K
          try simp only [Act.put, List.setIfInBounds_toArray, List.set_cons_zero, List.set_cons_succ]
          refine wpAnyH_take (i := 10) (v := ?_) (by simp only [List.getElem?_toArray, List.getElem?_cons_succ, List.getElem?_cons_zero]; rfl) (by kernel_rfl) (by kernel_rfl) (by kernel_rfl) (by exact fun _ _ _ h => h) (Or.inl ⟨by rfl, ?_⟩) hH ?_
          rotate_left
          · (intro wS hS; clear hS; go_simp; try rfl)
          try simp only [Act.put, List.setIfInBounds_toArray, List.set_cons_zero, List.set_cons_succ]
          refine wpAnyH_ready (rs := [11]) (by kernel_rfl) (by simp) ?_
          refine AllReadyH.cons (by simp only [List.getElem?_toArray, List.getElem?_cons_succ, List.getElem?_cons_zero]; rfl) (fun K hK => ?_) AllReadyH.nil
          clear hH hold1 hfr1
          have hold2 := IT2.out.cell (i := J * C + q) (by rw [List.length_set, colTo_length, HX.out]; exact a2)
          have hfr2 := IT2.out.free (J * C + q)
          go_simp
          refine hK.out _ _ (grown_drew_one (grown_set_one (b := g) (grown_set_one (b := g) (World.grownBy.refl v14 (some g)) rfl _) rfl _)) (fun hH => ?_)
          clear hK K hH hold2 hfr2
          refine wpAnyH_done (by kernel_rfl) ?_ _
          go_wp2_with fail
          go_roundw
          case rel =>
            have E := rw_add I J t C R xs q (HX.out.trans HN.out) hI hJ hlt (by have := IJ.out; omega)
            rw [ZA.out, ZB.out] at E
            refine ⟨q + 1, by go_num, by omega, ?_, grown_drew_one (grown_set_one (b := g) (grown_set_one (b := g) G.out rfl _) rfl _), prodTo_succ P.out (fun _ => by rw [ZB.out]; exact of_decide_eq_true HBB.out)⟩
            rw [← E]
            exact (IT2.out.set (J * C + q) (zb)).drew
          case measure => simp [intOf]; omega
      · have hqC : q = C := by omega
        rw [hqC] at IT P
        have HL : Hid ((colTo (rwAt 2 I J t C xs) C xs C).length = n) := by show _ = n; rw [colTo_length, HX.out]
        have EQ : Hid (MR.done R C (opL 2 I J t C xs) = MR.done R C (colTo (rwAt 2 I J t C xs) C xs C)) := rw_done 2 I J t R C xs (by decide) (HX.out.trans HN.out) NX.out HT.out P.out
        generalize colTo (rwAt 2 I J t C xs) C xs C = L at IT HL EQ
        clear o0 o1 o2 o3
        go_wp2_with fail
        have ST := iDone R C (some ⟨g, 0, none⟩) qc L wr IT.out.rd (by rw [HL.out]; omega)
        rw [HL.out] at ST
        refine ST.mono ?_
        clear ST
        rintro e w4 ⟨rfl, hb⟩
        have R2 := Lib.hid (R2.out.step hb)
        have IT := Lib.hid (IT.out.keep hb IT.out.lt)
        have B := Lib.hid (stepB BW.out hb)
        clear hb
        obtain ⟨s0, s1, s2, t0, t1, t2⟩ := R2.out.all
        have be : ∀ x y z, Below w.heap.size w (((w4.setCell ⟨w.heap.size + 1 + 1, 0, none⟩ x).setCell ⟨w.heap.size + 1 + 1, 1, none⟩ y).setCell ⟨w.heap.size + 1 + 1, 2, none⟩ z) := fun x y z =>
          (((B.out.setCell (by show w.heap.size ≤ w.heap.size + 1 + 1; omega) _).setCell (by show w.heap.size ≤ w.heap.size + 1 + 1; omega) _).setCell (by show w.heap.size ≤ w.heap.size + 1 + 1; omega) _)
        have BE := Lib.hid be
        clear be
        rcases Bool.eq_false_or_eq_true (isMat R C L) with hd | hd
        · have E : Hid (MR.done R C L = ⟨true, R, C, L⟩) := by show MR.done R C L = _; unfold MR.done; rw [hd]; rfl
          rw [hd]
          clear hd
          unfold DoneRes
          go_wp2_with fail
          obtain ⟨E0, E1, E2, -, -, -⟩ := (((R2.out.set0 (.int .i64 R)).set1 (.int .i64 C)).set2 (.slice (some ⟨g, 0, none⟩) n qc)).all
          rw [EQ.out, E.out]
          refine bodyPost_ret (v := .tuple #[.agg #[.int .i64 R, .int .i64 C, .slice (some ⟨g, 0, none⟩) n qc], .bool true]) (by simp [results, Try.results87, go_sem, E0, E1, E2]) rfl ⟨_, rfl, ?_, ?_⟩
          · refine .inr ⟨g, qc, by rw [HL.out], by omega, ?_, by rw [HL.out]; omega, by rw [HL.out]; omega⟩
            exact ((IT.out.far (by show g ≠ w.heap.size + 1 + 1; omega) _).far (by show g ≠ w.heap.size + 1 + 1; omega) _).far (by show g ≠ w.heap.size + 1 + 1; omega) _
          · exact BE.out _ _ _
        · have E : Hid (MR.done R C L = MR.no) := by show MR.done R C L = _; unfold MR.done; rw [hd]; rfl
          rw [hd]
          clear hd
          unfold DoneRes
          go_wp2_with fail
          obtain ⟨E0, E1, E2, -, -, -⟩ := (((R2.out.set0 (.int .i64 0)).set1 (.int .i64 0)).set2 (.slice none 0 0)).all
          rw [EQ.out, E.out]
          exact bodyPost_ret (v := .tuple #[.agg #[.int .i64 0, .int .i64 0, .slice none 0 0], .bool false]) (by simp [results, Try.results87, go_sem, E0, E1, E2]) rfl ⟨_, rfl, .inl ⟨rfl, rfl⟩, BE.out _ _ _⟩
end Go.Proofs.Ytdnajkoeojlnbaa
end

section
/-
  Chapter 5, in the program: DoRowOp, any matrix and operation.
-/
namespace Go.Proofs.Ytdnajkoeojlnbaa
set_option maxRecDepth 100000
open Go.RowKit

set_option maxHeartbeats 1000000 in
theorem iOp (k i j t r c : Int) (a : Option Addr) (m : Nat) (xs : List Int) (w : World) (h : Rd w a xs) (hn : xs.length ≤ 16777216) (_ : Spot a) :
    Calls Try.prog 87 #[.agg #[.int .i64 r, .int .i64 c, .slice a xs.length m], .agg #[.int .i64 k, .int .i64 i, .int .i64 j, .int .i64 t]] w (MatRes (opM k i j t r c xs) w) := by
  rcases Bool.eq_false_or_eq_true (isMat r c xs) with hm | hm
  · rcases Bool.eq_false_or_eq_true (isOp k i j t r) with ho | ho
    · obtain ⟨hk, -, ⟨i1, i2⟩, ⟨j1, j2⟩, -, -⟩ := isOp_says ho
      obtain ⟨⟨r1, r2⟩, ⟨c1, c2⟩, -, -⟩ := isMat_says hm
      obtain ⟨R, rfl⟩ := Int.eq_ofNat_of_zero_le r1
      obtain ⟨C, rfl⟩ := Int.eq_ofNat_of_zero_le c1
      obtain ⟨I, rfl⟩ := Int.eq_ofNat_of_zero_le i1
      obtain ⟨J, rfl⟩ := Int.eq_ofNat_of_zero_le j1
      have E : opM k I J t R C xs = MR.done R C (opL k I J t C xs) := by unfold opM; rw [hm, ho]; rfl
      rw [E]
      clear E
      rcases hk with rfl | rfl | rfl
      · exact iOp_0 R C I J a m t xs w h hn hm ho
      · exact iOp_1 R C I J a m t xs w h hn hm ho
      · exact iOp_2 R C I J a m t xs w h hn hm ho
    · have E : Hid (opM k i j t r c xs = MR.no) := by show opM k i j t r c xs = _; unfold opM; rw [hm, ho]; rfl
      have M := Lib.hid hm
      have OP := Lib.hid ho
      clear hm ho
      have B0 : ∀ o1 o2 o3, Below w.heap.size w (((w.alloc o1).alloc o2).alloc o3) := fun o1 o2 o3 => (((Below.refl _ _).alloc (Nat.le_refl _) _).alloc (by simp) _).alloc (by simp <;> omega) _
      have BH := Lib.hid B0
      have H := Lib.hid h
      obtain ⟨n, hx⟩ : ∃ n, xs.length = n := ⟨_, rfl⟩
      have HX := Lib.hid hx
      rw [hx] at hn ⊢
      clear B0 h hx
      go_enter Try.func87, Try.ntmps87
      go_wp2_with fail
      have ST := iIsMat r c a m xs _ (H.out.below (BH.out (.cells #[.int .i64 r, .int .i64 c, .slice a n m] 27) (.cells #[.int .i64 k, .int .i64 i, .int .i64 j, .int .i64 t] 49) (.cells #[.int .i64 0, .int .i64 0, .slice none 0 0] 27))) (by rw [HX.out]; omega)
      rw [HX.out] at ST
      refine ST.mono ?_
      clear ST
      rintro e w1 ⟨rfl, hb⟩
      have K0 : Hid (Blk3 w1 w.heap.size 27 (.int .i64 r) (.int .i64 c) (.slice a n m)) := (((Blk3.at_ _ _ _ _ rfl).old _).old _).keep hb (by simp <;> omega)
      have K1 : Hid (Blk4 w1 (w.heap.size + 1) 49 (.int .i64 k) (.int .i64 i) (.int .i64 j) (.int .i64 t)) := ((Blk4.at_ _ _ _ _ _ (by simp)).old _).keep hb (by simp <;> omega)
      have K2 : Hid (Blk3 w1 (w.heap.size + 1 + 1) 27 (.int .i64 0) (.int .i64 0) (.slice none 0 0)) := (Blk3.at_ _ _ _ _ (by simp)).keep hb (by simp)
      have B : Hid (Below w.heap.size w w1) := (BH.out _ _ _).trans (hb.mono (by simp <;> omega))
      clear hb
      obtain ⟨ca0, ca1, ca2, -, -, -⟩ := K0.out.all
      obtain ⟨cb0, cb1, cb2, cb3⟩ := K1.out.all
      obtain ⟨cc0, cc1, cc2, ff0, ff1, ff2⟩ := K2.out.all
      rw [M.out]
      go_wp2_with fail
      refine (iIsOp k i j t r _).mono ?_
      rintro e w2 ⟨rfl, hb⟩
      have K0 := Lib.hid (K0.out.step hb)
      have K1 := Lib.hid (K1.out.step hb)
      have K2 := Lib.hid (K2.out.step hb)
      have B := Lib.hid (stepB B.out hb)
      clear hb
      obtain ⟨da0, da1, da2, -, -, -⟩ := K0.out.all
      obtain ⟨db0, db1, db2, db3⟩ := K1.out.all
      obtain ⟨dc0, dc1, dc2, gf0, gf1, gf2⟩ := K2.out.all
      rw [OP.out]
      go_wp2_with fail
      obtain ⟨E0, E1, E2, -, -, -⟩ := (((K2.out.set0 (.int .i64 0)).set1 (.int .i64 0)).set2 (.slice none 0 0)).all
      rw [E.out]
      exact bodyPost_ret (v := .tuple #[.agg #[.int .i64 0, .int .i64 0, .slice none 0 0], .bool false]) (by simp [results, Try.results87, go_sem, E0, E1, E2]) rfl ⟨_, rfl, .inl ⟨rfl, rfl⟩, ((B.out.setCell (by show w.heap.size ≤ w.heap.size + 1 + 1; omega) _).setCell (by show w.heap.size ≤ w.heap.size + 1 + 1; omega) _).setCell (by show w.heap.size ≤ w.heap.size + 1 + 1; omega) _⟩
  · have E : Hid (opM k i j t r c xs = MR.no) := by show opM k i j t r c xs = _; unfold opM; rw [hm]; rfl
    have M := Lib.hid hm
    clear hm
    have B0 : ∀ o1 o2 o3, Below w.heap.size w (((w.alloc o1).alloc o2).alloc o3) := fun o1 o2 o3 => (((Below.refl _ _).alloc (Nat.le_refl _) _).alloc (by simp) _).alloc (by simp <;> omega) _
    have BH := Lib.hid B0
    have H := Lib.hid h
    obtain ⟨n, hx⟩ : ∃ n, xs.length = n := ⟨_, rfl⟩
    have HX := Lib.hid hx
    rw [hx] at hn ⊢
    clear B0 h hx
    go_enter Try.func87, Try.ntmps87
    go_wp2_with fail
    have ST := iIsMat r c a m xs _ (H.out.below (BH.out (.cells #[.int .i64 r, .int .i64 c, .slice a n m] 27) (.cells #[.int .i64 k, .int .i64 i, .int .i64 j, .int .i64 t] 49) (.cells #[.int .i64 0, .int .i64 0, .slice none 0 0] 27))) (by rw [HX.out]; omega)
    rw [HX.out] at ST
    refine ST.mono ?_
    clear ST
    rintro e w1 ⟨rfl, hb⟩
    have K0 : Hid (Blk3 w1 w.heap.size 27 (.int .i64 r) (.int .i64 c) (.slice a n m)) := (((Blk3.at_ _ _ _ _ rfl).old _).old _).keep hb (by simp <;> omega)
    have K1 : Hid (Blk4 w1 (w.heap.size + 1) 49 (.int .i64 k) (.int .i64 i) (.int .i64 j) (.int .i64 t)) := ((Blk4.at_ _ _ _ _ _ (by simp)).old _).keep hb (by simp <;> omega)
    have K2 : Hid (Blk3 w1 (w.heap.size + 1 + 1) 27 (.int .i64 0) (.int .i64 0) (.slice none 0 0)) := (Blk3.at_ _ _ _ _ (by simp)).keep hb (by simp)
    have B : Hid (Below w.heap.size w w1) := (BH.out _ _ _).trans (hb.mono (by simp <;> omega))
    clear hb
    obtain ⟨ca0, ca1, ca2, -, -, -⟩ := K0.out.all
    obtain ⟨cb0, cb1, cb2, cb3⟩ := K1.out.all
    obtain ⟨cc0, cc1, cc2, ff0, ff1, ff2⟩ := K2.out.all
    rw [M.out]
    go_wp2_with fail
    obtain ⟨E0, E1, E2, -, -, -⟩ := (((K2.out.set0 (.int .i64 0)).set1 (.int .i64 0)).set2 (.slice none 0 0)).all
    rw [E.out]
    exact bodyPost_ret (v := .tuple #[.agg #[.int .i64 0, .int .i64 0, .slice none 0 0], .bool false]) (by simp [results, Try.results87, go_sem, E0, E1, E2]) rfl ⟨_, rfl, .inl ⟨rfl, rfl⟩, ((B.out.setCell (by show w.heap.size ≤ w.heap.size + 1 + 1; omega) _).setCell (by show w.heap.size ≤ w.heap.size + 1 + 1; omega) _).setCell (by show w.heap.size ≤ w.heap.size + 1 + 1; omega) _⟩
end Go.Proofs.Ytdnajkoeojlnbaa
end

section
/-
  Chapter 5, in the program: DoRowOps.
-/
namespace Go.Proofs.Ytdnajkoeojlnbaa
set_option maxRecDepth 100000
open Go.RowKit

set_option maxRecDepth 100000 in
set_option maxHeartbeats 4000000 in
theorem iOps_t (r c : Int) (a al : Option Addr) (m ml : Nat) (xs : List Int) (l : List Ro) (w : World) (h : Rd w a xs) (hl : RdO w al l) (hL : l.length ≤ 40) (hm : isMat r c xs = true) (hx : xs.length ≤ 576) :
    Calls Try.prog 36 #[.agg #[.int .i64 r, .int .i64 c, .slice a xs.length m], .slice al l.length ml] w (MatRes (opsM r c xs l) w) := by
  have M := Lib.hid hm
  have H := Lib.hid h
  have HL := Lib.hid hl
  obtain ⟨n, hn⟩ : ∃ n, xs.length = n := ⟨_, rfl⟩
  obtain ⟨ln, hln⟩ : ∃ ln, l.length = ln := ⟨_, rfl⟩
  have HX := Lib.hid hn
  have LN := Lib.hid hln
  rw [hn] at hx ⊢
  rw [hln] at hL ⊢
  clear hn hln h hl hm
  have B0 : ∀ o1 o2, Below w.heap.size w ((w.alloc o1).alloc o2) := fun o1 o2 => ((Below.refl _ _).alloc (Nat.le_refl _) _).alloc (by simp) _
  have BH := Lib.hid B0
  clear B0
  go_enter Try.func36, Try.ntmps36
  go_wp2_with fail
  have ST := iIsMat r c a m xs _ (H.out.below (BH.out (.cells #[.int .i64 r, .int .i64 c, .slice a n m] 27) (.cells #[.int .i64 0, .int .i64 0, .slice none 0 0] 27))) (by rw [HX.out]; omega)
  rw [HX.out] at ST
  refine ST.mono ?_
  clear ST
  rintro e w1 ⟨rfl, hb⟩
  have K0 : Hid (Blk3 w1 w.heap.size 27 (.int .i64 r) (.int .i64 c) (.slice a n m)) := ((Blk3.at_ _ _ _ _ rfl).old _).keep hb (by simp <;> omega)
  have K2 : Hid (Blk3 w1 (w.heap.size + 1) 27 (.int .i64 0) (.int .i64 0) (.slice none 0 0)) := (Blk3.at_ _ _ _ _ (by simp)).keep hb (by simp)
  have B : Hid (Below w.heap.size w w1) := (BH.out _ _).trans (hb.mono (by simp <;> omega))
  clear hb
  obtain ⟨ca0, ca1, ca2, -, -, -⟩ := K0.out.all
  obtain ⟨cc0, cc1, cc2, ff0, ff1, ff2⟩ := K2.out.all
  rw [M.out]
  go_wp2_with fail
  refine (iCopyOf r c a m n xs HX.out _ (H.out.below B.out) (by omega)).mono ?_
  rintro e w3 ⟨q0, qc0, rfl, own, hb⟩
  have l2 := K2.out.lt
  have ls := hb.size
  have K2 := Lib.hid ((K2.out.step hb).old (.cells #[.int .i64 r, .int .i64 c, .slice q0 n qc0] 27))
  have K6 : Hid (Blk3 (w3.alloc (.cells #[.int .i64 r, .int .i64 c, .slice q0 n qc0] 27)) w3.heap.size 27 (.int .i64 r) (.int .i64 c) (.slice q0 n qc0)) := Blk3.at_ _ _ _ _ rfl
  have OW := Lib.hid ((own.old (.cells #[.int .i64 r, .int .i64 c, .slice q0 n qc0] 27)).le (show w.heap.size + 1 + 1 ≤ _ by omega))
  have B := Lib.hid ((stepB B.out hb).alloc (stepB B.out hb).size (.cells #[.int .i64 r, .int .i64 c, .slice q0 n qc0] 27))
  clear hb own
  obtain ⟨ec0, ec1, ec2, -, -, -⟩ := K6.out.all
  go_upto_region 4 with fail
  obtain ⟨W, hW⟩ : ∃ W, w3.alloc (.cells #[.int .i64 r, .int .i64 c, .slice q0 n qc0] 27) = W := ⟨_, rfl⟩
  rw [hW] at ec0 ec1 ec2 K2 K6 OW B ⊢
  have hWB : w3.heap.size < W.heap.size := K6.out.lt
  obtain ⟨ob, hob⟩ : ∃ ob, w3.heap.size = ob := ⟨_, rfl⟩
  rw [hob] at K6 hWB ⊢
  go_wp2_with fail
  go_loopw [5, 8, 9, 10, 24] (fun _ _ _ _ i wr => ∃ (q : Nat) (sa : Option Addr) (yn qc : Nat) (ys : List Int), i = .int .i64 q ∧ q ≤ ln ∧ Blk3 wr ob 27 (.int .i64 r) (.int .i64 c) (.slice sa yn qc) ∧ Own (w.heap.size + 1 + 1) wr (.slice sa yn qc) ys ∧ opsM r c xs (l.take q) = ⟨true, r, c, ys⟩ ∧ W.grownBy wr (some ob)) (fun _ _ _ _ i _ => ln - (intOf i).toNat)
  case atStart => exact ⟨0, q0, n, qc0, xs, rfl, by omega, K6.out, OW.out, rfl, World.grownBy.refl _ _⟩
  case round =>
    obtain ⟨q, sa, yn, qc, ys, rfl, hq, h6, ho, hE, hgr⟩ := hrel
    have R6 := Lib.hid h6
    have O := Lib.hid ho
    have E := Lib.hid hE
    have G := Lib.hid hgr
    obtain ⟨s1, s2, s3, s4⟩ := ho.spot
    subst s3
    have SA : Hid (Rd wr sa ys ∧ Spot sa ∧ ys.length = ys.length ∧ ys.length ≤ 16777216) := ⟨s1, s2, rfl, s4⟩
    clear s1 s2 s4
    clear h6 ho hE hgr
    obtain ⟨d0, d1, d2, -, -, -⟩ := R6.out.all
    have BW : Hid (Below w.heap.size w wr) := B.out.trans (below_of_one G.out (by omega) B.out.size)
    have K2 : Hid (Blk3 wr (w.heap.size + 1) 27 (.int .i64 0) (.int .i64 0) (.slice none 0 0)) := K2.out.keepOne G.out (by omega)
    by_cases hlt : q < ln
    · have hlt2 : q < l.length := by rw [LN.out]; exact hlt
      obtain ⟨b2, o2, rfl, -, -⟩ := HL.out q hlt2
      have RL : Hid (RdO wr (some ⟨b2, o2, none⟩) l) := HL.out.below BW.out
      obtain ⟨u, hu⟩ : ∃ u, l.getD q Ro.zero = u := ⟨_, rfl⟩
      have HU := Lib.hid hu
      have HQ := Lib.hid hlt2
      clear hu hlt2
      obtain ⟨mr, hmr⟩ : ∃ m, opM u.k u.i u.j u.t r c ys = m := ⟨_, rfl⟩
      have HMR := Lib.hid hmr
      clear hmr
      obtain ⟨k1, k2, k3, k4, k5, k6, k7⟩ := opsF R6.out RL.out HQ.out HU.out (Below.refl wr.heap.size wr)
      clear d0 d1 d2
      go_upto_region 7 with fail
      clear k1 k2 k3 k4 k5 k6 k7
      have X4 : Hid (Blk4 (wr.alloc (.cells #[.int .i64 u.k, .int .i64 u.i, .int .i64 u.j, .int .i64 u.t] 49)) wr.heap.size 49 (.int .i64 u.k) (.int .i64 u.i) (.int .i64 u.j) (.int .i64 u.t)) := Blk4.at_ _ _ _ _ _ rfl
      have R7 := Lib.hid (R6.out.old (.cells #[.int .i64 u.k, .int .i64 u.i, .int .i64 u.j, .int .i64 u.t] 49))
      have S7 := Lib.hid (Rd.below SA.out.1 ((Below.refl _ _).alloc (Nat.le_refl _) (.cells #[.int .i64 u.k, .int .i64 u.i, .int .i64 u.j, .int .i64 u.t] 49)))
      have BU : Hid (Below wr.heap.size wr (wr.alloc (.cells #[.int .i64 u.k, .int .i64 u.i, .int .i64 u.j, .int .i64 u.t] 49))) := (Below.refl _ _).alloc (Nat.le_refl _) _
      obtain ⟨d0, d1, d2, -, -, -⟩ := R7.out.all
      obtain ⟨x40, x41, x42, x43⟩ := X4.out.all
      go_wp2_with fail
      refine (iOp u.k u.i u.j u.t r c sa qc ys _ S7.out SA.out.2.2.2 SA.out.2.1).mono ?_
      rintro e v1 ⟨v, rfl, ho1, hb1⟩
      rw [HMR.out] at ho1 ⊢
      obtain ⟨q2, qc2, rfl, -, -⟩ := ho1.form
      clear d0 d1 d2 x40 x41 x42 x43
      go_upto_region 8 with fail
      have hH := stepB BU.out hb1
      have VB : Hid (Blk3 (v1.alloc (.cells #[.int .i64 mr.r, .int .i64 mr.c, .slice q2 mr.zs.length qc2] 27)) v1.heap.size 27 (.int .i64 mr.r) (.int .i64 mr.c) (.slice q2 mr.zs.length qc2)) := Blk3.at_ _ _ _ _ rfl
      have O2 := ho1.old (.cells #[.int .i64 mr.r, .int .i64 mr.c, .slice q2 mr.zs.length qc2] 27)
      have hH := hH.alloc hH.size (.cells #[.int .i64 mr.r, .int .i64 mr.c, .slice q2 mr.zs.length qc2] 27)
      clear hb1 ho1
      obtain ⟨we, hwe⟩ : ∃ we, v1.alloc (.cells #[.int .i64 mr.r, .int .i64 mr.c, .slice q2 mr.zs.length qc2] 27) = we := ⟨_, rfl⟩
      rw [hwe] at hH VB O2 ⊢
      clear hwe
      have obl := R6.out.lt
      have R6 := Lib.hid (R6.out.keep hH R6.out.lt)
      have K2 := Lib.hid (K2.out.keep hH K2.out.lt)
      have BE := Lib.hid (BW.out.trans (hH.mono BW.out.size))
      have GE : Hid (W.grownBy we (some ob)) := G.out.trans (grown_of_below hH _)
      have pvl := VB.out.lt
      obtain ⟨y0, y1, y2, -, -, -⟩ := VB.out.all
      obtain ⟨z0, z1, z2, zf0, zf1, zf2⟩ := R6.out.all
      obtain ⟨x0, x1, x2, xf0, xf1, xf2⟩ := K2.out.all
      have N0 := opsM_app (l.drop q) (l.take q) xs E.out
      have N1 := opsM_app [u] (l.take q) xs E.out
      rw [List.take_append_drop, List.drop_eq_getElem_cons HQ.out] at N0
      have EG : l[q]'HQ.out = u := by rw [← HU.out]; simp [List.getD, HQ.out]
      rw [EG] at N0
      rcases Bool.eq_false_or_eq_true mr.ok with hok | hok
      · have D := opM_dims (k := u.k) (i := u.i) (j := u.j) (t := u.t) (r := r) (c := c) (xs := ys) (by rw [HMR.out]; exact hok)
        rw [HMR.out] at D
        rw [opsM_t (by rw [HMR.out]; exact hok), HMR.out] at N1
        have N1 : Hid (opsM r c xs (l.take (q + 1)) = ⟨true, r, c, mr.zs⟩) := by
          show opsM r c xs (l.take (q + 1)) = _
          rw [List.take_succ_eq_append_getElem HQ.out, EG, N1]
          rfl
        clear N0 EG
        obtain ⟨D1, D2⟩ := D
        go_wp2_with fail
        go_roundw
        case rel =>
          refine ⟨q + 1, q2, mr.zs.length, qc2, mr.zs, by go_num, by omega, ?_, ?_, N1.out, ?_⟩
          · rw [← D1, ← D2]
            exact R6.out.set3 _ _ _
          · exact (((O2.far (by simp <;> omega) _).far (by simp <;> omega) _).far (by simp <;> omega) _).le (by have := BW.out.size; simp <;> omega)
          · exact grown_set_one (grown_set_one (grown_set_one GE.out rfl _) rfl _) rfl _
        case measure => simp [intOf]; omega
      · rw [opsM_f (by rw [HMR.out]; exact hok)] at N0
        have NE := Lib.hid N0
        clear N0 N1 EG
        go_wp2_with fail
        obtain ⟨E0, E1, E2, -, -, -⟩ := (K2.out.set3 (.int .i64 0) (.int .i64 0) (.slice none 0 0)).all
        rw [NE.out]
        exact bodyPost_ret (v := .tuple #[.agg #[.int .i64 0, .int .i64 0, .slice none 0 0], .bool false]) (by simp [results, Try.results36, go_sem, E0, E1, E2]) rfl ⟨_, rfl, .inl ⟨rfl, rfl⟩, ((BE.out.setCell (by show w.heap.size ≤ w.heap.size + 1; omega) _).setCell (by show w.heap.size ≤ w.heap.size + 1; omega) _).setCell (by show w.heap.size ≤ w.heap.size + 1; omega) _⟩
    · have hql : q = ln := by omega
      have N0 := E.out
      rw [hql, ← LN.out, List.take_length] at N0
      have NE := Lib.hid N0
      clear N0
      obtain ⟨x0, x1, x2, xf0, xf1, xf2⟩ := K2.out.all
      go_wp2_with fail
      obtain ⟨E0, E1, E2, -, -, -⟩ := (K2.out.set3 (.int .i64 r) (.int .i64 c) (.slice sa ys.length qc)).all
      rw [NE.out]
      refine bodyPost_ret (v := .tuple #[.agg #[.int .i64 r, .int .i64 c, .slice sa ys.length qc], .bool true]) (by simp [results, Try.results36, go_sem, E0, E1, E2]) rfl ⟨_, rfl, ?_, ((BW.out.setCell (by show w.heap.size ≤ w.heap.size + 1; omega) _).setCell (by show w.heap.size ≤ w.heap.size + 1; omega) _).setCell (by show w.heap.size ≤ w.heap.size + 1; omega) _⟩
      exact (((O.out.far (by show w.heap.size + 1 < w.heap.size + 1 + 1; omega) _).far (by show w.heap.size + 1 < w.heap.size + 1 + 1; omega) _).far (by show w.heap.size + 1 < w.heap.size + 1 + 1; omega) _).le (by omega)
theorem iOps (r c : Int) (a al : Option Addr) (m ml : Nat) (xs : List Int) (l : List Ro) (w : World) (h : Rd w a xs) (_ : Spot a) (hl : RdO w al l) (hn : xs.length ≤ 16777216) (hL : l.length ≤ 16777216) :
    Calls Try.prog 36 #[.agg #[.int .i64 r, .int .i64 c, .slice a xs.length m], .slice al l.length ml] w (MatRes (opsR r c xs l) w) := by
  rcases Bool.eq_false_or_eq_true (isMat r c xs) with hm | hm
  · by_cases hL2 : l.length ≤ 40
    · have E : opsR r c xs l = opsM r c xs l := by unfold opsR; rw [if_pos ⟨hm, hL2⟩]
      rw [E]
      obtain ⟨⟨r1, r2⟩, ⟨c1, c2⟩, l1, -⟩ := isMat_says hm
      have hx : xs.length ≤ 576 := by
        obtain ⟨R, rfl⟩ := Int.eq_ofNat_of_zero_le r1
        obtain ⟨C, rfl⟩ := Int.eq_ofNat_of_zero_le c1
        rw [← Int.natCast_mul] at l1
        have hle : R * C ≤ 24 * 24 := Nat.mul_le_mul (by omega) (by omega)
        omega
      exact iOps_t r c a al m ml xs l w h hl hL2 hm hx
    · have E : Hid (opsR r c xs l = MR.no) := by show opsR r c xs l = _; unfold opsR; rw [if_neg (fun h => hL2 h.2)]
      have M := Lib.hid hm
      have H := Lib.hid h
      obtain ⟨n, hx⟩ : ∃ n, xs.length = n := ⟨_, rfl⟩
      obtain ⟨ln, hln⟩ : ∃ ln, l.length = ln := ⟨_, rfl⟩
      have HX := Lib.hid hx
      rw [hx] at hn ⊢
      rw [hln] at hL hL2 ⊢
      have hL3 : (40 : Int) < (ln : Int) := by omega
      clear hx hln h hl hm hL2
      have B0 : ∀ o1 o2, Below w.heap.size w ((w.alloc o1).alloc o2) := fun o1 o2 => ((Below.refl _ _).alloc (Nat.le_refl _) _).alloc (by simp) _
      have BH := Lib.hid B0
      clear B0
      go_enter Try.func36, Try.ntmps36
      go_wp2_with fail
      have ST := iIsMat r c a m xs _ (H.out.below (BH.out (.cells #[.int .i64 r, .int .i64 c, .slice a n m] 27) (.cells #[.int .i64 0, .int .i64 0, .slice none 0 0] 27))) (by rw [HX.out]; omega)
      rw [HX.out] at ST
      refine ST.mono ?_
      clear ST
      rintro e w1 ⟨rfl, hb⟩
      have K2 : Hid (Blk3 w1 (w.heap.size + 1) 27 (.int .i64 0) (.int .i64 0) (.slice none 0 0)) := (Blk3.at_ _ _ _ _ (by simp)).keep hb (by simp)
      have B : Hid (Below w.heap.size w w1) := (BH.out _ _).trans (hb.mono (by simp <;> omega))
      clear hb
      obtain ⟨cc0, cc1, cc2, ff0, ff1, ff2⟩ := K2.out.all
      rw [M.out]
      go_wp2_with fail
      obtain ⟨E0, E1, E2, -, -, -⟩ := (K2.out.set3 (.int .i64 0) (.int .i64 0) (.slice none 0 0)).all
      rw [E.out]
      exact bodyPost_ret (v := .tuple #[.agg #[.int .i64 0, .int .i64 0, .slice none 0 0], .bool false]) (by simp [results, Try.results36, go_sem, E0, E1, E2]) rfl ⟨_, rfl, .inl ⟨rfl, rfl⟩, ((B.out.setCell (by show w.heap.size ≤ w.heap.size + 1; omega) _).setCell (by show w.heap.size ≤ w.heap.size + 1; omega) _).setCell (by show w.heap.size ≤ w.heap.size + 1; omega) _⟩
  · have E : Hid (opsR r c xs l = MR.no) := by show opsR r c xs l = _; unfold opsR; rw [if_neg (fun h => absurd h.1 (by rw [hm]; decide))]
    have M := Lib.hid hm
    have H := Lib.hid h
    obtain ⟨n, hx⟩ : ∃ n, xs.length = n := ⟨_, rfl⟩
    obtain ⟨ln, hln⟩ : ∃ ln, l.length = ln := ⟨_, rfl⟩
    have HX := Lib.hid hx
    rw [hx] at hn ⊢
    rw [hln] at hL ⊢
    clear hx hln h hl hm
    have B0 : ∀ o1 o2, Below w.heap.size w ((w.alloc o1).alloc o2) := fun o1 o2 => ((Below.refl _ _).alloc (Nat.le_refl _) _).alloc (by simp) _
    have BH := Lib.hid B0
    clear B0
    go_enter Try.func36, Try.ntmps36
    go_wp2_with fail
    have ST := iIsMat r c a m xs _ (H.out.below (BH.out (.cells #[.int .i64 r, .int .i64 c, .slice a n m] 27) (.cells #[.int .i64 0, .int .i64 0, .slice none 0 0] 27))) (by rw [HX.out]; omega)
    rw [HX.out] at ST
    refine ST.mono ?_
    clear ST
    rintro e w1 ⟨rfl, hb⟩
    have K2 : Hid (Blk3 w1 (w.heap.size + 1) 27 (.int .i64 0) (.int .i64 0) (.slice none 0 0)) := (Blk3.at_ _ _ _ _ (by simp)).keep hb (by simp)
    have B : Hid (Below w.heap.size w w1) := (BH.out _ _).trans (hb.mono (by simp <;> omega))
    clear hb
    obtain ⟨cc0, cc1, cc2, ff0, ff1, ff2⟩ := K2.out.all
    rw [M.out]
    go_wp2_with fail
    obtain ⟨E0, E1, E2, -, -, -⟩ := (K2.out.set3 (.int .i64 0) (.int .i64 0) (.slice none 0 0)).all
    rw [E.out]
    exact bodyPost_ret (v := .tuple #[.agg #[.int .i64 0, .int .i64 0, .slice none 0 0], .bool false]) (by simp [results, Try.results36, go_sem, E0, E1, E2]) rfl ⟨_, rfl, .inl ⟨rfl, rfl⟩, ((B.out.setCell (by show w.heap.size ≤ w.heap.size + 1; omega) _).setCell (by show w.heap.size ≤ w.heap.size + 1; omega) _).setCell (by show w.heap.size ≤ w.heap.size + 1; omega) _⟩
end Go.Proofs.Ytdnajkoeojlnbaa
end

section
/-
  Chapter 3, in the program: IdentityMatrix.
-/
namespace Go.Proofs.Ytdnajkoeojlnbaa
open Go.RowKit

set_option maxHeartbeats 1000000 in
theorem iIdent_t (n : Nat) (w : World) (hn : n ≤ 24) :
    Calls Try.prog 93 #[.int .i64 n] w (MatRes ⟨true, n, n, idL n n⟩ w) := by
  have hle : n * n ≤ 24 * 24 := Nat.mul_le_mul hn hn
  have B0 : ∀ o1, Below w.heap.size w (w.alloc o1) := fun o1 => (Below.refl _ _).alloc (Nat.le_refl _) _
  have BH := Lib.hid B0
  clear B0
  go_enter Try.func93, Try.ntmps93
  go_wp2_with fail
  refine (iSize_t n _ (by omega) (by omega)).mono ?_
  rintro e w2 ⟨rfl, rfl⟩
  have hmk := makeProd n n (by omega)
  obtain ⟨N, hN⟩ : ∃ N, n * n = N := ⟨_, rfl⟩
  have HN := Lib.hid hN
  have hp1 : (0 : Int) ≤ (n : Int) * (n : Int) := by rw [← Int.natCast_mul]; omega
  have hp2 : (n : Int) * (n : Int) ≤ 16777216 := by rw [← Int.natCast_mul]; omega
  rw [hN] at hmk hle
  clear hN
  have B2 := Lib.hid (((BH.out (.cells #[.int .i64 0, .int .i64 0, .slice none 0 0] 27)).alloc (by simp) (.cells (madeCells #[.int .i64 0] N) 3)).alloc (by simp <;> omega) (.cells #[.int .i64 n, .int .i64 n, .slice (some ⟨w.heap.size + 1, 0, none⟩) N N] 27))
  have K2 : Hid (Blk3 (((w.alloc (.cells #[.int .i64 0, .int .i64 0, .slice none 0 0] 27)).alloc (.cells (madeCells #[.int .i64 0] N) 3)).alloc (.cells #[.int .i64 n, .int .i64 n, .slice (some ⟨w.heap.size + 1, 0, none⟩) N N] 27)) w.heap.size 27 (.int .i64 0) (.int .i64 0) (.slice none 0 0)) := ((Blk3.at_ _ _ _ _ rfl).old _).old _
  have K6 : Hid (Blk3 (((w.alloc (.cells #[.int .i64 0, .int .i64 0, .slice none 0 0] 27)).alloc (.cells (madeCells #[.int .i64 0] N) 3)).alloc (.cells #[.int .i64 n, .int .i64 n, .slice (some ⟨w.heap.size + 1, 0, none⟩) N N] 27)) (w.heap.size + 2) 27 (.int .i64 n) (.int .i64 n) (.slice (some ⟨w.heap.size + 1, 0, none⟩) N N)) := Blk3.at_ _ _ _ _ (by simp)
  have I : Hid (Ints (((w.alloc (.cells #[.int .i64 0, .int .i64 0, .slice none 0 0] 27)).alloc (.cells (madeCells #[.int .i64 0] N) 3)).alloc (.cells #[.int .i64 n, .int .i64 n, .slice (some ⟨w.heap.size + 1, 0, none⟩) N N] 27)) (w.heap.size + 1) (List.replicate N 0)) := (Ints.made N (by simp)).old _
  go_wp2_with fail
  go_wp2_with fail
  go_loopw [5, 18] (fun _ i wr => ∃ k : Nat, i = .int .i64 k ∧ k ≤ n ∧ Ints wr (w.heap.size + 1) (idL n k) ∧ (((w.alloc (.cells #[.int .i64 0, .int .i64 0, .slice none 0 0] 27)).alloc (.cells (madeCells #[.int .i64 0] N) 3)).alloc (.cells #[.int .i64 n, .int .i64 n, .slice (some ⟨w.heap.size + 1, 0, none⟩) N N] 27)).grownBy wr (some (w.heap.size + 1))) (fun _ i _ => n - (intOf i).toNat)
  case atStart => exact ⟨0, rfl, by omega, by rw [idL_zero, HN.out]; exact I.out, World.grownBy.refl _ _⟩
  case round =>
    obtain ⟨k, rfl, hk, hi, hgr⟩ := hrel
    have I := Lib.hid hi
    have G := Lib.hid hgr
    clear hi hgr
    have R2 := Lib.hid (K2.out.keepOne G.out (by omega))
    have R6 := Lib.hid (K6.out.keepOne G.out (by omega))
    obtain ⟨r0, r1, r2, -, -, -⟩ := R6.out.all
    by_cases hlt : k < n
    · have i1 : k * n + k < N := by rw [← HN.out]; exact idx_lt hlt hlt
      have hold := I.out.cell (i := k * n + k) (by rw [idL_length, HN.out]; exact i1)
      rw [idL_at] at hold
      have hfr := I.out.free (k * n + k)
      have c1 : (k : Int) * (n : Int) = ((k * n : Nat) : Int) := (Int.natCast_mul _ _).symm
      have d1 : 0 ≤ (k : Int) * (n : Int) ∧ (k : Int) * (n : Int) ≤ 600 := by rw [c1]; omega
      have e1 : 0 ≤ (k : Int) * (n : Int) + (k : Int) := by omega
      have e2 : (k : Int) * (n : Int) + (k : Int) < (N : Int) := by rw [c1]; omega
      have e3 : ((k : Int) * (n : Int) + (k : Int)).toNat = k * n + k := by rw [c1]; omega
      obtain ⟨d11, d12⟩ := d1
      have v1 : IntKind.i64.wrap ((k : Int) * (n : Int)) = (k : Int) * (n : Int) := IntWalk.i64_in _ (by omega)
      have v2 : IntKind.i64.wrap ((k : Int) * (n : Int) + (k : Int)) = (k : Int) * (n : Int) + (k : Int) := IntWalk.i64_in _ (by omega)
      clear c1
      go_wp2_with fail
      go_roundw
      case rel =>
        refine ⟨k + 1, by go_num, by omega, ?_, ?_⟩
        · rw [← idL_step]
          first | exact I.out.set (k * n + k) _ | exact I.out.drew.set (k * n + k) _
        · first | exact grown_set_one G.out rfl _ | exact grown_drew_one (grown_set_one G.out rfl _)
      case measure => simp [intOf]; omega
    · have hkn : k = n := by omega
      subst hkn
      have BW := Lib.hid (B2.out.trans (below_of_one G.out (by omega) B2.out.size))
      obtain ⟨s0, s1, s2, t0, t1, t2⟩ := R2.out.all
      go_wp2_with fail
      obtain ⟨E0, E1, E2, -, -, -⟩ := (((R2.out.set0 (.int .i64 k)).set1 (.int .i64 k)).set2 (.slice (some ⟨w.heap.size + 1, 0, none⟩) N N)).all
      refine bodyPost_ret (v := .tuple #[.agg #[.int .i64 k, .int .i64 k, .slice (some ⟨w.heap.size + 1, 0, none⟩) N N], .bool true]) (by simp [results, Try.results93, go_sem, E0, E1, E2]) rfl ⟨_, rfl, ?_, ?_⟩
      · refine .inr ⟨w.heap.size + 1, N, by rw [idL_length, HN.out], by omega, ?_, by simp [idL_length, HN.out], by simp [idL_length, HN.out]; omega⟩
        exact ((I.out.far (by show w.heap.size + 1 ≠ w.heap.size; omega) _).far (by show w.heap.size + 1 ≠ w.heap.size; omega) _).far (by show w.heap.size + 1 ≠ w.heap.size; omega) _
      · exact ((BW.out.setCell (Nat.le_refl _) _).setCell (Nat.le_refl _) _).setCell (Nat.le_refl _) _
theorem iIdent (n : Int) (w : World) : Calls Try.prog 93 #[.int .i64 n] w (MatRes (idM n) w) := by
  by_cases h : 0 ≤ n ∧ n ≤ 24
  · obtain ⟨k, rfl⟩ := Int.eq_ofNat_of_zero_le h.1
    have E : idM k = ⟨true, k, k, idL k k⟩ := by unfold idM; rw [if_pos h]; rfl
    rw [E]
    exact iIdent_t k w (by omega)
  · have E : Hid (idM n = MR.no) := by show idM n = _; unfold idM; rw [if_neg h]
    have h' : n < 0 ∨ 24 < n := by omega
    clear h
    have B0 : ∀ o1, Below w.heap.size w (w.alloc o1) := fun o1 => (Below.refl _ _).alloc (Nat.le_refl _) _
    have BH := Lib.hid B0
    clear B0
    go_enter Try.func93, Try.ntmps93
    go_wp2_with fail
    refine (iSize_f n _ h').mono ?_
    rintro e w2 ⟨rfl, rfl⟩
    have K2 : Hid (Blk3 (w.alloc (.cells #[.int .i64 0, .int .i64 0, .slice none 0 0] 27)) w.heap.size 27 (.int .i64 0) (.int .i64 0) (.slice none 0 0)) := Blk3.at_ _ _ _ _ rfl
    have B := Lib.hid (BH.out (.cells #[.int .i64 0, .int .i64 0, .slice none 0 0] 27))
    obtain ⟨s0, s1, s2, t0, t1, t2⟩ := K2.out.all
    go_wp2_with fail
    rw [E.out]
    exact bodyPost_ret (v := .tuple #[.agg #[.int .i64 0, .int .i64 0, .slice none 0 0], .bool false]) (by simp [results, Try.results93, go_sem]) rfl ⟨_, rfl, .inl ⟨rfl, rfl⟩, B.out⟩
end Go.Proofs.Ytdnajkoeojlnbaa
end

section
/-
  Chapter 5, in the program: OpMatrix.
-/
namespace Go.Proofs.Ytdnajkoeojlnbaa
set_option maxRecDepth 100000
open Go.RowKit

set_option maxRecDepth 100000 in
set_option maxHeartbeats 1000000 in
theorem iOpMat_t (k i j t : Int) (n : Nat) (w : World) (hn : n ≤ 24) : Calls Try.prog 41 #[.agg #[.int .i64 k, .int .i64 i, .int .i64 j, .int .i64 t], .int .i64 n] w (MatRes (opM k i j t n n (idL n n)) w) := by
  have hle : n * n ≤ 24 * 24 := Nat.mul_le_mul hn hn
  have B0 : ∀ o1 o2, Below w.heap.size w ((w.alloc o1).alloc o2) := fun o1 o2 => ((Below.refl _ _).alloc (Nat.le_refl _) _).alloc (by simp) _
  have BH := Lib.hid B0
  clear B0
  go_enter Try.func41, Try.ntmps41
  go_wp2_with fail
  refine (iIdent_t n _ hn).mono ?_
  rintro e w3 ⟨v, rfl, ho, hb⟩
  dsimp only at ho ⊢
  have K1 : Hid (Blk4 w3 w.heap.size 49 (.int .i64 k) (.int .i64 i) (.int .i64 j) (.int .i64 t)) := ((Blk4.at_ _ _ _ _ _ rfl).old _).keep hb (by simp <;> omega)
  have K2 : Hid (Blk3 w3 (w.heap.size + 1) 27 (.int .i64 0) (.int .i64 0) (.slice none 0 0)) := (Blk3.at_ _ _ _ _ (by simp)).keep hb (by simp)
  have B : Hid (Below w.heap.size w w3) := (BH.out _ _).trans (hb.mono (by simp <;> omega))
  obtain ⟨q, qc, rfl, -, -⟩ := ho.form
  obtain ⟨s1, s2, -, s4⟩ := ho.spot
  have S1 := Lib.hid (Rd.below s1 ((Below.refl _ _).alloc (Nat.le_refl _) (.cells #[.int .i64 n, .int .i64 n, .slice q (idL n n).length qc] 27)))
  have S2 := Lib.hid s2
  have S4 := Lib.hid s4
  have l1 := K1.out.lt
  have l2 := K2.out.lt
  have K1 := Lib.hid (K1.out.old (.cells #[.int .i64 n, .int .i64 n, .slice q (idL n n).length qc] 27))
  have K2 := Lib.hid (K2.out.old (.cells #[.int .i64 n, .int .i64 n, .slice q (idL n n).length qc] 27))
  have K3 : Hid (Blk3 (w3.alloc (.cells #[.int .i64 n, .int .i64 n, .slice q (idL n n).length qc] 27)) w3.heap.size 27 (.int .i64 n) (.int .i64 n) (.slice q (idL n n).length qc)) := Blk3.at_ _ _ _ _ rfl
  have B := Lib.hid (B.out.alloc B.out.size (.cells #[.int .i64 n, .int .i64 n, .slice q (idL n n).length qc] 27))
  clear hb ho s1 s2 s4
  obtain ⟨ca0, ca1, ca2, -, -, -⟩ := K3.out.all
  obtain ⟨cb0, cb1, cb2, cb3⟩ := K1.out.all
  go_wp2_with fail
  refine (iOp k i j t n n q qc (idL n n) _ S1.out S4.out S2.out).mono ?_
  rintro e w5 ⟨v, rfl, ho, hb⟩
  obtain ⟨mr, hmr⟩ : ∃ m, opM k i j t n n (idL n n) = m := ⟨_, rfl⟩
  rw [hmr] at ho ⊢
  have HMR := Lib.hid hmr
  clear hmr
  have K2 := Lib.hid (K2.out.step hb)
  have B := Lib.hid (stepB B.out hb)
  have O : Hid (Own (w.heap.size + 1 + 1) w5 v mr.zs) := ho.le (by simp; omega)
  clear hb ho
  obtain ⟨q, qc, rfl, -, -⟩ := O.out.form
  have l5 := K2.out.lt
  obtain ⟨dd0, dd1, dd2, df0, df1, df2⟩ := K2.out.all
  go_wp2_with fail
  obtain ⟨E0, E1, E2, -, -, -⟩ := (K2.out.set3 (.int .i64 mr.r) (.int .i64 mr.c) (.slice q mr.zs.length qc)).all
  rw [HMR.out]
  refine bodyPost_ret (v := .tuple #[.agg #[.int .i64 mr.r, .int .i64 mr.c, .slice q mr.zs.length qc], .bool mr.ok]) (by simp [results, Try.results41, go_sem, E0, E1, E2]) rfl ⟨_, rfl, ?_, ?_⟩
  · exact (((O.out.far (by show w.heap.size + 1 < w.heap.size + 1 + 1; omega) _).far (by show w.heap.size + 1 < w.heap.size + 1 + 1; omega) _).far (by show w.heap.size + 1 < w.heap.size + 1 + 1; omega) _).le (by omega)
  · exact ((B.out.setCell (by show w.heap.size ≤ w.heap.size + 1; omega) _).setCell (by show w.heap.size ≤ w.heap.size + 1; omega) _).setCell (by show w.heap.size ≤ w.heap.size + 1; omega) _
theorem iOpMat (k i j t n : Int) (w : World) : Calls Try.prog 41 #[.agg #[.int .i64 k, .int .i64 i, .int .i64 j, .int .i64 t], .int .i64 n] w (MatRes (opMat k i j t n) w) := by
  by_cases hn : 0 ≤ n ∧ n ≤ 24
  · obtain ⟨N, rfl⟩ := Int.eq_ofNat_of_zero_le hn.1
    have E : opMat k i j t N = opM k i j t N N (idL N N) := by
      unfold opMat
      by_cases ho : isOp k i j t N = true
      · rw [if_pos ho]; rfl
      · rw [if_neg ho]; unfold opM; rw [show isOp k i j t N = false by simpa using ho]; simp
    rw [E]
    exact iOpMat_t k i j t N w (by omega)
  · have E : Hid (opMat k i j t n = MR.no) := by
      show opMat k i j t n = _
      unfold opMat
      rw [if_neg (fun h => hn (isOp_says h).2.1)]
    have E2 : Hid (idM n = MR.no) := by show idM n = _; unfold idM; rw [if_neg hn]
    clear hn
    have B0 : ∀ o1 o2, Below w.heap.size w ((w.alloc o1).alloc o2) := fun o1 o2 => ((Below.refl _ _).alloc (Nat.le_refl _) _).alloc (by simp) _
    have BH := Lib.hid B0
    clear B0
    go_enter Try.func41, Try.ntmps41
    go_wp2_with fail
    refine (iIdent n _).mono ?_
    rw [E2.out]
    rintro e w2 ⟨v, rfl, ho, hb⟩
    unfold MR.no at ho ⊢
    dsimp only at ho ⊢
    have K2 : Hid (Blk3 w2 (w.heap.size + 1) 27 (.int .i64 0) (.int .i64 0) (.slice none 0 0)) := (Blk3.at_ _ _ _ _ (by simp)).keep hb (by simp)
    have B : Hid (Below w.heap.size w w2) := (BH.out _ _).trans (hb.mono (by simp <;> omega))
    obtain ⟨q, qc, rfl, -, -⟩ := ho.form
    clear hb ho
    have l2 := K2.out.lt
    obtain ⟨dd0, dd1, dd2, df0, df1, df2⟩ := K2.out.all
    dsimp only [List.length_nil]
    go_wp2_with fail
    obtain ⟨E0, E1, E2, -, -, -⟩ := ((K2.out.set3 (.int .i64 0) (.int .i64 0) (.slice none 0 0)).old (.cells #[.int .i64 0, .int .i64 0, .slice q 0 qc] 27)).all
    rw [E.out]
    exact bodyPost_ret (v := .tuple #[.agg #[.int .i64 0, .int .i64 0, .slice none 0 0], .bool false]) (by simp [results, Try.results41, go_sem, E0, E1, E2]) rfl ⟨_, rfl, .inl ⟨rfl, rfl⟩, (((B.out.setCell (by show w.heap.size ≤ w.heap.size + 1; omega) _).setCell (by show w.heap.size ≤ w.heap.size + 1; omega) _).setCell (by show w.heap.size ≤ w.heap.size + 1; omega) _).alloc (by have := B.out.size; simpa using this) _⟩
end Go.Proofs.Ytdnajkoeojlnbaa
end

section
/-
  Chapter 5, the program's UndoRowOp and UndoRowOps (UndoRowOp alone).
-/
namespace Go.Proofs.Ytdnajkoeojlnbaa
set_option maxRecDepth 100000
open Go.RowKit

set_option maxHeartbeats 1000000 in
theorem iUndo (k i j t : Int) (w : World) : Calls Try.prog 89 #[.agg #[.int .i64 k, .int .i64 i, .int .i64 j, .int .i64 t]] w (Gives (.agg #[.int .i64 k, .int .i64 i, .int .i64 j, .int .i64 (unT k t)]) w) := by
  have BB : ∀ o p, Below w.heap.size w ((w.alloc o).alloc p) := fun o p => ((Below.refl _ _).alloc (Nat.le_refl _) _).alloc (by simp) _
  by_cases hk : k = 2
  · have E : Hid (unT k t = wrap64 (-t)) := by show unT k t = _; unfold unT; rw [if_pos hk]
    have n1 : (k == 2) = true := by simpa using hk
    clear hk
    go_enter Try.func89, Try.ntmps89
    go_wp2_with fail
    rw [E.out]
    exact bodyPost_ret (v := .agg #[.int .i64 k, .int .i64 i, .int .i64 j, .int .i64 (wrap64 (-t))]) (by simp [results, Try.results89, go_sem]) rfl ⟨rfl, BB _ _⟩
  · have E : Hid (unT k t = t) := by show unT k t = _; unfold unT; rw [if_neg hk]
    have n1 : (k == 2) = false := by simpa using hk
    clear hk
    go_enter Try.func89, Try.ntmps89
    go_wp2_with fail
    rw [E.out]
    exact bodyPost_ret (v := .agg #[.int .i64 k, .int .i64 i, .int .i64 j, .int .i64 t]) (by simp [results, Try.results89, go_sem]) rfl ⟨rfl, BB _ _⟩
end Go.Proofs.Ytdnajkoeojlnbaa
end

section
/-
  Chapter 5, in the program: UndoRowOps.
-/
namespace Go.Proofs.Ytdnajkoeojlnbaa
set_option maxRecDepth 100000
open Go.RowKit

/-- A block that holds the operations l and nothing else. -/
def OpsX (w : World) (g : Nat) (l : List Ro) : Prop := w.heap[g]? = some (.cells (Ro.flat l).toArray 49 (0, 0))
theorem OpsX.ops {w : World} {g : Nat} {l : List Ro} (h : OpsX w g l) : OpsB w g l := ⟨[], by rw [List.append_nil]; exact h⟩
theorem OpsX.move {w w' : World} {g : Nat} {l : List Ro} (h : OpsX w g l) (e : w'.heap[g]? = w.heap[g]?) : OpsX w' g l := e.trans h
theorem OpsX.keep {w w' : World} {g B : Nat} {l : List Ro} (h : OpsX w g l) (hb : Below B w w') (hB : g < B) : OpsX w' g l := h.move (hb.block g hB)
theorem OpsX.set {w : World} {g : Nat} {l : List Ro} (h : OpsX w g l) {q : Nat} (hq : q < l.length) (u : Ro) :
    OpsX ((((w.setCell ⟨g, q * 4, none⟩ (.int .i64 u.k)).setCell ⟨g, q * 4 + 1, none⟩ (.int .i64 u.i)).setCell ⟨g, q * 4 + 2, none⟩ (.int .i64 u.j)).setCell ⟨g, q * 4 + 3, none⟩ (.int .i64 u.t)) g (l.set q u) := by
  have e := Ro.flat_set l [] u q hq
  rw [List.append_nil, List.append_nil] at e
  show _ = _
  rw [← e]
  exact setCell_block (setCell_block (setCell_block (setCell_block h _ _) _ _) _ _) _ _
theorem OpsX.own {w : World} {g B n : Nat} {l : List Ro} (h : OpsX w g l) (hB : B ≤ g) (hn : l.length = n) (hl : n ≤ 1048576) : w.ownsRow B 49 4 (.slice (some ⟨g, 0, none⟩) n n) n (Ro.flat l) := by
  subst hn
  refine ⟨Ro.flat_length l, .inr ⟨g, l.length, (Ro.flat l).toArray, rfl, hB, h, Nat.le_refl _, by unfold maxLen; omega, by simp [Ro.flat_length], ?_⟩⟩
  rw [List.take_of_length_le (by simp [Ro.flat_length])]
theorem OpsX.made {w : World} {g : Nat} (n : Nat) (hg : g = w.heap.size) : OpsX (w.alloc (.cells (madeCells #[.int .i64 0, .int .i64 0, .int .i64 0, .int .i64 0] (n * 4)) 49)) g (List.replicate n Ro.zero) := by
  subst hg
  show _ = _
  rw [flat_zeros]
  exact heap_alloc_new w _
/-- What undoes l, of which the first k are done: they lie at the end, turned round. -/
def undP (l : List Ro) (k : Nat) : List Ro := (List.range l.length).map fun p => if l.length - 1 - p < k then (l.getD (l.length - 1 - p) Ro.zero).undo else Ro.zero
theorem undP_length (l : List Ro) (k : Nat) : (undP l k).length = l.length := by simp [undP]
theorem undP_zero (l : List Ro) : undP l 0 = List.replicate l.length Ro.zero := by
  apply List.ext_getElem (by simp [undP])
  intro i h1 h2
  simp [undP]
theorem undP_step (l : List Ro) (k q : Nat) (h : k + q + 1 = l.length) : (undP l k).set q (l.getD k Ro.zero).undo = undP l (k + 1) := by
  apply List.ext_getElem (by simp [undP])
  intro i h1 h2
  have hi : i < l.length := by simpa [undP] using h2
  rw [List.getElem_set]
  simp only [undP, List.getElem_map, List.getElem_range]
  by_cases e : q = i
  · subst e
    rw [if_pos rfl, if_pos (by omega), show l.length - 1 - q = k by omega]
  · rw [if_neg e]
    by_cases h3 : l.length - 1 - i < k
    · rw [if_pos h3, if_pos (by omega)]
    · rw [if_neg h3, if_neg (by omega)]
theorem undP_all (l : List Ro) : undP l l.length = undoL l l.length := by
  apply List.ext_getElem (by rw [undP_length, undoL_length _ _ (Nat.le_refl _)])
  intro i h1 h2
  have hi : i < l.length := by simpa [undP] using h1
  simp only [undP, undoL, List.getElem_map, List.getElem_range, List.getElem_take, List.getElem_reverse]
  rw [if_pos (by omega), List.getD, List.getElem?_eq_getElem (by omega)]
  rfl
set_option maxRecDepth 100000 in
set_option maxHeartbeats 1000000 in
theorem iUndoOps (al : Option Addr) (ml : Nat) (l : List Ro) (w : World) (hl : RdO w al l) (hL : l.length ≤ 1048576) :
    Calls Try.prog 38 #[.slice al l.length ml] w (fun e w' => ∃ v, e = .returned v ∧ w'.ownsRow w.heap.size 49 4 v l.length (Ro.flat (undoL l l.length)) ∧ Below w.heap.size w w') := by
  have HL := Lib.hid hl
  obtain ⟨ln, hln⟩ : ∃ ln, l.length = ln := ⟨_, rfl⟩
  have LN := Lib.hid hln
  rw [hln] at hL ⊢
  clear hln hl
  have X0 : Hid (OpsX (w.alloc (.cells (madeCells #[.int .i64 0, .int .i64 0, .int .i64 0, .int .i64 0] (ln * 4)) 49)) w.heap.size (List.replicate ln Ro.zero)) := OpsX.made ln rfl
  have B0 : Hid (Below w.heap.size w (w.alloc (.cells (madeCells #[.int .i64 0, .int .i64 0, .int .i64 0, .int .i64 0] (ln * 4)) 49))) := (Below.refl _ _).alloc (Nat.le_refl _) _
  go_enter Try.func38, Try.ntmps38
  have hmk := makeOps ln (by omega) w
  go_wp2_with fail
  clear hmk
  obtain ⟨W, hW⟩ : ∃ W, w.alloc (.cells (madeCells #[.int .i64 0, .int .i64 0, .int .i64 0, .int .i64 0] (ln * 4)) 49) = W := ⟨_, rfl⟩
  rw [hW] at X0 B0
  rw [hW]
  clear hW
  go_loopw [4, 5, 11] (fun _ _ i wr => ∃ k : Nat, i = .int .i64 k ∧ k ≤ ln ∧ OpsX wr w.heap.size (undP l k) ∧ W.grownBy wr (some w.heap.size)) (fun _ _ i _ => ln - (intOf i).toNat)
  case atStart => exact ⟨0, rfl, by omega, by rw [undP_zero, LN.out]; exact X0.out, World.grownBy.refl _ _⟩
  case round =>
    obtain ⟨k, rfl, hk, hx, hgr⟩ := hrel
    have X := Lib.hid hx
    have G := Lib.hid hgr
    have BW := Lib.hid (B0.out.trans (below_of_one hgr (Nat.le_refl _) B0.out.size))
    clear hx hgr
    by_cases hlt : k < ln
    · have HQ : Hid (k < l.length) := by show k < l.length; rw [LN.out]; exact hlt
      obtain ⟨b2, o2, rfl, -, -⟩ := HL.out k HQ.out
      have RL : Hid (RdO wr (some ⟨b2, o2, none⟩) l) := HL.out.below BW.out
      obtain ⟨b2', o2', e, hlt3, c0, c1, c2, c3⟩ := RL.out k HQ.out
      obtain ⟨rfl, rfl⟩ : b2 = b2' ∧ o2 = o2' := by simp only [Option.some.injEq, Addr.mk.injEq] at e; exact ⟨e.1, e.2.1⟩
      obtain ⟨q, hq⟩ : ∃ q, k + q + 1 = ln := ⟨ln - 1 - k, by omega⟩
      have US : Hid ((undP l k).set q (l.getD k Ro.zero).undo = undP l (k + 1)) := undP_step l k q (by rw [LN.out]; exact hq)
      have PL : Hid ((undP l k).length = ln) := by show _ = _; rw [undP_length, LN.out]
      obtain ⟨u, hu⟩ : ∃ u, l.getD k Ro.zero = u := ⟨_, rfl⟩
      rw [hu] at c0 c1 c2 c3 US
      clear hu e
      go_upto_region 5 with fail
      clear c0 c1 c2 c3
      have X4 : Hid (Blk4 (wr.alloc (.cells #[.int .i64 u.k, .int .i64 u.i, .int .i64 u.j, .int .i64 u.t] 49)) wr.heap.size 49 (.int .i64 u.k) (.int .i64 u.i) (.int .i64 u.j) (.int .i64 u.t)) := Blk4.at_ _ _ _ _ _ rfl
      have BU : Hid (Below wr.heap.size wr (wr.alloc (.cells #[.int .i64 u.k, .int .i64 u.i, .int .i64 u.j, .int .i64 u.t] 49))) := (Below.refl _ _).alloc (Nat.le_refl _) _
      obtain ⟨x40, x41, x42, x43⟩ := X4.out.all
      go_wp2_with fail
      refine (iUndo u.k u.i u.j u.t _).mono ?_
      rintro e v1 ⟨rfl, hb1⟩
      have hH := stepB BU.out hb1
      have xl : w.heap.size < wr.heap.size := X.out.ops.lt
      have X := Lib.hid (X.out.keep hH xl)
      have G := Lib.hid (G.out.trans (grown_of_below hH (some w.heap.size)))
      clear hb1 hH x40 x41 x42 x43
      have e1 : (0 : Int) ≤ (ln : Int) - 1 - (k : Int) := by omega
      have e2 : (ln : Int) - 1 - (k : Int) < (ln : Int) := by omega
      have e3 : ((ln : Int) - 1 - (k : Int)).toNat = q := by omega
      obtain ⟨f0, f1, f2, f3⟩ := X.out.ops.cells (q := q) (by rw [PL.out]; omega)
      have z0 := X.out.ops.free (q * 4)
      have z1 := X.out.ops.free (q * 4 + 1)
      have z2 := X.out.ops.free (q * 4 + 2)
      have z3 := X.out.ops.free (q * 4 + 3)
      go_wp2_with fail
      go_roundw
      case rel =>
        refine ⟨k + 1, by go_num, by omega, ?_, grown_set_one (grown_set_one (grown_set_one (grown_set_one G.out rfl _) rfl _) rfl _) rfl _⟩
        rw [← US.out]
        exact X.out.set (by rw [PL.out]; omega) u.undo
      case measure => simp [intOf]; omega
    · have hkn : k = ln := by omega
      rw [hkn] at X
      have XA : Hid (wr.ownsRow w.heap.size 49 4 (.slice (some ⟨w.heap.size, 0, none⟩) ln ln) ln (Ro.flat (undoL l ln))) := by
        have := X.out.own (B := w.heap.size) (Nat.le_refl _) (by rw [undP_length, LN.out]) hL
        rw [← LN.out, undP_all, LN.out] at this
        exact this
      go_wp2_with fail
      go_ret
      exact ⟨_, rfl, XA.out, BW.out⟩
end Go.Proofs.Ytdnajkoeojlnbaa
end
