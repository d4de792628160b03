/-
  Texts of this seat, joined: RI3c · RI4 · RowTo · PrimS · AppI · SpnT · EchLaw · EchS · EchT · EchSp · EchB · EchI · EchJ
-/
import Derived.StillTailTactics
import Derived.Deep.DeepCutAuto
import Derived.IntWalk
import Derived.BigQuiet
import Derived.Test.YtpelnfenfeoeeaaPk1
import Derived.Test.YtpelnfenfeoeeaaPk2
import Derived.Test.YtpelnfenfeoeeaaPk3
import Derived.Test.YtpelnfenfeoeeaaPk4
import Derived.Test.YtpelnfenfeoeeaaPk6
import Derived.Test.YtpelnfenfeoeeaaPk7

section
/-
  Chapter 5, in the program: DoRowOp, kind 2.
-/
namespace Go.Proofs.Ytpelnfenfeoeeaa
set_option maxRecDepth 100000
open Go.RowKit

set_option maxRecDepth 100000 in
set_option maxHeartbeats 1000000 in
theorem iOp_2 (R C I J : Nat) (a : Option Addr) (m : Nat) (t : Int) (xs : List Int) (w : World) (h : Rd w a xs) (hn : xs.length ≤ 16777216) (hm : isMat R C xs = true) (ho : isOp 2 I J t R = true) :
    Calls Try.prog 162 #[.agg #[.int .i64 R, .int .i64 C, .slice a xs.length m], .agg #[.int .i64 2, .int .i64 I, .int .i64 J, .int .i64 t]] w (MatRes (MR.done R C (opL 2 I J t C xs)) w) := by
  obtain ⟨⟨r1, r2⟩, ⟨c1, c2⟩, l1, nx⟩ := isMat_says hm
  obtain ⟨hk, -, ⟨i1, i2⟩, ⟨j1, j2⟩, ht, -⟩ := isOp_says ho
  have hIJ := isOp_rows2 ho
  rw [← Int.natCast_mul] at l1
  have hle : R * C ≤ 24 * 24 := Nat.mul_le_mul (by omega) (by omega)
  have hR : R ≤ 24 := by omega
  have hC : C ≤ 24 := by omega
  have hI : I < R := by omega
  have hJ : J < R := by omega
  have IJ := Lib.hid hIJ
  have NX := Lib.hid nx
  have HT := Lib.hid ht
  have M := Lib.hid hm
  have OP := Lib.hid ho
  have hn2 : xs.length ≤ 576 := by omega
  have hN0 : xs.length = R * C := by omega
  have B0 : ∀ o1 o2 o3, Below w.heap.size w (((w.alloc o1).alloc o2).alloc o3) := fun o1 o2 o3 => (((Below.refl _ _).alloc (Nat.le_refl _) _).alloc (by simp) _).alloc (by simp <;> omega) _
  have BH := Lib.hid B0
  have H := Lib.hid h
  obtain ⟨n, hx⟩ : ∃ n, xs.length = n := ⟨_, rfl⟩
  have HX := Lib.hid hx
  rw [hx] at hn hn2 hN0 ⊢
  have HN := Lib.hid hN0
  clear B0 h hx hm ho r1 r2 c1 c2 l1 i1 i2 j1 j2 hle hIJ hN0 nx ht
  go_enter Try.func162, Try.ntmps162
  go_wp2_with fail
  have ST := iIsMat R C a m xs _ (H.out.below (BH.out (.cells #[.int .i64 R, .int .i64 C, .slice a n m] 26) (.cells #[.int .i64 2, .int .i64 I, .int .i64 J, .int .i64 t] 97) (.cells #[.int .i64 0, .int .i64 0, .slice none 0 0] 26))) (by rw [HX.out]; omega)
  rw [HX.out] at ST
  refine ST.mono ?_
  clear ST
  rintro e w1 ⟨rfl, hb⟩
  have K0 : Hid (Blk3 w1 w.heap.size 26 (.int .i64 R) (.int .i64 C) (.slice a n m)) := (((Blk3.at_ _ _ _ _ rfl).old _).old _).keep hb (by simp <;> omega)
  have K1 : Hid (Blk4 w1 (w.heap.size + 1) 97 (.int .i64 2) (.int .i64 I) (.int .i64 J) (.int .i64 t)) := ((Blk4.at_ _ _ _ _ _ (by simp)).old _).keep hb (by simp <;> omega)
  have K2 : Hid (Blk3 w1 (w.heap.size + 1 + 1) 26 (.int .i64 0) (.int .i64 0) (.slice none 0 0)) := (Blk3.at_ _ _ _ _ (by simp)).keep hb (by simp)
  have B : Hid (Below w.heap.size w w1) := (BH.out _ _ _).trans (hb.mono (by simp <;> omega))
  clear hb
  obtain ⟨ca0, ca1, ca2, -, -, -⟩ := K0.out.all
  obtain ⟨cb0, cb1, cb2, cb3⟩ := K1.out.all
  obtain ⟨cc0, cc1, cc2, ff0, ff1, ff2⟩ := K2.out.all
  rw [M.out]
  go_wp2_with fail
  refine (iIsOp 2 I J t R _).mono ?_
  rintro e w2 ⟨rfl, hb⟩
  have K0 := Lib.hid (K0.out.step hb)
  have K1 := Lib.hid (K1.out.step hb)
  have K2 := Lib.hid (K2.out.step hb)
  have B := Lib.hid (stepB B.out hb)
  clear hb ca0 ca1 ca2 cb0 cb1 cb2 cb3 cc0 cc1 cc2 ff0 ff1 ff2
  obtain ⟨da0, da1, da2, -, -, -⟩ := K0.out.all
  obtain ⟨db0, db1, db2, db3⟩ := K1.out.all
  obtain ⟨dc0, dc1, dc2, gf0, gf1, gf2⟩ := K2.out.all
  rw [OP.out]
  go_upto_region 3 with fail
  go_cut [6, 7] (fun s6 s7 wx => ∃ (p6 : Nat) (v0 : Value), s6 = .pointer (some ⟨p6, 0, none⟩) ∧ s7 = .iface 148 (aggO 2 I J t) ∧ Blk3 wx p6 26 (.int .i64 R) (.int .i64 C) v0 ∧ In w2.heap.size wx.heap.size wx v0 xs ∧ Below w2.heap.size w2 wx)
  case first =>
    refine wp_region_held_drew (S := fun w' => Below w2.heap.size w2 w') (by kernel_rfl) (Below.refl _ _).drew (fun hH => ?_)
    refine wpAnyH_take (i := 0) (v := ?_) (by simp only [List.getElem?_toArray, List.getElem?_cons_zero]; rfl) (by kernel_rfl) (by kernel_rfl) (by kernel_rfl) (by exact fun _ _ _ h => h) (Or.inl ⟨by rfl, ?_⟩) hH ?_
    rotate_left
    · (intro wS hS; (try dsimp only at hS); obtain ⟨k1, k2, k3, k4, k5, k6, k7⟩ := sevB K0.out K1.out hS; go_simp; try rfl)
    try simp only [Act.put, List.setIfInBounds_toArray, List.set_cons_zero, List.set_cons_succ]
    refine wpAnyH_take (i := 2) (v := ?_) (by simp only [List.getElem?_toArray, List.getElem?_cons_succ, List.getElem?_cons_zero]; rfl) (by kernel_rfl) (by kernel_rfl) (by kernel_rfl) (by exact fun _ _ _ h => h) (Or.inl ⟨by rfl, ?_⟩) hH ?_
    rotate_left
    · (intro wS hS; (try dsimp only at hS); obtain ⟨k1, k2, k3, k4, k5, k6, k7⟩ := sevB K0.out K1.out hS; go_simp; try rfl)
    try simp only [Act.put, List.setIfInBounds_toArray, List.set_cons_zero, List.set_cons_succ]
    refine wpAnyH_ready (rs := [1, 4]) (by kernel_rfl) (by simp) ?_
    refine AllReadyH.cons (by simp only [List.getElem?_toArray, List.getElem?_cons_succ, List.getElem?_cons_zero]; rfl) (fun K hK => ?_) (AllReadyH.cons (by simp only [List.getElem?_toArray, List.getElem?_cons_succ, List.getElem?_cons_zero]; rfl) (fun K hK => ?_) AllReadyH.nil)
    · go_simp
      have hs1 := hH.size
      (with_reducible refine (iCopyOf R C a m n xs HX.out _ (H.out.below (B.out.trans (hH.mono B.out.size))) (by omega)).mono ?_)
      rintro e v1 ⟨q0, qc, rfl, own, hb1⟩
      have O := Lib.hid own.inn
      clear own
      try dsimp only
      refine hK.out _ _ ?_ (fun hH2 => ?_)
      · exact hH.trans (hb1.mono hH.size)
      clear hK K
      have hO := hH
      clear hH
      have hH := hH2
      clear hH2
      try simp only [Act.put, List.setIfInBounds_toArray, List.set_cons_zero, List.set_cons_succ]
      have z1 := hb1.size
      refine wpAnyH_ready (rs := [3, 4]) (by kernel_rfl) (by simp) ?_
      refine AllReadyH.cons (by simp only [List.getElem?_toArray, List.getElem?_cons_succ, List.getElem?_cons_zero]; rfl) (fun K hK => ?_) (AllReadyH.cons (by simp only [List.getElem?_toArray, List.getElem?_cons_succ, List.getElem?_cons_zero]; rfl) (fun K hK => ?_) AllReadyH.nil)
      · go_simp
        have hs3 := hH.size
        (with_reducible refine (iOpOf2 I J t _).mono ?_)
        rintro e v3 ⟨rfl, hb3⟩
        have O := Lib.hid (O.out.keep hb3)
        try dsimp only
        refine hK.out _ _ ?_ (fun hH2 => ?_)
        · exact hH.trans (hb3.mono hH.size)
        clear hK K
        have hO := hH
        clear hH
        have hH := hH2
        clear hH2
        try simp only [Act.put, List.setIfInBounds_toArray, List.set_cons_zero, List.set_cons_succ]
        have z3 := hb3.size
        refine wpAnyH_ready (rs := [4]) (by kernel_rfl) (by simp) ?_
        refine AllReadyH.cons (by simp only [List.getElem?_toArray, List.getElem?_cons_succ, List.getElem?_cons_zero]; rfl) (fun K hK => ?_) AllReadyH.nil
        go_simp
        have VB : Hid (Blk3 (v3.alloc (.cells #[.int .i64 0, .int .i64 0, .slice none 0 0] 26)) v3.heap.size 26 (.int .i64 0) (.int .i64 0) (.slice none 0 0)) := Blk3.at_ _ _ _ _ rfl
        have PL : w2.heap.size ≤ v3.heap.size := hH.size
        try dsimp only
        refine hK.out _ _ ?_ (fun hH2 => ?_)
        · exact hH.alloc hH.size _
        clear hK K
        have hO := hH
        clear hH
        have hH := hH2
        clear hH2
        try simp only [Act.put, List.setIfInBounds_toArray, List.set_cons_zero, List.set_cons_succ]
        refine wpAnyH_ready (rs := [5]) (by kernel_rfl) (by simp) ?_
        refine AllReadyH.cons (by simp only [List.getElem?_toArray, List.getElem?_cons_succ, List.getElem?_cons_zero]; rfl) (fun K hK => ?_) AllReadyH.nil
        go_simp
        have VB : Hid (Blk3 (v3.alloc (.cells #[.int .i64 R, .int .i64 C, .slice q0 n qc] 26)) v3.heap.size 26 (.int .i64 R) (.int .i64 C) (.slice q0 n qc)) := Blk3.at_ _ _ _ _ rfl
        try dsimp only
        refine hK.out _ _ ?_ (fun hH2 => ?_)
        · exact hO.alloc hO.size _
        clear hK K
        have hO := hH
        clear hH
        have hH := hH2
        clear hH2
        try simp only [Act.put, List.setIfInBounds_toArray, List.set_cons_zero, List.set_cons_succ]
        refine wpAnyH_take (i := 6) (v := ?_) (by simp only [List.getElem?_toArray, List.getElem?_cons_succ, List.getElem?_cons_zero]; rfl) (by kernel_rfl) (by kernel_rfl) (by kernel_rfl) (by exact fun _ _ _ h => h) (Or.inl ⟨by rfl, ?_⟩) hH ?_
        rotate_left
        · (intro wS hS; clear hS; go_simp; try rfl)
        try simp only [Act.put, List.setIfInBounds_toArray, List.set_cons_zero, List.set_cons_succ]
        refine wpAnyH_done (by kernel_rfl) ?_ _
        go_wp2_with fail
        go_meet
        exact ⟨v3.heap.size, _, rfl, rfl, VB.out, (O.out.old _).wide hs1 (by have := hb3.size; first | (simp; done) | (simp; omega) | omega), hH⟩
      · go_simp
        have VB : Hid (Blk3 (v1.alloc (.cells #[.int .i64 0, .int .i64 0, .slice none 0 0] 26)) v1.heap.size 26 (.int .i64 0) (.int .i64 0) (.slice none 0 0)) := Blk3.at_ _ _ _ _ rfl
        have O := Lib.hid (O.out.old (.cells #[.int .i64 0, .int .i64 0, .slice none 0 0] 26))
        have PL : w2.heap.size ≤ v1.heap.size := hH.size
        try dsimp only
        refine hK.out _ _ ?_ (fun hH2 => ?_)
        · exact hH.alloc hH.size _
        clear hK K
        have hO := hH
        clear hH
        have hH := hH2
        clear hH2
        try simp only [Act.put, List.setIfInBounds_toArray, List.set_cons_zero, List.set_cons_succ]
        refine wpAnyH_ready (rs := [3]) (by kernel_rfl) (by simp) ?_
        refine AllReadyH.cons (by simp only [List.getElem?_toArray, List.getElem?_cons_succ, List.getElem?_cons_zero]; rfl) (fun K hK => ?_) AllReadyH.nil
        go_simp
        have hs3 := hH.size
        have lb3 := VB.out.lt
        (with_reducible refine (iOpOf2 I J t _).mono ?_)
        rintro e v3 ⟨rfl, hb3⟩
        have O := Lib.hid (O.out.keep hb3)
        have VB := Lib.hid (VB.out.keep hb3 VB.out.lt)
        try dsimp only
        refine hK.out _ _ ?_ (fun hH2 => ?_)
        · exact hH.trans (hb3.mono hH.size)
        clear hK K
        have hO := hH
        clear hH
        have hH := hH2
        clear hH2
        try simp only [Act.put, List.setIfInBounds_toArray, List.set_cons_zero, List.set_cons_succ]
        have z3 := hb3.size
        refine wpAnyH_ready (rs := [5]) (by kernel_rfl) (by simp) ?_
        refine AllReadyH.cons (by simp only [List.getElem?_toArray, List.getElem?_cons_succ, List.getElem?_cons_zero]; rfl) (fun K hK => ?_) AllReadyH.nil
        obtain ⟨y0, y1, y2, y3, y4, y5⟩ := VB.out.all
        go_simp
        have VB := Lib.hid (((VB.out.set0 (.int .i64 R)).set1 (.int .i64 C)).set2 (.slice q0 n qc))
        try dsimp only
        refine hK.out _ _ ?_ (fun hH2 => ?_)
        · exact (((hH.setCell PL _).setCell PL _).setCell PL _)
        clear hK K
        have hO := hH
        clear hH
        have hH := hH2
        clear hH2
        try simp only [Act.put, List.setIfInBounds_toArray, List.set_cons_zero, List.set_cons_succ]
        refine wpAnyH_take (i := 6) (v := ?_) (by simp only [List.getElem?_toArray, List.getElem?_cons_succ, List.getElem?_cons_zero]; rfl) (by kernel_rfl) (by kernel_rfl) (by kernel_rfl) (by exact fun _ _ _ h => h) (Or.inl ⟨by rfl, ?_⟩) hH ?_
        rotate_left
        · (intro wS hS; clear hS; go_simp; try rfl)
        try simp only [Act.put, List.setIfInBounds_toArray, List.set_cons_zero, List.set_cons_succ]
        refine wpAnyH_done (by kernel_rfl) ?_ _
        go_wp2_with fail
        go_meet
        exact ⟨v1.heap.size, _, rfl, rfl, VB.out, (((O.out.far (by first | exact .inl lb1 | exact .inr (Nat.le_refl _) | omega) _).far (by first | exact .inl lb1 | exact .inr (Nat.le_refl _) | omega) _).far (by first | exact .inl lb1 | exact .inr (Nat.le_refl _) | omega) _).wide hs1 (by have := hb3.size; first | (simp; done) | (simp; omega) | omega), hH⟩
    · go_simp
      have VB : Hid (Blk3 (w2.drew.alloc (.cells #[.int .i64 0, .int .i64 0, .slice none 0 0] 26)) w2.heap.size 26 (.int .i64 0) (.int .i64 0) (.slice none 0 0)) := Blk3.at_ _ _ _ _ rfl
      have PL : w2.heap.size ≤ w2.drew.heap.size := hH.size
      try dsimp only
      refine hK.out _ _ ?_ (fun hH2 => ?_)
      · exact hH.alloc hH.size _
      clear hK K
      have hO := hH
      clear hH
      have hH := hH2
      clear hH2
      try simp only [Act.put, List.setIfInBounds_toArray, List.set_cons_zero, List.set_cons_succ]
      refine wpAnyH_ready (rs := [1]) (by kernel_rfl) (by simp) ?_
      refine AllReadyH.cons (by simp only [List.getElem?_toArray, List.getElem?_cons_succ, List.getElem?_cons_zero]; rfl) (fun K hK => ?_) AllReadyH.nil
      go_simp
      have hs1 := hH.size
      have lb1 := VB.out.lt
      (with_reducible refine (iCopyOf R C a m n xs HX.out _ (H.out.below (B.out.trans (hH.mono B.out.size))) (by omega)).mono ?_)
      rintro e v1 ⟨q0, qc, rfl, own, hb1⟩
      have O := Lib.hid own.inn
      clear own
      have VB := Lib.hid (VB.out.keep hb1 VB.out.lt)
      try dsimp only
      refine hK.out _ _ ?_ (fun hH2 => ?_)
      · exact hH.trans (hb1.mono hH.size)
      clear hK K
      have hO := hH
      clear hH
      have hH := hH2
      clear hH2
      try simp only [Act.put, List.setIfInBounds_toArray, List.set_cons_zero, List.set_cons_succ]
      have z1 := hb1.size
      refine wpAnyH_ready (rs := [3]) (by kernel_rfl) (by simp) ?_
      refine AllReadyH.cons (by simp only [List.getElem?_toArray, List.getElem?_cons_succ, List.getElem?_cons_zero]; rfl) (fun K hK => ?_) AllReadyH.nil
      go_simp
      have hs3 := hH.size
      have lb3 := VB.out.lt
      (with_reducible refine (iOpOf2 I J t _).mono ?_)
      rintro e v3 ⟨rfl, hb3⟩
      have O := Lib.hid (O.out.keep hb3)
      have VB := Lib.hid (VB.out.keep hb3 VB.out.lt)
      try dsimp only
      refine hK.out _ _ ?_ (fun hH2 => ?_)
      · exact hH.trans (hb3.mono hH.size)
      clear hK K
      have hO := hH
      clear hH
      have hH := hH2
      clear hH2
      try simp only [Act.put, List.setIfInBounds_toArray, List.set_cons_zero, List.set_cons_succ]
      have z3 := hb3.size
      refine wpAnyH_ready (rs := [5]) (by kernel_rfl) (by simp) ?_
      refine AllReadyH.cons (by simp only [List.getElem?_toArray, List.getElem?_cons_succ, List.getElem?_cons_zero]; rfl) (fun K hK => ?_) AllReadyH.nil
      obtain ⟨y0, y1, y2, y3, y4, y5⟩ := VB.out.all
      go_simp
      have VB := Lib.hid (((VB.out.set0 (.int .i64 R)).set1 (.int .i64 C)).set2 (.slice q0 n qc))
      try dsimp only
      refine hK.out _ _ ?_ (fun hH2 => ?_)
      · exact (((hH.setCell PL _).setCell PL _).setCell PL _)
      clear hK K
      have hO := hH
      clear hH
      have hH := hH2
      clear hH2
      try simp only [Act.put, List.setIfInBounds_toArray, List.set_cons_zero, List.set_cons_succ]
      refine wpAnyH_take (i := 6) (v := ?_) (by simp only [List.getElem?_toArray, List.getElem?_cons_succ, List.getElem?_cons_zero]; rfl) (by kernel_rfl) (by kernel_rfl) (by kernel_rfl) (by exact fun _ _ _ h => h) (Or.inl ⟨by rfl, ?_⟩) hH ?_
      rotate_left
      · (intro wS hS; clear hS; go_simp; try rfl)
      try simp only [Act.put, List.setIfInBounds_toArray, List.set_cons_zero, List.set_cons_succ]
      refine wpAnyH_done (by kernel_rfl) ?_ _
      go_wp2_with fail
      go_meet
      exact ⟨w2.heap.size, _, rfl, rfl, VB.out, (((O.out.far (by first | exact .inl lb1 | exact .inr (Nat.le_refl _) | omega) _).far (by first | exact .inl lb1 | exact .inr (Nat.le_refl _) | omega) _).far (by first | exact .inl lb1 | exact .inr (Nat.le_refl _) | omega) _).wide hs1 (by have := hb3.size; first | (simp; done) | (simp; omega) | omega), hH⟩
  case rest =>
    obtain ⟨p6, v0, rfl, rfl, k6, in0, hb⟩ := hcut
    have lK0 := K0.out.lt
    have lK1 := K1.out.lt
    have lK2 := K2.out.lt
    have K0 := Lib.hid (K0.out.step hb)
    have K1 := Lib.hid (K1.out.step hb)
    have K2 := Lib.hid (K2.out.step hb)
    have B := Lib.hid (stepB B.out hb)
    have K6 := Lib.hid k6
    have LP := hb.size
    clear hb k6 da0 da1 da2 db0 db1 db2 db3 dc0 dc1 dc2 gf0 gf1 gf2
    obtain ⟨cc0, cc1, cc2, -, -, -⟩ := K0.out.all
    have lw : w.heap.size ≤ w2.heap.size := by have := B.out.size; omega
    rcases in0.cases with ⟨rfl, rfl⟩ | ⟨g, qc, hv, gB, -, gi, gc⟩
    · obtain rfl : n = 0 := HX.out.symm
      have hC0 : C ≤ 0 := by
        rcases Nat.eq_zero_or_pos C with h | h
        · omega
        · have := Nat.mul_pos (show 0 < R by omega) h
          have := HN.out
          omega
      have EQ : Hid (MR.done R C (opL 2 I J t C []) = MR.done R C []) := rfl
      clear in0
      go_wp2_with fail
      go_loopw [31] (fun i wr => i = .int .i64 0 ∧ wr = wc) (fun _ _ => 0)
      case atStart => exact ⟨rfl, rfl⟩
      case round =>
        obtain ⟨rfl, rfl⟩ := hrel
        obtain ⟨dd0, dd1, dd2, -, -, -⟩ := K6.out.all
        go_wp2_with fail
        refine (iDone R C none 0 [] wr (Rd.nil _ _) (by simp)).mono ?_
        rintro e w4 ⟨rfl, hb⟩
        have R2 := Lib.hid (K2.out.step hb)
        have B := Lib.hid (stepB B.out hb)
        clear hb
        obtain ⟨s0, s1, s2, t0, t1, t2⟩ := R2.out.all
        have be : ∀ x y z, Below w.heap.size w (((w4.setCell ⟨w.heap.size + 1 + 1, 0, none⟩ x).setCell ⟨w.heap.size + 1 + 1, 1, none⟩ y).setCell ⟨w.heap.size + 1 + 1, 2, none⟩ z) := fun x y z =>
          (((B.out.setCell (by show w.heap.size ≤ w.heap.size + 1 + 1; omega) _).setCell (by show w.heap.size ≤ w.heap.size + 1 + 1; omega) _).setCell (by show w.heap.size ≤ w.heap.size + 1 + 1; omega) _)
        have BE := Lib.hid be
        clear be
        rcases Bool.eq_false_or_eq_true (isMat R C []) with hd | hd
        · have E : Hid (MR.done R C [] = ⟨true, R, C, []⟩) := by show MR.done R C [] = _; unfold MR.done; rw [hd]; rfl
          rw [hd]
          clear hd
          unfold DoneRes
          go_wp2_with fail
          obtain ⟨E0, E1, E2, -, -, -⟩ := (((R2.out.set0 (.int .i64 R)).set1 (.int .i64 C)).set2 (.slice none 0 0)).all
          rw [EQ.out, E.out]
          exact bodyPost_ret (v := .tuple #[.agg #[.int .i64 R, .int .i64 C, .slice none 0 0], .bool true]) (by simp [results, Try.results162, go_sem, E0, E1, E2]) rfl ⟨_, rfl, .inl ⟨rfl, rfl⟩, BE.out _ _ _⟩
        · have E : Hid (MR.done R C [] = MR.no) := by show MR.done R C [] = _; unfold MR.done; rw [hd]; rfl
          rw [hd]
          clear hd
          unfold DoneRes
          go_wp2_with fail
          obtain ⟨E0, E1, E2, -, -, -⟩ := (((R2.out.set0 (.int .i64 0)).set1 (.int .i64 0)).set2 (.slice none 0 0)).all
          rw [EQ.out, E.out]
          exact bodyPost_ret (v := .tuple #[.agg #[.int .i64 0, .int .i64 0, .slice none 0 0], .bool false]) (by simp [results, Try.results162, go_sem, E0, E1, E2]) rfl ⟨_, rfl, .inl ⟨rfl, rfl⟩, BE.out _ _ _⟩
    rw [HX.out] at hv gc
    subst hv
    have NE := gi.ne_blk K6.out
    have GI := Lib.hid gi
    clear in0 gi
    go_wp2_with fail
    go_loopw [31] (fun i wr => ∃ q : Nat, i = .int .i64 q ∧ q ≤ C ∧ Ints wr g (colTo (rwAt 2 I J t C xs) C xs q) ∧ wc.grownBy wr (some g) ∧ prodTo 2 J t C xs q) (fun i _ => C - (intOf i).toNat)
    case atStart => exact ⟨0, rfl, by omega, by rw [colTo_zero]; exact GI.out, World.grownBy.refl _ _, prodTo_zero _ _ _ _ _⟩
    case round =>
      obtain ⟨q, rfl, hq, hi, hgr, hp⟩ := hrel
      have IT := Lib.hid hi
      have G := Lib.hid hgr
      have P := Lib.hid hp
      clear hi hgr hp
      have R0 := Lib.hid (K0.out.keepOne G.out (by omega))
      have R1 := Lib.hid (K1.out.keepOne G.out (by omega))
      have R2 := Lib.hid (K2.out.keepOne G.out (by omega))
      have R6 := Lib.hid (K6.out.keepOne G.out NE.symm)
      have BW := Lib.hid (B.out.trans (below_of_one G.out (by omega) B.out.size))
      have HR := Lib.hid (H.out.below BW.out)
      obtain ⟨r0, r1, r2, -, -, -⟩ := R0.out.all
      obtain ⟨o0, o1, o2, o3⟩ := R1.out.all
      obtain ⟨s0, s1, s2, -, -, -⟩ := R6.out.all
      by_cases hlt : q < C
      · have a1 : I * C + q < n := by rw [HN.out]; exact idx_lt hI hlt
        have a2 : J * C + q < n := by rw [HN.out]; exact idx_lt hJ hlt
        have c1 : (I : Int) * (C : Int) = ((I * C : Nat) : Int) := (Int.natCast_mul _ _).symm
        have c2 : (J : Int) * (C : Int) = ((J * C : Nat) : Int) := (Int.natCast_mul _ _).symm
        have d1 : 0 ≤ (I : Int) * (C : Int) ∧ (I : Int) * (C : Int) ≤ 600 := by rw [c1]; omega
        have d2 : 0 ≤ (J : Int) * (C : Int) ∧ (J : Int) * (C : Int) ≤ 600 := by rw [c2]; omega
        have e1 : 0 ≤ (I : Int) * (C : Int) + (q : Int) := by omega
        have e2 : (I : Int) * (C : Int) + (q : Int) < (n : Int) := by rw [c1]; omega
        have e3 : ((I : Int) * (C : Int) + (q : Int)).toNat = I * C + q := by rw [c1]; omega
        have f1 : 0 ≤ (J : Int) * (C : Int) + (q : Int) := by omega
        have f2 : (J : Int) * (C : Int) + (q : Int) < (n : Int) := by rw [c2]; omega
        have f3 : ((J : Int) * (C : Int) + (q : Int)).toNat = J * C + q := by rw [c2]; omega
        obtain ⟨d11, d12⟩ := d1
        obtain ⟨d21, d22⟩ := d2
        have v1 : IntKind.i64.wrap ((I : Int) * (C : Int)) = (I : Int) * (C : Int) := IntWalk.i64_in _ (by omega)
        have v2 : IntKind.i64.wrap ((I : Int) * (C : Int) + (q : Int)) = (I : Int) * (C : Int) + (q : Int) := IntWalk.i64_in _ (by omega)
        have v3 : IntKind.i64.wrap ((J : Int) * (C : Int)) = (J : Int) * (C : Int) := IntWalk.i64_in _ (by omega)
        have v4 : IntKind.i64.wrap ((J : Int) * (C : Int) + (q : Int)) = (J : Int) * (C : Int) + (q : Int) := IntWalk.i64_in _ (by omega)
        obtain ⟨ba, oa, rfl, x1⟩ := HR.out (I * C + q) (by rw [HX.out]; exact a1)
        have x2 := HR.out.cells (J * C + q) (by rw [HX.out]; exact a2)
        clear c1 c2
        go_wp2_with fail
        go_quiet (fail)
        have R0 := Lib.hid (R0.out.drewN nq)
        have R1 := Lib.hid (R1.out.keepOne (grown_of_below (below_drewN (Below.refl _ _) nq) (some w.heap.size)) (by omega))
        have R2 := Lib.hid (R2.out.drewN nq)
        have R6 := Lib.hid (R6.out.drewN nq)
        have IT := Lib.hid (IT.out.drewN nq)
        have G := Lib.hid (grown_drewN_one G.out nq)
        have BW := Lib.hid (below_drewN BW.out nq)
        have HR := Lib.hid (H.out.below BW.out)
        clear r0 r1 r2 o0 o1 o2 o3 s0 s1 s2 x1 x2
        generalize wr.drewN nq = w3 at R0 R1 R2 R6 IT G BW HR ⊢
        obtain ⟨za, hza⟩ : ∃ z, xs.getD (I * C + q) 0 = z := ⟨_, rfl⟩
        obtain ⟨zb, hzb⟩ : ∃ z, xs.getD (J * C + q) 0 = z := ⟨_, rfl⟩
        have ZA := Lib.hid hza
        have ZB := Lib.hid hzb
        have CC : Hid (∀ wS, Below w3.heap.size w3 wS → _) := fun wS hS => colCells R0.out HR.out HX.out a1 a2 hS
        rw [hza, hzb] at CC
        clear hza hzb
        have NA : Hid (NumP za) := by rw [← ZA.out]; exact nums_at NX.out (by rw [HX.out]; exact a1)
        have NB : Hid (NumP zb) := by rw [← ZB.out]; exact nums_at NX.out (by rw [HX.out]; exact a2)
        go_upto_region 8 with fail
        obtain ⟨bb, hbb⟩ : ∃ b, decide (NumP (zb * t)) = b := ⟨_, rfl⟩
        have DO : Hid (∀ w, Calls Try.prog 188 #[aggO 2 I J t, .int .i64 za, .int .i64 zb] w (Gives (.tuple #[.int .i64 (za + zb * t), .int .i64 zb, .bool bb]) w)) := fun w => by rw [← hbb]; exact iDo2 za zb I J t w NA.out NB.out HT.out
        have HBB := Lib.hid hbb
        clear hbb
        refine wp_region_held_drew (S := fun w' => Below w3.heap.size w3 w') (by kernel_rfl) (Below.refl _ _).drew (fun hH => ?_)
        refine wpAnyH_take (i := 0) (v := ?_) (by simp only [List.getElem?_toArray, List.getElem?_cons_zero]; rfl) (by kernel_rfl) (by kernel_rfl) (by kernel_rfl) (by exact fun _ _ _ h => h) (Or.inl ⟨by rfl, ?_⟩) hH ?_
        rotate_left
        · (intro wS hS; clear hS; go_simp; try rfl)
        try simp only [Act.put, List.setIfInBounds_toArray, List.set_cons_zero, List.set_cons_succ]
        refine wpAnyH_take (i := 1) (v := ?_) (by simp only [List.getElem?_toArray, List.getElem?_cons_succ, List.getElem?_cons_zero]; rfl) (by kernel_rfl) (by kernel_rfl) (by kernel_rfl) (by exact fun _ _ _ h => h) (Or.inl ⟨by rfl, ?_⟩) hH ?_
        rotate_left
        · (intro wS hS; clear hS; go_simp; try rfl)
        try simp only [Act.put, List.setIfInBounds_toArray, List.set_cons_zero, List.set_cons_succ]
        refine wpAnyH_take (i := 2) (v := ?_) (by simp only [List.getElem?_toArray, List.getElem?_cons_succ, List.getElem?_cons_zero]; rfl) (by kernel_rfl) (by kernel_rfl) (by kernel_rfl) (by exact fun _ _ _ h => h) (Or.inl ⟨by rfl, ?_⟩) hH ?_
        rotate_left
        · (intro wS hS; (try dsimp only at hS); obtain ⟨k1, k2, k3, k4, k5⟩ := CC.out _ hS; go_simp; try rfl)
        try simp only [Act.put, List.setIfInBounds_toArray, List.set_cons_zero, List.set_cons_succ]
        refine wpAnyH_take (i := 3) (v := ?_) (by simp only [List.getElem?_toArray, List.getElem?_cons_succ, List.getElem?_cons_zero]; rfl) (by kernel_rfl) (by kernel_rfl) (by kernel_rfl) (by exact fun _ _ _ h => h) (Or.inl ⟨by rfl, ?_⟩) hH ?_
        rotate_left
        · (intro wS hS; clear hS; go_simp; try rfl)
        try simp only [Act.put, List.setIfInBounds_toArray, List.set_cons_zero, List.set_cons_succ]
        refine wpAnyH_take (i := 4) (v := ?_) (by simp only [List.getElem?_toArray, List.getElem?_cons_succ, List.getElem?_cons_zero]; rfl) (by kernel_rfl) (by kernel_rfl) (by kernel_rfl) (by exact fun _ _ _ h => h) (Or.inl ⟨by rfl, ?_⟩) hH ?_
        rotate_left
        · (intro wS hS; clear hS; go_simp; try rfl)
        try simp only [Act.put, List.setIfInBounds_toArray, List.set_cons_zero, List.set_cons_succ]
        refine wpAnyH_take (i := 5) (v := ?_) (by simp only [List.getElem?_toArray, List.getElem?_cons_succ, List.getElem?_cons_zero]; rfl) (by kernel_rfl) (by kernel_rfl) (by kernel_rfl) (by exact fun _ _ _ h => h) (Or.inl ⟨by rfl, ?_⟩) hH ?_
        rotate_left
        · (intro wS hS; (try dsimp only at hS); obtain ⟨k1, k2, k3, k4, k5⟩ := CC.out _ hS; go_simp; try rfl)
        try simp only [Act.put, List.setIfInBounds_toArray, List.set_cons_zero, List.set_cons_succ]
        refine wpAnyH_take (i := 6) (v := ?_) (by simp only [List.getElem?_toArray, List.getElem?_cons_succ, List.getElem?_cons_zero]; rfl) (by kernel_rfl) (by kernel_rfl) (by kernel_rfl) (by exact fun _ _ _ h => h) (Or.inl ⟨by rfl, ?_⟩) hH ?_
        rotate_left
        · (intro wS hS; clear hS; go_simp; try rfl)
        try simp only [Act.put, List.setIfInBounds_toArray, List.set_cons_zero, List.set_cons_succ]
        refine wpAnyH_take (i := 7) (v := ?_) (by simp only [List.getElem?_toArray, List.getElem?_cons_succ, List.getElem?_cons_zero]; rfl) (by kernel_rfl) (by kernel_rfl) (by kernel_rfl) (by exact fun _ _ _ h => h) (Or.inl ⟨by rfl, ?_⟩) hH ?_
        rotate_left
        · (intro wS hS; (try dsimp only at hS); obtain ⟨k1, k2, k3, k4, k5⟩ := CC.out _ hS; go_simp; try rfl)
        try simp only [Act.put, List.setIfInBounds_toArray, List.set_cons_zero, List.set_cons_succ]
        refine wpAnyH_take (i := 8) (v := ?_) (by simp only [List.getElem?_toArray, List.getElem?_cons_succ, List.getElem?_cons_zero]; rfl) (by kernel_rfl) (by kernel_rfl) (by kernel_rfl) (by exact fun _ _ _ h => h) (Or.inl ⟨by rfl, ?_⟩) hH ?_
        rotate_left
        · (intro wS hS; clear hS; go_simp; try rfl)
        try simp only [Act.put, List.setIfInBounds_toArray, List.set_cons_zero, List.set_cons_succ]
        refine wpAnyH_take (i := 9) (v := ?_) (by simp only [List.getElem?_toArray, List.getElem?_cons_succ, List.getElem?_cons_zero]; rfl) (by kernel_rfl) (by kernel_rfl) (by kernel_rfl) (by exact fun _ _ _ h => h) (Or.inl ⟨by rfl, ?_⟩) hH ?_
        rotate_left
        · (intro wS hS; clear hS; go_simp; try rfl)
        try simp only [Act.put, List.setIfInBounds_toArray, List.set_cons_zero, List.set_cons_succ]
        refine wpAnyH_take (i := 10) (v := ?_) (by simp only [List.getElem?_toArray, List.getElem?_cons_succ, List.getElem?_cons_zero]; rfl) (by kernel_rfl) (by kernel_rfl) (by kernel_rfl) (by exact fun _ _ _ h => h) (Or.inl ⟨by rfl, ?_⟩) hH ?_
        rotate_left
        · (intro wS hS; (try dsimp only at hS); obtain ⟨k1, k2, k3, k4, k5⟩ := CC.out _ hS; go_simp; try rfl)
        try simp only [Act.put, List.setIfInBounds_toArray, List.set_cons_zero, List.set_cons_succ]
        refine wpAnyH_take (i := 11) (v := ?_) (by simp only [List.getElem?_toArray, List.getElem?_cons_succ, List.getElem?_cons_zero]; rfl) (by kernel_rfl) (by kernel_rfl) (by kernel_rfl) (by exact fun _ _ _ h => h) (Or.inl ⟨by rfl, ?_⟩) hH ?_
        rotate_left
        · (intro wS hS; clear hS; go_simp; try rfl)
        try simp only [Act.put, List.setIfInBounds_toArray, List.set_cons_zero, List.set_cons_succ]
        refine wpAnyH_take (i := 12) (v := ?_) (by simp only [List.getElem?_toArray, List.getElem?_cons_succ, List.getElem?_cons_zero]; rfl) (by kernel_rfl) (by kernel_rfl) (by kernel_rfl) (by exact fun _ _ _ h => h) (Or.inl ⟨by rfl, ?_⟩) hH ?_
        rotate_left
        · (intro wS hS; clear hS; go_simp; try rfl)
        try simp only [Act.put, List.setIfInBounds_toArray, List.set_cons_zero, List.set_cons_succ]
        refine wpAnyH_take (i := 13) (v := ?_) (by simp only [List.getElem?_toArray, List.getElem?_cons_succ, List.getElem?_cons_zero]; rfl) (by kernel_rfl) (by kernel_rfl) (by kernel_rfl) (by exact fun _ _ _ h => h) (Or.inl ⟨by rfl, ?_⟩) hH ?_
        rotate_left
        · (intro wS hS; clear hS; go_simp; try rfl)
        try simp only [Act.put, List.setIfInBounds_toArray, List.set_cons_zero, List.set_cons_succ]
        refine wpAnyH_ready (rs := [14]) (by kernel_rfl) (by simp) ?_
        refine AllReadyH.cons (by simp only [List.getElem?_toArray, List.getElem?_cons_succ, List.getElem?_cons_zero]; rfl) (fun K hK => ?_) AllReadyH.nil
        go_simp
        go_upon
        (with_reducible refine (DO.out _).mono ?_)
        rintro e v14 ⟨rfl, hb14⟩
        try dsimp only
        refine hK.out _ _ ?_ (fun hH2 => ?_)
        · exact hH.trans (hb14.mono hH.size)
        clear hK K hH
        have hH := hH2
        clear hH2
        try simp only [Act.put, List.setIfInBounds_toArray, List.set_cons_zero, List.set_cons_succ]
        refine wpAnyH_take (i := 15) (v := ?_) (by simp only [List.getElem?_toArray, List.getElem?_cons_succ, List.getElem?_cons_zero]; rfl) (by kernel_rfl) (by kernel_rfl) (by kernel_rfl) (by exact fun _ _ _ h => h) (Or.inl ⟨by rfl, ?_⟩) hH ?_
        rotate_left
        · (intro wS hS; clear hS; go_simp; try rfl)
        try simp only [Act.put, List.setIfInBounds_toArray, List.set_cons_zero, List.set_cons_succ]
        refine wpAnyH_take (i := 16) (v := ?_) (by simp only [List.getElem?_toArray, List.getElem?_cons_succ, List.getElem?_cons_zero]; rfl) (by kernel_rfl) (by kernel_rfl) (by kernel_rfl) (by exact fun _ _ _ h => h) (Or.inl ⟨by rfl, ?_⟩) hH ?_
        rotate_left
        · (intro wS hS; clear hS; go_simp; try rfl)
        try simp only [Act.put, List.setIfInBounds_toArray, List.set_cons_zero, List.set_cons_succ]
        refine wpAnyH_take (i := 17) (v := ?_) (by simp only [List.getElem?_toArray, List.getElem?_cons_succ, List.getElem?_cons_zero]; rfl) (by kernel_rfl) (by kernel_rfl) (by kernel_rfl) (by exact fun _ _ _ h => h) (Or.inl ⟨by rfl, ?_⟩) hH ?_
        rotate_left
        · (intro wS hS; clear hS; go_simp; try rfl)
        try simp only [Act.put, List.setIfInBounds_toArray, List.set_cons_zero, List.set_cons_succ]
        refine wpAnyH_take (i := 18) (v := ?_) (by simp only [List.getElem?_toArray, List.getElem?_cons_succ, List.getElem?_cons_zero]; rfl) (by kernel_rfl) (by kernel_rfl) (by kernel_rfl) (by exact fun _ _ _ h => h) (Or.inl ⟨by rfl, ?_⟩) hH ?_
        rotate_left
        · (intro wS hS; clear hS; go_simp; try rfl)
        try simp only [Act.put, List.setIfInBounds_toArray, List.set_cons_zero, List.set_cons_succ]
        refine wpAnyH_take (i := 19) (v := ?_) (by simp only [List.getElem?_toArray, List.getElem?_cons_succ, List.getElem?_cons_zero]; rfl) (by kernel_rfl) (by kernel_rfl) (by kernel_rfl) (by exact fun _ _ _ h => h) (Or.inl ⟨by rfl, ?_⟩) hH ?_
        rotate_left
        · (intro wS hS; clear hS; go_simp; try rfl)
        try simp only [Act.put, List.setIfInBounds_toArray, List.set_cons_zero, List.set_cons_succ]
        refine wpAnyH_take (i := 20) (v := ?_) (by simp only [List.getElem?_toArray, List.getElem?_cons_succ, List.getElem?_cons_zero]; rfl) (by kernel_rfl) (by kernel_rfl) (by kernel_rfl) (by exact fun _ _ _ h => h) (Or.inl ⟨by rfl, ?_⟩) hH ?_
        rotate_left
        · (intro wS hS; clear hS; go_simp; try rfl)
        try simp only [Act.put, List.setIfInBounds_toArray, List.set_cons_zero, List.set_cons_succ]
        refine wpAnyH_take (i := 21) (v := ?_) (by simp only [List.getElem?_toArray, List.getElem?_cons_succ, List.getElem?_cons_zero]; rfl) (by kernel_rfl) (by kernel_rfl) (by kernel_rfl) (by exact fun _ _ _ h => h) (Or.inl ⟨by rfl, ?_⟩) hH ?_
        rotate_left
        · (intro wS hS; clear hS; go_simp; try rfl)
        try simp only [Act.put, List.setIfInBounds_toArray, List.set_cons_zero, List.set_cons_succ]
        refine wpAnyH_done (by kernel_rfl) ?_ _
        have hb : Below w3.heap.size w3 v14 := hH
        have R0 := Lib.hid (R0.out.step hb)
        have R1 := Lib.hid (R1.out.step hb)
        have R2 := Lib.hid (R2.out.step hb)
        have R6 := Lib.hid (R6.out.step hb)
        have IT := Lib.hid (IT.out.keep hb IT.out.lt)
        have G := Lib.hid (G.out.trans (grown_of_below hb (some g)))
        have BW := Lib.hid (stepB BW.out hb)
        clear CC hH hb14 hb HR
        obtain ⟨s0, s1, s2, -, -, -⟩ := R6.out.all
        obtain ⟨y0, y1, y2, y3, y4, y5⟩ := R2.out.all
        cases bb
        · have EQ : Hid (MR.done R C (opL 2 I J t C xs) = MR.no) := rw_over I J t R C xs q (HX.out.trans HN.out) hI hlt NX.out HT.out (by rw [ZB.out]; exact of_decide_eq_false HBB.out)
          clear IT
          go_wp2_with fail
          obtain ⟨E0, E1, E2, -, -, -⟩ := (((R2.out.set0 (.int .i64 0)).set1 (.int .i64 0)).set2 (.slice none 0 0)).all
          rw [EQ.out]
          exact bodyPost_ret (v := .tuple #[.agg #[.int .i64 0, .int .i64 0, .slice none 0 0], .bool false]) (by simp [results, Try.results162, go_sem, E0, E1, E2]) rfl ⟨_, rfl, .inl ⟨rfl, rfl⟩, ((BW.out.setCell (by show w.heap.size ≤ w.heap.size + 1 + 1; omega) _).setCell (by show w.heap.size ≤ w.heap.size + 1 + 1; omega) _).setCell (by show w.heap.size ≤ w.heap.size + 1 + 1; omega) _⟩
        · go_upto_region 11 with fail
          have hold1 := IT.out.cell (i := I * C + q) (by rw [colTo_length, HX.out]; exact a1)
          have hfr1 := IT.out.free (I * C + q)
          refine wp_region_held_drew (S := fun w' => v14.grownBy w' (some g)) (by kernel_rfl) (grown_drew_one (World.grownBy.refl _ _)) (fun hH => ?_)
          refine wpAnyH_take (i := 0) (v := ?_) (by simp only [List.getElem?_toArray, List.getElem?_cons_zero]; rfl) (by kernel_rfl) (by kernel_rfl) (by kernel_rfl) (by exact fun _ _ _ h => h) (Or.inl ⟨by rfl, ?_⟩) hH ?_
          rotate_left
          · (intro wS hS; clear hS; go_simp; try rfl)
          try simp only [Act.put, List.setIfInBounds_toArray, List.set_cons_zero, List.set_cons_succ]
          refine wpAnyH_take (i := 1) (v := ?_) (by simp only [List.getElem?_toArray, List.getElem?_cons_succ, List.getElem?_cons_zero]; rfl) (by kernel_rfl) (by kernel_rfl) (by kernel_rfl) (by exact fun _ _ _ h => h) (Or.inl ⟨by rfl, ?_⟩) hH ?_
          rotate_left
          · (intro wS hS; (try dsimp only at hS); obtain ⟨k1, k2, k3, -, -, -⟩ := (R6.out.keepOne hS NE.symm).all; go_simp; try rfl)
          try simp only [Act.put, List.setIfInBounds_toArray, List.set_cons_zero, List.set_cons_succ]
          refine wpAnyH_take (i := 2) (v := ?_) (by simp only [List.getElem?_toArray, List.getElem?_cons_succ, List.getElem?_cons_zero]; rfl) (by kernel_rfl) (by kernel_rfl) (by kernel_rfl) (by exact fun _ _ _ h => h) (Or.inl ⟨by rfl, ?_⟩) hH ?_
          rotate_left
          · (intro wS hS; clear hS; go_simp; try rfl)
          try simp only [Act.put, List.setIfInBounds_toArray, List.set_cons_zero, List.set_cons_succ]
          refine wpAnyH_take (i := 3) (v := ?_) (by simp only [List.getElem?_toArray, List.getElem?_cons_succ, List.getElem?_cons_zero]; rfl) (by kernel_rfl) (by kernel_rfl) (by kernel_rfl) (by exact fun _ _ _ h => h) (Or.inl ⟨by rfl, ?_⟩) hH ?_
          rotate_left
          · (intro wS hS; clear hS; go_simp; try rfl)
          try simp only [Act.put, List.setIfInBounds_toArray, List.set_cons_zero, List.set_cons_succ]
          refine wpAnyH_take (i := 4) (v := ?_) (by simp only [List.getElem?_toArray, List.getElem?_cons_succ, List.getElem?_cons_zero]; rfl) (by kernel_rfl) (by kernel_rfl) (by kernel_rfl) (by exact fun _ _ _ h => h) (Or.inl ⟨by rfl, ?_⟩) hH ?_
          rotate_left
          · (intro wS hS; (try dsimp only at hS); obtain ⟨k1, k2, k3, -, -, -⟩ := (R6.out.keepOne hS NE.symm).all; go_simp; try rfl)
          try simp only [Act.put, List.setIfInBounds_toArray, List.set_cons_zero, List.set_cons_succ]
          refine wpAnyH_take (i := 5) (v := ?_) (by simp only [List.getElem?_toArray, List.getElem?_cons_succ, List.getElem?_cons_zero]; rfl) (by kernel_rfl) (by kernel_rfl) (by kernel_rfl) (by exact fun _ _ _ h => h) (Or.inl ⟨by rfl, ?_⟩) hH ?_
          rotate_left
          · (intro wS hS; clear hS; go_simp; try rfl)
          try simp only [Act.put, List.setIfInBounds_toArray, List.set_cons_zero, List.set_cons_succ]
          refine wpAnyH_take (i := 6) (v := ?_) (by simp only [List.getElem?_toArray, List.getElem?_cons_succ, List.getElem?_cons_zero]; rfl) (by kernel_rfl) (by kernel_rfl) (by kernel_rfl) (by exact fun _ _ _ h => h) (Or.inl ⟨by rfl, ?_⟩) hH ?_
          rotate_left
          · (intro wS hS; clear hS; go_simp; try rfl)
          try simp only [Act.put, List.setIfInBounds_toArray, List.set_cons_zero, List.set_cons_succ]
          refine wpAnyH_take (i := 7) (v := ?_) (by simp only [List.getElem?_toArray, List.getElem?_cons_succ, List.getElem?_cons_zero]; rfl) (by kernel_rfl) (by kernel_rfl) (by kernel_rfl) (by exact fun _ _ _ h => h) (Or.inl ⟨by rfl, ?_⟩) hH ?_
          rotate_left
          · (intro wS hS; clear hS; go_simp; try rfl)
          try simp only [Act.put, List.setIfInBounds_toArray, List.set_cons_zero, List.set_cons_succ]
          refine wpAnyH_take (i := 8) (v := ?_) (by simp only [List.getElem?_toArray, List.getElem?_cons_succ, List.getElem?_cons_zero]; rfl) (by kernel_rfl) (by kernel_rfl) (by kernel_rfl) (by exact fun _ _ _ h => h) (Or.inl ⟨by rfl, ?_⟩) hH ?_
          rotate_left
          · (intro wS hS; clear hS; go_simp; try rfl)
          try simp only [Act.put, List.setIfInBounds_toArray, List.set_cons_zero, List.set_cons_succ]
          refine wpAnyH_ready (rs := [9]) (by kernel_rfl) (by simp) ?_
          refine AllReadyH.cons (by simp only [List.getElem?_toArray, List.getElem?_cons_succ, List.getElem?_cons_zero]; rfl) (fun K hK => ?_) AllReadyH.nil
          clear hH
          go_simp
          have IT2 := Lib.hid (IT.out.set (I * C + q) (za + zb * t))
          refine hK.out _ _ (grown_drew_one (grown_set_one (World.grownBy.refl _ _) rfl _)) (fun hH => ?_)
          clear hK K
          try simp only [Act.put, List.setIfInBounds_toArray, List.set_cons_zero, List.set_cons_succ]
          refine wpAnyH_take (i := 10) (v := ?_) (by simp only [List.getElem?_toArray, List.getElem?_cons_succ, List.getElem?_cons_zero]; rfl) (by kernel_rfl) (by kernel_rfl) (by kernel_rfl) (by exact fun _ _ _ h => h) (Or.inl ⟨by rfl, ?_⟩) hH ?_
          rotate_left
          · (intro wS hS; clear hS; go_simp; try rfl)
          try simp only [Act.put, List.setIfInBounds_toArray, List.set_cons_zero, List.set_cons_succ]
          refine wpAnyH_ready (rs := [11]) (by kernel_rfl) (by simp) ?_
          refine AllReadyH.cons (by simp only [List.getElem?_toArray, List.getElem?_cons_succ, List.getElem?_cons_zero]; rfl) (fun K hK => ?_) AllReadyH.nil
          clear hH hold1 hfr1
          have hold2 := IT2.out.cell (i := J * C + q) (by rw [List.length_set, colTo_length, HX.out]; exact a2)
          have hfr2 := IT2.out.free (J * C + q)
          go_simp
          refine hK.out _ _ (grown_drew_one (grown_set_one (b := g) (grown_set_one (b := g) (World.grownBy.refl v14 (some g)) rfl _) rfl _)) (fun hH => ?_)
          clear hK K hH hold2 hfr2
          refine wpAnyH_done (by kernel_rfl) ?_ _
          go_wp2_with fail
          go_roundw
          case rel =>
            have E := rw_add I J t C R xs q (HX.out.trans HN.out) hI hJ hlt (by have := IJ.out; omega)
            rw [ZA.out, ZB.out] at E
            refine ⟨q + 1, by go_num, by omega, ?_, grown_drew_one (grown_set_one (b := g) (grown_set_one (b := g) G.out rfl _) rfl _), prodTo_succ P.out (fun _ => by rw [ZB.out]; exact of_decide_eq_true HBB.out)⟩
            rw [← E]
            exact (IT2.out.set (J * C + q) (zb)).drew
          case measure => simp [intOf]; omega
      · have hqC : q = C := by omega
        rw [hqC] at IT P
        have HL : Hid ((colTo (rwAt 2 I J t C xs) C xs C).length = n) := by show _ = n; rw [colTo_length, HX.out]
        have EQ : Hid (MR.done R C (opL 2 I J t C xs) = MR.done R C (colTo (rwAt 2 I J t C xs) C xs C)) := rw_done 2 I J t R C xs (by decide) (HX.out.trans HN.out) NX.out HT.out P.out
        generalize colTo (rwAt 2 I J t C xs) C xs C = L at IT HL EQ
        clear o0 o1 o2 o3
        go_wp2_with fail
        have ST := iDone R C (some ⟨g, 0, none⟩) qc L wr IT.out.rd (by rw [HL.out]; omega)
        rw [HL.out] at ST
        refine ST.mono ?_
        clear ST
        rintro e w4 ⟨rfl, hb⟩
        have R2 := Lib.hid (R2.out.step hb)
        have IT := Lib.hid (IT.out.keep hb IT.out.lt)
        have B := Lib.hid (stepB BW.out hb)
        clear hb
        obtain ⟨s0, s1, s2, t0, t1, t2⟩ := R2.out.all
        have be : ∀ x y z, Below w.heap.size w (((w4.setCell ⟨w.heap.size + 1 + 1, 0, none⟩ x).setCell ⟨w.heap.size + 1 + 1, 1, none⟩ y).setCell ⟨w.heap.size + 1 + 1, 2, none⟩ z) := fun x y z =>
          (((B.out.setCell (by show w.heap.size ≤ w.heap.size + 1 + 1; omega) _).setCell (by show w.heap.size ≤ w.heap.size + 1 + 1; omega) _).setCell (by show w.heap.size ≤ w.heap.size + 1 + 1; omega) _)
        have BE := Lib.hid be
        clear be
        rcases Bool.eq_false_or_eq_true (isMat R C L) with hd | hd
        · have E : Hid (MR.done R C L = ⟨true, R, C, L⟩) := by show MR.done R C L = _; unfold MR.done; rw [hd]; rfl
          rw [hd]
          clear hd
          unfold DoneRes
          go_wp2_with fail
          obtain ⟨E0, E1, E2, -, -, -⟩ := (((R2.out.set0 (.int .i64 R)).set1 (.int .i64 C)).set2 (.slice (some ⟨g, 0, none⟩) n qc)).all
          rw [EQ.out, E.out]
          refine bodyPost_ret (v := .tuple #[.agg #[.int .i64 R, .int .i64 C, .slice (some ⟨g, 0, none⟩) n qc], .bool true]) (by simp [results, Try.results162, go_sem, E0, E1, E2]) rfl ⟨_, rfl, ?_, ?_⟩
          · refine .inr ⟨g, qc, by rw [HL.out], by omega, ?_, by rw [HL.out]; omega, by rw [HL.out]; omega⟩
            exact ((IT.out.far (by show g ≠ w.heap.size + 1 + 1; omega) _).far (by show g ≠ w.heap.size + 1 + 1; omega) _).far (by show g ≠ w.heap.size + 1 + 1; omega) _
          · exact BE.out _ _ _
        · have E : Hid (MR.done R C L = MR.no) := by show MR.done R C L = _; unfold MR.done; rw [hd]; rfl
          rw [hd]
          clear hd
          unfold DoneRes
          go_wp2_with fail
          obtain ⟨E0, E1, E2, -, -, -⟩ := (((R2.out.set0 (.int .i64 0)).set1 (.int .i64 0)).set2 (.slice none 0 0)).all
          rw [EQ.out, E.out]
          exact bodyPost_ret (v := .tuple #[.agg #[.int .i64 0, .int .i64 0, .slice none 0 0], .bool false]) (by simp [results, Try.results162, go_sem, E0, E1, E2]) rfl ⟨_, rfl, .inl ⟨rfl, rfl⟩, BE.out _ _ _⟩
end Go.Proofs.Ytpelnfenfeoeeaa
end

section
/-
  Chapter 5, in the program: DoRowOp, any matrix and operation.
-/
namespace Go.Proofs.Ytpelnfenfeoeeaa
set_option maxRecDepth 100000
open Go.RowKit

set_option maxHeartbeats 1000000 in
theorem iOp (k i j t r c : Int) (a : Option Addr) (m : Nat) (xs : List Int) (w : World) (h : Rd w a xs) (hn : xs.length ≤ 16777216) (_ : Spot a) :
    Calls Try.prog 162 #[.agg #[.int .i64 r, .int .i64 c, .slice a xs.length m], .agg #[.int .i64 k, .int .i64 i, .int .i64 j, .int .i64 t]] w (MatRes (opM k i j t r c xs) w) := by
  rcases Bool.eq_false_or_eq_true (isMat r c xs) with hm | hm
  · rcases Bool.eq_false_or_eq_true (isOp k i j t r) with ho | ho
    · obtain ⟨hk, -, ⟨i1, i2⟩, ⟨j1, j2⟩, -, -⟩ := isOp_says ho
      obtain ⟨⟨r1, r2⟩, ⟨c1, c2⟩, -, -⟩ := isMat_says hm
      obtain ⟨R, rfl⟩ := Int.eq_ofNat_of_zero_le r1
      obtain ⟨C, rfl⟩ := Int.eq_ofNat_of_zero_le c1
      obtain ⟨I, rfl⟩ := Int.eq_ofNat_of_zero_le i1
      obtain ⟨J, rfl⟩ := Int.eq_ofNat_of_zero_le j1
      have E : opM k I J t R C xs = MR.done R C (opL k I J t C xs) := by unfold opM; rw [hm, ho]; rfl
      rw [E]
      clear E
      rcases hk with rfl | rfl | rfl
      · exact iOp_0 R C I J a m t xs w h hn hm ho
      · exact iOp_1 R C I J a m t xs w h hn hm ho
      · exact iOp_2 R C I J a m t xs w h hn hm ho
    · have E : Hid (opM k i j t r c xs = MR.no) := by show opM k i j t r c xs = _; unfold opM; rw [hm, ho]; rfl
      have M := Lib.hid hm
      have OP := Lib.hid ho
      clear hm ho
      have B0 : ∀ o1 o2 o3, Below w.heap.size w (((w.alloc o1).alloc o2).alloc o3) := fun o1 o2 o3 => (((Below.refl _ _).alloc (Nat.le_refl _) _).alloc (by simp) _).alloc (by simp <;> omega) _
      have BH := Lib.hid B0
      have H := Lib.hid h
      obtain ⟨n, hx⟩ : ∃ n, xs.length = n := ⟨_, rfl⟩
      have HX := Lib.hid hx
      rw [hx] at hn ⊢
      clear B0 h hx
      go_enter Try.func162, Try.ntmps162
      go_wp2_with fail
      have ST := iIsMat r c a m xs _ (H.out.below (BH.out (.cells #[.int .i64 r, .int .i64 c, .slice a n m] 26) (.cells #[.int .i64 k, .int .i64 i, .int .i64 j, .int .i64 t] 97) (.cells #[.int .i64 0, .int .i64 0, .slice none 0 0] 26))) (by rw [HX.out]; omega)
      rw [HX.out] at ST
      refine ST.mono ?_
      clear ST
      rintro e w1 ⟨rfl, hb⟩
      have K0 : Hid (Blk3 w1 w.heap.size 26 (.int .i64 r) (.int .i64 c) (.slice a n m)) := (((Blk3.at_ _ _ _ _ rfl).old _).old _).keep hb (by simp <;> omega)
      have K1 : Hid (Blk4 w1 (w.heap.size + 1) 97 (.int .i64 k) (.int .i64 i) (.int .i64 j) (.int .i64 t)) := ((Blk4.at_ _ _ _ _ _ (by simp)).old _).keep hb (by simp <;> omega)
      have K2 : Hid (Blk3 w1 (w.heap.size + 1 + 1) 26 (.int .i64 0) (.int .i64 0) (.slice none 0 0)) := (Blk3.at_ _ _ _ _ (by simp)).keep hb (by simp)
      have B : Hid (Below w.heap.size w w1) := (BH.out _ _ _).trans (hb.mono (by simp <;> omega))
      clear hb
      obtain ⟨ca0, ca1, ca2, -, -, -⟩ := K0.out.all
      obtain ⟨cb0, cb1, cb2, cb3⟩ := K1.out.all
      obtain ⟨cc0, cc1, cc2, ff0, ff1, ff2⟩ := K2.out.all
      rw [M.out]
      go_wp2_with fail
      refine (iIsOp k i j t r _).mono ?_
      rintro e w2 ⟨rfl, hb⟩
      have K0 := Lib.hid (K0.out.step hb)
      have K1 := Lib.hid (K1.out.step hb)
      have K2 := Lib.hid (K2.out.step hb)
      have B := Lib.hid (stepB B.out hb)
      clear hb
      obtain ⟨da0, da1, da2, -, -, -⟩ := K0.out.all
      obtain ⟨db0, db1, db2, db3⟩ := K1.out.all
      obtain ⟨dc0, dc1, dc2, gf0, gf1, gf2⟩ := K2.out.all
      rw [OP.out]
      go_wp2_with fail
      obtain ⟨E0, E1, E2, -, -, -⟩ := (((K2.out.set0 (.int .i64 0)).set1 (.int .i64 0)).set2 (.slice none 0 0)).all
      rw [E.out]
      exact bodyPost_ret (v := .tuple #[.agg #[.int .i64 0, .int .i64 0, .slice none 0 0], .bool false]) (by simp [results, Try.results162, go_sem, E0, E1, E2]) rfl ⟨_, rfl, .inl ⟨rfl, rfl⟩, ((B.out.setCell (by show w.heap.size ≤ w.heap.size + 1 + 1; omega) _).setCell (by show w.heap.size ≤ w.heap.size + 1 + 1; omega) _).setCell (by show w.heap.size ≤ w.heap.size + 1 + 1; omega) _⟩
  · have E : Hid (opM k i j t r c xs = MR.no) := by show opM k i j t r c xs = _; unfold opM; rw [hm]; rfl
    have M := Lib.hid hm
    clear hm
    have B0 : ∀ o1 o2 o3, Below w.heap.size w (((w.alloc o1).alloc o2).alloc o3) := fun o1 o2 o3 => (((Below.refl _ _).alloc (Nat.le_refl _) _).alloc (by simp) _).alloc (by simp <;> omega) _
    have BH := Lib.hid B0
    have H := Lib.hid h
    obtain ⟨n, hx⟩ : ∃ n, xs.length = n := ⟨_, rfl⟩
    have HX := Lib.hid hx
    rw [hx] at hn ⊢
    clear B0 h hx
    go_enter Try.func162, Try.ntmps162
    go_wp2_with fail
    have ST := iIsMat r c a m xs _ (H.out.below (BH.out (.cells #[.int .i64 r, .int .i64 c, .slice a n m] 26) (.cells #[.int .i64 k, .int .i64 i, .int .i64 j, .int .i64 t] 97) (.cells #[.int .i64 0, .int .i64 0, .slice none 0 0] 26))) (by rw [HX.out]; omega)
    rw [HX.out] at ST
    refine ST.mono ?_
    clear ST
    rintro e w1 ⟨rfl, hb⟩
    have K0 : Hid (Blk3 w1 w.heap.size 26 (.int .i64 r) (.int .i64 c) (.slice a n m)) := (((Blk3.at_ _ _ _ _ rfl).old _).old _).keep hb (by simp <;> omega)
    have K1 : Hid (Blk4 w1 (w.heap.size + 1) 97 (.int .i64 k) (.int .i64 i) (.int .i64 j) (.int .i64 t)) := ((Blk4.at_ _ _ _ _ _ (by simp)).old _).keep hb (by simp <;> omega)
    have K2 : Hid (Blk3 w1 (w.heap.size + 1 + 1) 26 (.int .i64 0) (.int .i64 0) (.slice none 0 0)) := (Blk3.at_ _ _ _ _ (by simp)).keep hb (by simp)
    have B : Hid (Below w.heap.size w w1) := (BH.out _ _ _).trans (hb.mono (by simp <;> omega))
    clear hb
    obtain ⟨ca0, ca1, ca2, -, -, -⟩ := K0.out.all
    obtain ⟨cb0, cb1, cb2, cb3⟩ := K1.out.all
    obtain ⟨cc0, cc1, cc2, ff0, ff1, ff2⟩ := K2.out.all
    rw [M.out]
    go_wp2_with fail
    obtain ⟨E0, E1, E2, -, -, -⟩ := (((K2.out.set0 (.int .i64 0)).set1 (.int .i64 0)).set2 (.slice none 0 0)).all
    rw [E.out]
    exact bodyPost_ret (v := .tuple #[.agg #[.int .i64 0, .int .i64 0, .slice none 0 0], .bool false]) (by simp [results, Try.results162, go_sem, E0, E1, E2]) rfl ⟨_, rfl, .inl ⟨rfl, rfl⟩, ((B.out.setCell (by show w.heap.size ≤ w.heap.size + 1 + 1; omega) _).setCell (by show w.heap.size ≤ w.heap.size + 1 + 1; omega) _).setCell (by show w.heap.size ≤ w.heap.size + 1 + 1; omega) _⟩
end Go.Proofs.Ytpelnfenfeoeeaa
end

section
/-
  Plain mathematics of chapter 7: a row that is written cell by cell. Nothing of a program is used.
-/
namespace Go.Proofs.Ytpelnfenfeoeeaa

/-- The first k cells of row i are those of v. -/
def rowTo (r c i : Nat) (v : Nat → Int) (xs : List Int) (k : Nat) : List Int := tab r c fun p q => if p = i ∧ q < k then v q else mxC c xs p q
def rowL (r c i : Nat) (v : Nat → Int) (xs : List Int) : List Int := tab r c fun p q => if p = i then v q else mxC c xs p q
theorem rowTo_length (r c i : Nat) (v : Nat → Int) (xs : List Int) (k : Nat) : (rowTo r c i v xs k).length = r * c := tab_length _ _ _
theorem rowTo_at {r c i : Nat} {v : Nat → Int} {xs : List Int} {k p q : Nat} (hp : p < r) (hq : q < c) : (rowTo r c i v xs k).getD (p * c + q) 0 = if p = i ∧ q < k then v q else mxC c xs p q := tab_at r c _ hp hq
theorem rowTo_old {r c i : Nat} {v : Nat → Int} {xs : List Int} {k p q : Nat} (hp : p < r) (hq : q < c) (h : p ≠ i ∨ k ≤ q) : (rowTo r c i v xs k).getD (p * c + q) 0 = xs.getD (p * c + q) 0 := by
  rw [rowTo_at hp hq, if_neg (by omega)]; rfl
theorem rowTo_zero {r c i : Nat} {v : Nat → Int} {xs : List Int} (hx : xs.length = r * c) : rowTo r c i v xs 0 = xs := by
  refine (tab_ext hx fun p q _ _ => ?_).symm
  rw [if_neg (by omega)]; rfl
theorem rowTo_step {r c i : Nat} {v : Nat → Int} {xs : List Int} {k : Nat} (hi : i < r) (hk : k < c) : (rowTo r c i v xs k).set (i * c + k) (v k) = rowTo r c i v xs (k + 1) := by
  refine tab_ext (by rw [List.length_set, rowTo_length]) fun p q hp hq => ?_
  rw [getD_set _ _ _ _ (by rw [rowTo_length]; exact idx_lt hi hk), rowTo_at hp hq]
  by_cases e : p * c + q = i * c + k
  · obtain ⟨rfl, rfl⟩ := idx_inj hq hk e
    rw [if_pos (by omega), if_pos (by omega)]
  · have ne : ¬ (p = i ∧ q = k) := by rintro ⟨rfl, rfl⟩; exact e rfl
    rw [if_neg (by omega)]
    by_cases h : p = i ∧ q < k
    · rw [if_pos h, if_pos (by omega)]
    · rw [if_neg h, if_neg (by omega)]
theorem rowTo_all {r c i : Nat} {v : Nat → Int} {xs : List Int} : rowTo r c i v xs c = rowL r c i v xs := by
  refine tab_ext (rowTo_length _ _ _ _ _ _) fun p q hp hq => ?_
  rw [rowTo_at hp hq]
  by_cases h : p = i
  · rw [if_pos ⟨h, hq⟩, if_pos h]
  · rw [if_neg (fun h1 => h h1.1), if_neg h]
theorem rowL_length (r c i : Nat) (v : Nat → Int) (xs : List Int) : (rowL r c i v xs).length = r * c := tab_length _ _ _
theorem rowL_own {r c i q : Nat} {v : Nat → Int} {xs : List Int} (hi : i < r) (hq : q < c) : mxC c (rowL r c i v xs) i q = v q := by unfold rowL; rw [mxC_tab hi hq, if_pos rfl]
theorem rowL_oth {r c i p q : Nat} {v : Nat → Int} {xs : List Int} (hp : p < r) (hq : q < c) (h : p ≠ i) : mxC c (rowL r c i v xs) p q = mxC c xs p q := by unfold rowL; rw [mxC_tab hp hq, if_neg h]
theorem rowL_congr {r c i : Nat} {u v : Nat → Int} {xs : List Int} (h : ∀ q, q < c → u q = v q) : rowL r c i u xs = rowL r c i v xs := by
  refine tab_ext (rowL_length _ _ _ _ _) fun p q hp hq => ?_
  by_cases e : p = i
  · subst e; rw [if_pos rfl]; exact (rowL_own hp hq).trans (h q hq)
  · rw [if_neg e]; exact rowL_oth hp hq e
theorem rowL_self {r c i : Nat} {v : Nat → Int} {xs : List Int} (hx : xs.length = r * c) (h : i < r → ∀ q, q < c → v q = mxC c xs i q) : rowL r c i v xs = xs := by
  refine (tab_ext hx fun p q hp hq => ?_).symm
  by_cases e : p = i
  · subst e; rw [if_pos rfl, h hp q hq]; rfl
  · rw [if_neg e]; rfl
theorem rowL_twice {r c i : Nat} {u v : Nat → Int} {xs : List Int} : rowL r c i u (rowL r c i v xs) = rowL r c i u xs := by
  refine tab_ext (rowL_length _ _ _ _ _) fun p q hp hq => ?_
  by_cases e : p = i
  · subst e; rw [if_pos rfl]; exact rowL_own hp hq
  · rw [if_neg e]; exact (rowL_oth hp hq e).trans (rowL_oth hp hq e)
theorem prL_row (r c i : Nat) (xs : List Int) : prL r c i xs = rowL r c i (prV c (mxC c xs i)) xs := rfl
theorem rdL_row (r c t j i : Nat) (xs : List Int) : rdL r c t j i xs = rowL r c i (prV c (rdV j (mxC c xs i) (mxC c xs t))) xs := rfl
/-- A row reduced, then made primitive. -/
theorem rdL_prim {r c t j i : Nat} {xs : List Int} (hi : i < r) : prL r c i (rowL r c i (rdV j (mxC c xs i) (mxC c xs t)) xs) = rdL r c t j i xs := by
  rw [prL_row, rdL_row, rowL_twice]
  exact rowL_congr fun q hq => prV_congr (fun k hk => rowL_own hi hk) q hq
theorem prTo_zero {r c : Nat} {xs : List Int} (hx : xs.length = r * c) : prTo r c 0 xs = xs := by
  refine (tab_ext hx fun p q _ _ => ?_).symm
  rw [if_neg (by omega)]; rfl
theorem prTo_length (r c i : Nat) (xs : List Int) : (prTo r c i xs).length = r * c := tab_length _ _ _
theorem prTo_step {r c i : Nat} {xs : List Int} (hi : i < r) : prL r c i (prTo r c i xs) = prTo r c (i + 1) xs := by
  have at_ : ∀ {p q k : Nat}, p < r → q < c → mxC c (prTo r c k xs) p q = if p < k then prV c (mxC c xs p) q else mxC c xs p q := fun hp hq => mxC_tab hp hq
  refine tab_ext (tab_length _ _ _) fun p q hp hq => ?_
  by_cases e : p = i
  · subst e
    rw [if_pos (by omega)]
    refine (rowL_own hp hq).trans (prV_congr (fun k hk => ?_) q hq)
    rw [at_ hp hk, if_neg (by omega)]
  · refine (rowL_oth hp hq e).trans ?_
    rw [at_ hp hq]
    by_cases h : p < i
    · rw [if_pos h, if_pos (by omega)]
    · rw [if_neg h, if_neg (by omega)]
theorem prTo_nums {r c i : Nat} {xs : List Int} (hx : xs.length = r * c) (hn : nums xs = true) : nums (prTo r c i xs) = true := tab_nums fun p q hp hq => by
  by_cases h : p < i
  · rw [if_pos h]; exact prV_num (fun k hk => mx_nums hx hn hp hk) hq
  · rw [if_neg h]; exact mx_nums hx hn hp hq
theorem rowL_nums {r c i : Nat} {v : Nat → Int} {xs : List Int} (hx : xs.length = r * c) (hn : nums xs = true) (hv : ∀ q, q < c → NumP (v q)) : nums (rowL r c i v xs) = true := tab_nums fun p q hp hq => by
  by_cases h : p = i
  · rw [if_pos h]; exact hv q hq
  · rw [if_neg h]; exact mx_nums hx hn hp hq
theorem rowN_iff {c : Nat} {v : Nat → Int} : rowN c v = true ↔ ∀ q, q < c → NumP (v q) := by
  unfold rowN
  constructor
  · intro h q hq
    have := nums_at h (j := q) (by simpa using hq)
    simpa [List.getD, hq] using this
  · intro h
    refine nums_true fun q hq => ?_
    have hq' : q < c := by simpa using hq
    simpa [List.getD, hq'] using h q hq'
theorem elimR_skip {r c t j k i : Nat} {xs : List Int} (h : i = t ∨ mxC c xs i j = 0) : elimR r c t j (k + 1) i xs = elimR r c t j k (i + 1) xs := if_pos h
theorem elimR_on {r c t j k i : Nat} {xs : List Int} (h : ¬ (i = t ∨ mxC c xs i j = 0)) (h2 : rowN c (rdV j (mxC c xs i) (mxC c xs t)) = true) : elimR r c t j (k + 1) i xs = elimR r c t j k (i + 1) (rdL r c t j i xs) := by
  show (if i = t ∨ mxC c xs i j = 0 then _ else if rowN c _ = true then _ else _) = _
  rw [if_neg h, if_pos h2]
theorem elimR_bad {r c t j k i : Nat} {xs : List Int} (h : ¬ (i = t ∨ mxC c xs i j = 0)) (h2 : rowN c (rdV j (mxC c xs i) (mxC c xs t)) ≠ true) : elimR r c t j (k + 1) i xs = none := by
  show (if i = t ∨ mxC c xs i j = 0 then _ else if rowN c _ = true then _ else _) = _
  rw [if_neg h, if_neg h2]
theorem echC_end {r c k j : Nat} {xs : List Int} {pv : List Nat} (h : ¬ pv.length < r) : echC r c k j xs pv = some (xs, pv) := by
  cases k with
  | zero => rfl
  | succ k =>
    show (if pv.length < r then _ else some (xs, pv)) = _
    rw [if_neg h]
theorem echC_skip {r c k j : Nat} {xs : List Int} {pv : List Nat} (h : pv.length < r) (hf : fstR c j xs (r - pv.length) pv.length = r) : echC r c (k + 1) j xs pv = echC r c k (j + 1) xs pv := by
  show (if pv.length < r then if fstR c j xs (r - pv.length) pv.length = r then _ else _ else _) = _
  rw [if_pos h, if_pos hf]
theorem echC_none {r c k j p : Nat} {xs : List Int} {pv : List Nat} (h : pv.length < r) (hf : fstR c j xs (r - pv.length) pv.length = p) (hp : p ≠ r) (he : elimR r c pv.length j r 0 (swC p pv.length c xs) = none) : echC r c (k + 1) j xs pv = none := by
  show (if pv.length < r then if fstR c j xs (r - pv.length) pv.length = r then _ else match elimR r c pv.length j r 0 (swC (fstR c j xs (r - pv.length) pv.length) pv.length c xs) with | none => none | some ys => echC r c k (j + 1) ys (pv ++ [j]) else _) = _
  rw [if_pos h, hf, if_neg hp, he]
theorem echC_on {r c k j p : Nat} {xs ys : List Int} {pv : List Nat} (h : pv.length < r) (hf : fstR c j xs (r - pv.length) pv.length = p) (hp : p ≠ r) (he : elimR r c pv.length j r 0 (swC p pv.length c xs) = some ys) : echC r c (k + 1) j xs pv = echC r c k (j + 1) ys (pv ++ [j]) := by
  show (if pv.length < r then if fstR c j xs (r - pv.length) pv.length = r then _ else match elimR r c pv.length j r 0 (swC (fstR c j xs (r - pv.length) pv.length) pv.length c xs) with | none => none | some ys => echC r c k (j + 1) ys (pv ++ [j]) else _) = _
  rw [if_pos h, hf, if_neg hp, he]
theorem rdL_nums {r c t j i : Nat} {xs : List Int} (hx : xs.length = r * c) (hn : nums xs = true) (h2 : rowN c (rdV j (mxC c xs i) (mxC c xs t)) = true) : nums (rdL r c t j i xs) = true := rowL_nums hx hn fun _ hq => prV_num (rowN_iff.mp h2) hq
theorem rdL_length (r c t j i : Nat) (xs : List Int) : (rdL r c t j i xs).length = r * c := tab_length _ _ _
end Go.Proofs.Ytpelnfenfeoeeaa
end

section
/-
  Chapter 7, in the model: a row made primitive.
-/
namespace Go.Proofs.Ytpelnfenfeoeeaa
set_option maxRecDepth 100000
open Go.RowKit

/-- The worlds of the walk: the argument's block, the row's block, nothing else is touched. -/
structure PrSt (w : World) (r c : Nat) (g N cap : Nat) (ys : List Int) (wr : World) : Prop where
  blk : Blk3 wr w.heap.size 26 (.int .i64 r) (.int .i64 c) (.slice (some ⟨g, 0, none⟩) N cap)
  ints : Ints wr g ys
  grw : w.grownBy wr (some g)
theorem PrSt.put {w : World} {r c g N cap : Nat} {ys : List Int} {wr : World} (h : PrSt w r c g N cap ys wr) (hne : w.heap.size ≠ g) (P : Nat) (z : Int) : PrSt w r c g N cap (ys.set P z) (wr.setCell ⟨g, P, none⟩ (.int .i64 z)) := ⟨h.blk.far hne _, h.ints.set P z, grown_set_one h.grw rfl _⟩
theorem PrSt.drewN {w : World} {r c g N cap : Nat} {ys : List Int} {wr : World} (h : PrSt w r c g N cap ys wr) (n : Nat) : PrSt w r c g N cap ys (wr.drewN n) := ⟨h.blk.drewN n, h.ints.drewN n, grown_drewN_one h.grw n⟩
theorem prV_one {c : Nat} {v : Nat → Int} {k : Nat} (h : gcdN c v ≠ 0) : prV c v k = (sgnN c v * v k).tdiv (gcdN c v) := if_neg h
theorem prV_nil {c : Nat} {v : Nat → Int} {k : Nat} (h : gcdN c v = 0) : prV c v k = v k := if_pos h
theorem sgn_step {n : Nat} {f : Nat → Int} : sgnN (n + 1) f = if sgnN n f = 0 ∧ f n ≠ 0 then (if f n < 0 then -1 else 1) else sgnN n f := rfl
end Go.Proofs.Ytpelnfenfeoeeaa
end

section
/-
  A row of ints of a call's own, that append may go on with.
-/
namespace Go.Proofs.Ytpelnfenfeoeeaa
open Go.RowKit

def OwnQ (B : Nat) (w : World) (v : Value) (zs : List Int) : Prop := w.ownsRow B 3 1 v zs.length (zs.map (Value.int .i64))
theorem OwnQ.le {B : Nat} {w : World} {v : Value} {zs : List Int} (h : OwnQ B w v zs) {k : Nat} (hk : v.ownBlock = some k) : B ≤ k := by
  rcases h.2 with ⟨rfl, -⟩ | ⟨g, cap, cur, rfl, hB, -⟩
  · cases hk
  · simp [Value.ownBlock] at hk; omega
theorem OwnQ.move {B : Nat} {w w' : World} {v : Value} {zs : List Int} (h : OwnQ B w v zs) (hb : ∀ k, v.ownBlock = some k → w'.heap[k]? = w.heap[k]?) : OwnQ B w' v zs := by
  obtain ⟨h1, ⟨h2, h3⟩ | ⟨g, cap, cur, rfl, hB, hg, rest⟩⟩ := h
  · exact ⟨h1, .inl ⟨h2, h3⟩⟩
  · exact ⟨h1, .inr ⟨g, cap, cur, rfl, hB, (hb g rfl).trans hg, rest⟩⟩
theorem OwnQ.lt {B : Nat} {w : World} {v : Value} {zs : List Int} (h : OwnQ B w v zs) {k : Nat} (hk : v.ownBlock = some k) : k < w.heap.size := by
  rcases h.2 with ⟨rfl, -⟩ | ⟨g, cap, cur, rfl, hB, hg, -⟩
  · cases hk
  · simp only [Value.ownBlock, Option.some.injEq] at hk
    subst hk
    exact lt_of_block hg
theorem OwnQ.one {B rb : Nat} {w w' : World} {v : Value} {zs : List Int} (h : OwnQ B w v zs) (hg : w.grownBy w' (some rb)) (hr : rb < B) : OwnQ B w' v zs :=
  h.move fun k hk => hg.block k (h.lt hk) (by have := h.le hk; simp; omega)
theorem OwnQ.drewN {B : Nat} {w : World} {v : Value} {zs : List Int} (h : OwnQ B w v zs) (n : Nat) : OwnQ B (w.drewN n) v zs := h
theorem OwnQ.keep {B : Nat} {w w' : World} {v : Value} {zs : List Int} (h : OwnQ B w v zs) (hb : Below w.heap.size w w') : OwnQ B w' v zs := h.move fun k hk => hb.block k (h.lt hk)
theorem OwnQ.lower {B B' : Nat} {w : World} {v : Value} {zs : List Int} (h : OwnQ B w v zs) (hB : B' ≤ B) : OwnQ B' w v zs := by
  obtain ⟨h1, h2 | ⟨g, cap, cur, e, hg, rest⟩⟩ := h
  · exact ⟨h1, .inl h2⟩
  · exact ⟨h1, .inr ⟨g, cap, cur, e, by omega, rest⟩⟩
theorem OwnQ.form {B : Nat} {w : World} {v : Value} {zs : List Int} (h : OwnQ B w v zs) : ∃ a c, v = .slice a zs.length c := by
  obtain ⟨h1, ⟨h2, h3⟩ | ⟨g, cap, cur, e, hB, hg, rest⟩⟩ := h
  · exact ⟨_, _, by rw [h2, h3]⟩
  · exact ⟨_, _, e⟩
theorem OwnQ.own {B : Nat} {w : World} {v : Value} {zs : List Int} (h : OwnQ B w v zs) (hn : zs.length ≤ 16777216) : Own B w v zs := Own.of_row h hn
theorem OwnQ.nil (B : Nat) (w : World) : OwnQ B w (.slice none 0 0) [] := ⟨rfl, .inl ⟨rfl, rfl⟩⟩
theorem OwnQ.none_ {B : Nat} {w : World} {g : Nat} (hB : B ≤ g) (h : IntsC w g 0 []) : OwnQ B w (.slice (some ⟨g, 0, none⟩) 0 0) [] := h.row hB
end Go.Proofs.Ytpelnfenfeoeeaa
end

section
/-
  Plain mathematics of chapter 7: the rank of a matrix turned over; products. Nothing of a program is used.
-/
namespace Go.Proofs.Ytpelnfenfeoeeaa

theorem sumN_skip (n a : Nat) (ha : a < n + 1) (f : Nat → Int) : sumN (n + 1) f = f a + sumN n fun i => f (skp a i) := by
  induction n generalizing a with
  | zero =>
    obtain rfl : a = 0 := by omega
    show sumN 0 f + f 0 = _
    simp [sumN]
  | succ n ih =>
    rcases Nat.lt_or_ge a (n + 1) with h | h
    · have e := ih a h
      have e2 : skp a n = n + 1 := by unfold skp; rw [if_neg (by omega)]
      have : sumN (n + 1) (fun i => f (skp a i)) = sumN n (fun i => f (skp a i)) + f (skp a n) := rfl
      rw [this, e2]
      show sumN (n + 1) f + f (n + 1) = _
      rw [e, Int.add_assoc]
    · obtain rfl : a = n + 1 := by omega
      show sumN (n + 1) f + f (n + 1) = _
      rw [Int.add_comm]
      congr 1
      refine sumN_congr fun i hi => ?_
      unfold skp
      rw [if_pos (by omega)]
/-- More unknowns than equations: there is a solution that is not 0. -/
theorem ker_some : ∀ (t s : Nat) (C : Mx), t < s → ∃ l : Nat → Int, (∃ i, i < s ∧ l i ≠ 0) ∧ ∀ j, j < t → (sumN s fun i => l i * C i j) = 0 := by
  intro t
  induction t with
  | zero => intro s C hs; exact ⟨fun _ => 1, ⟨0, hs, by decide⟩, fun j hj => by omega⟩
  | succ t ih =>
    intro s C hs
    by_cases hz : ∀ i, i < s → C i t = 0
    · obtain ⟨l, hl, h0⟩ := ih s C (by omega)
      refine ⟨l, hl, fun j hj => ?_⟩
      rcases Nat.lt_or_ge j t with h | h
      · exact h0 j h
      · obtain rfl : j = t := by omega
        exact sumN_all_zero fun i hi => by rw [hz i hi, Int.mul_zero]
    · have : ∃ a, a < s ∧ C a t ≠ 0 := Classical.byContradiction fun hn => hz fun i hi => Classical.byContradiction fun h => hn ⟨i, hi, h⟩
      obtain ⟨a, ha, hat⟩ := this
      obtain ⟨s, rfl⟩ : ∃ m, s = m + 1 := ⟨s - 1, by omega⟩
      obtain ⟨l, ⟨b, hb, hlb⟩, h0⟩ := ih s (fun i j => C a t * C (skp a i) j - C (skp a i) t * C a j) (by omega)
      have hself : ∀ i, skp a i ≠ a := fun i => skp_ne a i
      let L : Nat → Int := fun i => if i = a then -(sumN s fun i => l i * C (skp a i) t) else C a t * l (unskp a i)
      have LA : L a = -(sumN s fun i => l i * C (skp a i) t) := if_pos rfl
      have LS : ∀ i, L (skp a i) = C a t * l i := fun i => by
        show (if skp a i = a then _ else _) = _
        rw [if_neg (hself i), unskp_skp]
      refine ⟨L, ⟨skp a b, skp_lt hb, by rw [LS]; exact Int.mul_ne_zero hat hlb⟩, fun j hj => ?_⟩
      rw [sumN_skip s a ha, LA, Int.neg_mul, sumN_mul]
      have e1 : (sumN s fun i => L (skp a i) * C (skp a i) j) = sumN s fun i => C a t * l i * C (skp a i) j := sumN_congr fun i _ => by rw [LS]
      rw [e1]
      rcases Nat.lt_or_ge j t with h | h
      · have := h0 j h
        have e2 : (sumN s fun i => C a t * l i * C (skp a i) j) = sumN s (fun i => l i * (C a t * C (skp a i) j - C (skp a i) t * C a j)) + sumN s (fun i => l i * C (skp a i) t * C a j) := by
          rw [← sumN_add]
          exact sumN_congr fun i _ => by grind
        rw [e2, this]
        omega
      · obtain rfl : j = t := by omega
        have e2 : (sumN s fun i => C a j * l i * C (skp a i) j) = sumN s (fun i => l i * C (skp a i) j * C a j) := sumN_congr fun i _ => by grind
        rw [e2]
        omega
/-- One divisor for all. -/
theorem one_den {r c s : Nat} {A B : Mx} (h : SubSp r s c A B) : ∃ (d : Int) (K : Mx), d ≠ 0 ∧ ∀ i j, i < r → j < c → d * A i j = sumN s fun k => K i k * B k j := by
  induction r with
  | zero => exact ⟨1, fun _ _ => 0, by decide, fun i j hi => by omega⟩
  | succ r ih =>
    obtain ⟨d, K, hd, hK⟩ := ih fun i hi => h i (by omega)
    obtain ⟨e, k, he, hk⟩ := h r (by omega)
    refine ⟨d * e, fun i j => if i = r then d * k j else e * K i j, Int.mul_ne_zero hd he, fun i j hi hj => ?_⟩
    by_cases hir : i = r
    · subst hir
      have e1 : (sumN s fun l => (if i = i then d * k l else e * K i l) * B l j) = sumN s fun l => d * (k l * B l j) := sumN_congr fun l _ => by rw [if_pos rfl, Int.mul_assoc]
      show _ = sumN s fun l => (if i = i then d * k l else e * K i l) * B l j
      rw [e1, ← sumN_mul_left, ← hk j hj, Int.mul_assoc]
    · have e1 : (sumN s fun l => (if i = r then d * k l else e * K i l) * B l j) = sumN s fun l => e * (K i l * B l j) := sumN_congr fun l _ => by rw [if_neg hir, Int.mul_assoc]
      show _ = sumN s fun l => (if i = r then d * k l else e * K i l) * B l j
      rw [e1, ← sumN_mul_left, ← hK i j (by omega) hj]
      grind
/-- An echelon form inside the span of t rows has at most t pivots. -/
theorem Ech.few {r c s : Nat} {B : Mx} {q : Nat → Nat} (h : Ech r c B q s) {t : Nat} {K : Mx} (hs : SubSp r t c B K) : s ≤ t := by
  refine Classical.byContradiction fun hn => ?_
  obtain ⟨d, C, hd, hC⟩ := one_den hs
  obtain ⟨l, ⟨i, hi, hli⟩, h0⟩ := ker_some t s C (by omega)
  have hr : s ≤ r := h.le
  have hz : ∀ j, j < c → (sumN s fun i => l i * (d * B i j)) = 0 := fun j hj => by
    have e : (sumN s fun i => l i * (d * B i j)) = sumN s fun i => sumN t fun k => l i * C i k * K k j := sumN_congr fun i hi => by
      rw [hC i j (by omega) hj, sumN_mul_left]
      exact sumN_congr fun k _ => by rw [Int.mul_assoc]
    rw [e, sumN_swap]
    refine sumN_all_zero fun k hk => ?_
    rw [← sumN_mul, h0 k hk, Int.zero_mul]
  have := hz (q i) (h.col i hi)
  rw [sumN_one hi (fun k hk hne => by rw [h.only i k hi (by omega) hne, Int.mul_zero, Int.mul_zero])] at this
  have hp := h.pos i hi
  rcases Int.mul_eq_zero.mp this with h1 | h1
  · exact hli h1
  · rcases Int.mul_eq_zero.mp h1 with h2 | h2
    · exact hd h2
    · omega
theorem rank_tr_le {r c t s : Nat} {M A B : Mx} {p q : Nat → Nat} (hA : Ech r c A p t) (hMA : SubSp r r c M A) (hB : Ech c r B q s) (hBM : SubSp c c r B (trX M)) : s ≤ t := by
  -- the rows of A behind the pivots' are 0
  have hMA' : SubSp r t c M A := fun i hi => by
    obtain ⟨d, k, hd, hk⟩ := hMA i hi
    refine ⟨d, k, hd, fun j hj => ?_⟩
    rw [hk j hj]
    obtain ⟨m, hm⟩ : ∃ m, r = t + m := ⟨r - t, by have := hA.le; omega⟩
    have key : ∀ m, t + m ≤ r → (sumN (t + m) fun i => k i * A i j) = sumN t fun i => k i * A i j := by
      intro m
      induction m with
      | zero => intro _; rfl
      | succ m ih =>
        intro h
        show sumN (t + m) _ + k (t + m) * A (t + m) j = _
        rw [ih (by omega), hA.rest (t + m) j (by omega) (by omega) hj, Int.mul_zero, Int.add_zero]
    rw [hm]
    exact key m (by omega)
  obtain ⟨d, K, hd, hK⟩ := one_den hMA'
  have hsub : SubSp c t r (trX M) (trX K) := fun j hj => ⟨d, fun k => A k j, hd, fun i hi => by
    show d * M i j = sumN t fun k => A k j * K i k
    rw [hK i j hi hj]
    exact sumN_congr fun k _ => Int.mul_comm _ _⟩
  exact hB.few (hBM.trans hsub)
/-- The rank of a matrix turned over is that of the matrix. -/
theorem rank_tr {r c t s : Nat} {M A B : Mx} {p q : Nat → Nat} (hA : Ech r c A p t) (hMA : SubSp r r c M A) (hAM : SubSp r r c A M) (hB : Ech c r B q s) (hBM : SubSp c c r B (trX M)) (hMB : SubSp c c r (trX M) B) : s = t := by
  have h1 := rank_tr_le hA hMA hB hBM
  have h2 := rank_tr_le (M := trX M) hB hMB hA hAM
  omega
/-- The rows of a product are in the span of the right factor's. -/
theorem sub_mul {n c : Nat} (U M : Mx) : SubSp n n c (mulX n U M) M := fun i _ => ⟨1, U i, by decide, fun j _ => by rw [Int.one_mul]; rfl⟩
theorem mul_sub {n c : Nat} {U M V : Mx} {d : Int} (hd : d ≠ 0) (h : ∀ i k, i < n → k < n → mulX n V U i k = if i = k then d else 0) : SubSp n n c M (mulX n U M) := fun i hi => by
  refine ⟨d, V i, hd, fun j hj => ?_⟩
  have e : (sumN n fun k => V i k * mulX n U M k j) = sumN n fun l => mulX n V U i l * M l j := by
    have e1 : (sumN n fun k => V i k * mulX n U M k j) = sumN n fun k => sumN n fun l => V i k * U k l * M l j := sumN_congr fun k _ => by
      show V i k * sumN n _ = _
      rw [sumN_mul_left]
      exact sumN_congr fun l _ => by rw [Int.mul_assoc]
    rw [e1, sumN_swap]
    refine sumN_congr fun l _ => ?_
    show _ = sumN n _ * M l j
    rw [sumN_mul]
  rw [e, sumN_one hi (fun l hl hne => by rw [h i l hi hl, if_neg (fun e => hne e.symm), Int.zero_mul]), h i i hi hi, if_pos rfl]
/-- A product with a factor whose determinant is not 0 spans what the other factor spans. -/
theorem span_mul {n c : Nat} {U M : Mx} (h : det n U ≠ 0) : SubSp n n c M (mulX n U M) := by
  cases n with
  | zero => intro i hi; omega
  | succ n => exact mul_sub h (fun i k hi hk => adj_mul n U i k hi hk)
/-- Two matrices, one on top of the other. -/
def stkX (r : Nat) (A B : Mx) : Mx := fun i j => if i < r then A i j else B (i - r) j
theorem stk_left {r s c : Nat} {A B : Mx} : SubSp r (r + s) c A (stkX r A B) := fun i hi => (InSp.row (A := stkX r A B) (show i < r + s by omega)).congr fun j _ => by show A i j = if i < r then _ else _; rw [if_pos hi]
theorem stk_right {r s c : Nat} {A B : Mx} : SubSp s (r + s) c B (stkX r A B) := fun i hi => (InSp.row (A := stkX r A B) (show r + i < r + s by omega)).congr fun j _ => by
  show B i j = if r + i < r then _ else B (r + i - r) j
  rw [if_neg (by omega), show r + i - r = i by omega]
theorem stk_sub {r s t c : Nat} {A B C : Mx} (h : SubSp r t c A C) (h' : SubSp s t c B C) : SubSp (r + s) t c (stkX r A B) C := fun i hi => by
  by_cases e : i < r
  · exact (h i e).congr fun j _ => by show (if i < r then _ else _) = _; rw [if_pos e]
  · exact (h' (i - r) (by omega)).congr fun j _ => by show (if i < r then _ else _) = _; rw [if_neg e]
end Go.Proofs.Ytpelnfenfeoeeaa
end

section
/-
  Plain mathematics of chapter 7: what the laws ask of echelon forms. Nothing of a program is used.
-/
namespace Go.Proofs.Ytpelnfenfeoeeaa

theorem elimR_fix {r c t j : Nat} {xs : List Int} : ∀ (k i : Nat), (∀ p, i ≤ p → p < i + k → p = t ∨ mxC c xs p j = 0) → elimR r c t j k i xs = some xs := by
  intro k
  induction k with
  | zero => intro i _; rfl
  | succ k ih =>
    intro i h
    show (if i = t ∨ mxC c xs i j = 0 then elimR r c t j k (i + 1) xs else _) = _
    rw [if_pos (h i (Nat.le_refl _) (by omega))]
    exact ih (i + 1) fun p h1 h2 => h p (by omega) (by omega)
theorem map_getD {t : Nat} {p : Nat → Nat} {i : Nat} (hi : i < t) : ((List.range t).map p).getD i 0 = p i := by simp [List.getD, hi]
theorem echC_fix {r c t : Nat} {xs : List Int} {p : Nat → Nat} (h : Ech r c (mxC c xs) p t) : ∀ (k j m : Nat), j + k = c → m ≤ t → (∀ i, i < m → p i < j) → (m < t → j ≤ p m) → echC r c k j xs ((List.range m).map p) = some (xs, (List.range t).map p) := by
  intro k
  induction k with
  | zero =>
    intro j m hjk hm _ h2
    have : m = t := by
      rcases Nat.lt_or_ge m t with h3 | h3
      · have := h2 h3; have := h.col m h3; omega
      · omega
    rw [this]; rfl
  | succ k ih =>
    intro j m hjk hm h1 h2
    have hl : ((List.range m).map p).length = m := by simp
    show (if ((List.range m).map p).length < r then
      if fstR c j xs (r - ((List.range m).map p).length) ((List.range m).map p).length = r then echC r c k (j + 1) xs ((List.range m).map p)
      else match elimR r c ((List.range m).map p).length j r 0 (swC (fstR c j xs (r - ((List.range m).map p).length) ((List.range m).map p).length) ((List.range m).map p).length c xs) with
        | none => none
        | some ys => echC r c k (j + 1) ys ((List.range m).map p ++ [j])
    else some (xs, (List.range m).map p)) = _
    rw [hl]
    have hle := h.le
    by_cases hmr : m < r
    · rw [if_pos hmr]
      by_cases hp : m < t ∧ p m = j
      · obtain ⟨hmt, hpm⟩ := hp
        have hpos := h.pos m hmt
        rw [hpm] at hpos
        have hf : fstR c j xs (r - m) m = m := fstR_eq (Nat.le_refl _) (by omega) (fun i h3 h4 => by omega) (fun _ => by omega)
        rw [hf, if_neg (by omega)]
        have hs : swC m m c xs = xs := by unfold swC; rw [if_pos rfl]
        have he : elimR r c m j r 0 xs = some xs := elimR_fix r 0 fun q _ hq => by
          by_cases e : q = m
          · exact .inl e
          · right
            have := h.only m q hmt (by omega) e
            rw [hpm] at this
            exact this
        rw [hs, he]
        show echC r c k (j + 1) xs ((List.range m).map p ++ [j]) = _
        have e : (List.range m).map p ++ [j] = (List.range (m + 1)).map p := by rw [List.range_succ, List.map_append, List.map_cons, List.map_nil, hpm]
        rw [e]
        refine ih (j + 1) (m + 1) (by omega) hmt (fun i hi => ?_) (fun h3 => ?_)
        · rcases Nat.lt_or_ge i m with h4 | h4
          · have := h1 i h4; omega
          · obtain rfl : i = m := by omega
            omega
        · have := h.inc m (m + 1) (by omega) h3
          omega
      · have hz : ∀ i, m ≤ i → i < r → mxC c xs i j = 0 := fun i h3 h4 => by
          rcases Nat.lt_or_ge i t with h5 | h5
          · have h6 : m < t := by omega
            have h7 := h2 h6
            have h8 : j < p m := by
              have : p m ≠ j := fun e => hp ⟨h6, e⟩
              omega
            rcases Nat.lt_or_ge m i with h9 | h9
            · have := h.inc m i h9 h5
              exact h.left i j h5 (by omega)
            · obtain rfl : i = m := by omega
              exact h.left i j h5 h8
          · exact h.rest i j h5 h4 (by omega)
        have hf : fstR c j xs (r - m) m = r := fstR_eq (by omega) (by omega) (fun i h3 h4 => hz i h3 h4) (fun h3 => by omega)
        rw [hf, if_pos rfl]
        refine ih (j + 1) m (by omega) hm (fun i hi => by have := h1 i hi; omega) (fun h3 => ?_)
        have h4 := h2 h3
        have : p m ≠ j := fun e => hp ⟨h3, e⟩
        omega
    · rw [if_neg hmr]
      have : m = t := by omega
      rw [this]
theorem prTo_fix {r c : Nat} {xs : List Int} (hx : xs.length = r * c) (hn : ∀ i, i < r → Norm c (mxC c xs i)) : prTo r c r xs = xs := by
  refine (tab_ext hx fun i j hi hj => ?_).symm
  rw [if_pos hi, prV_id (hn i hi) hj]
  rfl
theorem pv_map {pv : List Nat} : (List.range pv.length).map (fun k => pv.getD k 0) = pv := by
  refine List.ext_getElem (by simp) fun i h1 h2 => ?_
  simp [List.getD, h2]
/-- An echelon form stays us it is. -/
theorem echM_fix {r c : Nat} {xs ys : List Int} {pv : List Nat} (hx : xs.length = r * c) (hn : nums xs = true) (h : echM r c xs = some (ys, pv)) : echM r c ys = some (ys, pv) := by
  obtain ⟨he, -, -, hl, -, hm⟩ := echM_says hx hn h
  unfold echM
  rw [prTo_fix hl hm]
  have := echC_fix he c 0 0 (by omega) (Nat.zero_le _) (fun i hi => by omega) (fun _ => Nat.zero_le _)
  rw [pv_map] at this
  exact this
theorem mx_ext {r c : Nat} {xs ys : List Int} (hx : xs.length = r * c) (hy : ys.length = r * c) (h : ∀ i j, i < r → j < c → mxC c xs i j = mxC c ys i j) : xs = ys := by
  have e1 := tab_ext (r := r) (c := c) (f := mxC c ys) hx h
  have e2 := tab_ext (r := r) (c := c) (f := mxC c ys) hy (fun _ _ _ _ => rfl)
  rw [e1]; exact e2.symm
theorem ech_same {r c : Nat} {xs ys us vs : List Int} {p q : List Nat} (hx : xs.length = r * c) (hxn : nums xs = true) (hy : ys.length = r * c) (hyn : nums ys = true) (ha : echM r c xs = some (us, p)) (hb : echM r c ys = some (vs, q)) (h1 : SubSp r r c (mxC c xs) (mxC c ys)) (h2 : SubSp r r c (mxC c ys) (mxC c xs)) : us = vs ∧ p = q := by
  obtain ⟨ea, ta, fa, la, -, -⟩ := echM_says hx hxn ha
  obtain ⟨eb, tb, fb, lb, -, -⟩ := echM_says hy hyn hb
  obtain ⟨u1, u2, u3⟩ := ea.uniq eb (ta.trans (h1.trans fb)) (tb.trans (h2.trans fa))
  refine ⟨mx_ext la lb fun i j hi hj => ?_, List.ext_getElem u1 fun i h3 h4 => ?_⟩
  · rcases Nat.lt_or_ge i p.length with h | h
    · exact (u3 i j h hj).symm
    · rw [ea.rest i j h hi hj, eb.rest i j (by omega) hi hj]
  · have := u2 i h3
    simpa [List.getD, h3, h4] using this.symm
/-- The rank of a matrix turned over. -/
theorem ech_turn {r c : Nat} {xs ys us vs : List Int} {p q : List Nat} (hx : xs.length = r * c) (hxn : nums xs = true) (hy : ys.length = c * r) (hyn : nums ys = true) (ht : ∀ i j, i < c → j < r → mxC r ys i j = mxC c xs j i) (ha : echM r c xs = some (us, p)) (hb : echM c r ys = some (vs, q)) : q.length = p.length := by
  obtain ⟨ea, ta, fa, -, -, -⟩ := echM_says hx hxn ha
  obtain ⟨eb, tb, fb, -, -, -⟩ := echM_says hy hyn hb
  have h1 : SubSp c c r (trX (mxC c xs)) (mxC r ys) := fun i hi => (InSp.row (A := mxC r ys) hi).congr fun j hj => (ht i j hi hj).symm
  have h2 : SubSp c c r (mxC r ys) (trX (mxC c xs)) := fun i hi => (InSp.row (A := trX (mxC c xs)) hi).congr fun j hj => ht i j hi hj
  exact rank_tr ea fa ta eb (tb.trans h2) (h1.trans fb)
/-- The first rows that are not zeros are equal. -/
def sameTop (c : Nat) (us vs : List Int) (p q : List Nat) : Bool := decide (p.length = q.length) && decide (∀ i, i < p.length * c → us.getD i 0 = vs.getD i 0)
theorem top_at {c t : Nat} {us vs : List Int} (h : ∀ i, i < t * c → us.getD i 0 = vs.getD i 0) {i j : Nat} (hi : i < t) (hj : j < c) : mxC c us i j = mxC c vs i j := h _ (idx_lt hi hj)
theorem sameTop_iff {r s c : Nat} {xs ys us vs : List Int} {p q : List Nat} (hx : xs.length = r * c) (hxn : nums xs = true) (hy : ys.length = s * c) (hyn : nums ys = true) (ha : echM r c xs = some (us, p)) (hb : echM s c ys = some (vs, q)) : sameTop c us vs p q = true ↔ SubSp r s c (mxC c xs) (mxC c ys) ∧ SubSp s r c (mxC c ys) (mxC c xs) := by
  obtain ⟨ea, ta, fa, la, -, -⟩ := echM_says hx hxn ha
  obtain ⟨eb, tb, fb, lb, -, -⟩ := echM_says hy hyn hb
  unfold sameTop
  rw [Bool.and_eq_true, decide_eq_true_eq, decide_eq_true_eq]
  constructor
  · rintro ⟨h1, h2⟩
    have s1 : SubSp r s c (mxC c us) (mxC c vs) := fun i hi => by
      rcases Nat.lt_or_ge i p.length with h | h
      · exact (InSp.row (A := mxC c vs) (show i < s by have := eb.le; omega)).congr fun j hj => top_at h2 h hj
      · exact (InSp.zero s c _).congr fun j hj => ea.rest i j h hi hj
    have s2 : SubSp s r c (mxC c vs) (mxC c us) := fun i hi => by
      rcases Nat.lt_or_ge i p.length with h | h
      · exact (InSp.row (A := mxC c us) (show i < r by have := ea.le; omega)).congr fun j hj => (top_at h2 h hj).symm
      · exact (InSp.zero r c _).congr fun j hj => eb.rest i j (by omega) hi hj
    exact ⟨fa.trans (s1.trans tb), fb.trans (s2.trans ta)⟩
  · rintro ⟨h1, h2⟩
    obtain ⟨u1, -, u3⟩ := ea.uniq eb (ta.trans (h1.trans fb)) (tb.trans (h2.trans fa))
    refine ⟨u1, fun i hi => ?_⟩
    have hc : 0 < c := by
      rcases Nat.eq_zero_or_pos c with e | e
      · rw [e, Nat.mul_zero] at hi; omega
      · exact e
    have e : i = i / c * c + i % c := by rw [Nat.mul_comm]; exact (Nat.div_add_mod i c).symm
    have h3 : i / c < p.length := Nat.div_lt_of_lt_mul (by rw [Nat.mul_comm]; exact hi)
    have := u3 (i / c) (i % c) h3 (Nat.mod_lt i hc)
    unfold mxC at this
    rw [← e] at this
    exact this.symm
/-- Two matrices span one space just if the rank does not grow where they are put together. -/
theorem spaces_law {r s c : Nat} {xs ys zs us vs ws : List Int} {p q u : List Nat} (hx : xs.length = r * c) (hxn : nums xs = true) (hy : ys.length = s * c) (hyn : nums ys = true) (hz : zs.length = (r + s) * c) (hzn : nums zs = true) (hst : ∀ i j, i < r + s → j < c → mxC c zs i j = stkX r (mxC c xs) (mxC c ys) i j)
    (ha : echM r c xs = some (us, p)) (hb : echM s c ys = some (vs, q)) (hc : echM (r + s) c zs = some (ws, u)) : sameTop c us vs p q = (decide (p.length = u.length) && decide (q.length = u.length)) := by
  obtain ⟨ea, ta, fa, -, -, -⟩ := echM_says hx hxn ha
  obtain ⟨eb, tb, fb, -, -, -⟩ := echM_says hy hyn hb
  obtain ⟨ec, tc, fc, -, -, -⟩ := echM_says hz hzn hc
  have z1 : SubSp (r + s) (r + s) c (mxC c zs) (stkX r (mxC c xs) (mxC c ys)) := fun i hi => (InSp.row (A := stkX r (mxC c xs) (mxC c ys)) hi).congr fun j hj => hst i j hi hj
  have z2 : SubSp (r + s) (r + s) c (stkX r (mxC c xs) (mxC c ys)) (mxC c zs) := fun i hi => (InSp.row (A := mxC c zs) hi).congr fun j hj => (hst i j hi hj).symm
  have xz : SubSp r (r + s) c (mxC c xs) (mxC c zs) := stk_left.trans z2
  have yz : SubSp s (r + s) c (mxC c ys) (mxC c zs) := stk_right.trans z2
  have ac : SubSp r (r + s) c (mxC c us) (mxC c ws) := ta.trans (xz.trans fc)
  have bc : SubSp s (r + s) c (mxC c vs) (mxC c ws) := tb.trans (yz.trans fc)
  rw [Bool.eq_iff_iff, sameTop_iff hx hxn hy hyn ha hb, Bool.and_eq_true, decide_eq_true_eq, decide_eq_true_eq]
  constructor
  · rintro ⟨h1, h2⟩
    have zx : SubSp (r + s) r c (mxC c zs) (mxC c xs) := z1.trans (stk_sub (SubSp.refl _ _ _) h2)
    have zy : SubSp (r + s) s c (mxC c zs) (mxC c ys) := z1.trans (stk_sub h1 (SubSp.refl _ _ _))
    have a1 := ea.count ec ac
    have a2 := ec.count ea (tc.trans (zx.trans fa))
    have b1 := eb.count ec bc
    have b2 := ec.count eb (tc.trans (zy.trans fb))
    exact ⟨by omega, by omega⟩
  · rintro ⟨h1, h2⟩
    have ca : SubSp (r + s) r c (mxC c ws) (mxC c us) := by
      rw [← h1] at ec
      exact ea.whole ec ac
    have cb : SubSp (r + s) s c (mxC c ws) (mxC c vs) := by
      rw [← h2] at ec
      exact eb.whole ec bc
    exact ⟨xz.trans (fc.trans (cb.trans tb)), yz.trans (fc.trans (ca.trans ta))⟩
end Go.Proofs.Ytpelnfenfeoeeaa
end

section
/-
  Chapter 7, in the model: the elimination.
-/
namespace Go.Proofs.Ytpelnfenfeoeeaa
set_option maxRecDepth 100000
open Go.RowKit

def pvI (pv : List Nat) : List Int := pv.map fun (k : Nat) => (k : Int)
/-- The worlds of the walk: the copy, the result's block, the pivots. -/
structure EcSt (w : World) (B b rb r c g N cap : Nat) (ys : List Int) (v : Value) (pv : List Nat) (wr : World) : Prop where
  blk : Blk3 wr b 26 (.int .i64 r) (.int .i64 c) (.slice (some ⟨g, 0, none⟩) N cap)
  ret : Blk3 wr rb 26 (.int .i64 0) (.int .i64 0) (.slice none 0 0)
  ints : Ints wr g ys
  own : OwnQ B wr v (pvI pv)
  bel : Below w.heap.size w wr
  le : B ≤ wr.heap.size
theorem EcSt.one {w : World} {B b rb r c g N cap : Nat} {ys ys' : List Int} {v : Value} {pv : List Nat} {wr w' : World} (h : EcSt w B b rb r c g N cap ys v pv wr) (hi : Ints w' g ys') (hg : wr.grownBy w' (some g)) (hb : b ≠ g) (hr : rb ≠ g) (hB : g < B) (hw : w.heap.size ≤ g) : EcSt w B b rb r c g N cap ys' v pv w' :=
  ⟨h.blk.keepOne hg hb, h.ret.keepOne hg hr, hi, h.own.one hg hB, h.bel.trans (below_of_one hg hw h.bel.size), Nat.le_trans h.le hg.size⟩
theorem EcSt.put {w : World} {B b rb r c g N cap : Nat} {ys : List Int} {v : Value} {pv : List Nat} {wr : World} (h : EcSt w B b rb r c g N cap ys v pv wr) (hb : b ≠ g) (hr : rb ≠ g) (hB : g < B) (hw : w.heap.size ≤ g) (P : Nat) (z : Int) : EcSt w B b rb r c g N cap (ys.set P z) v pv (wr.setCell ⟨g, P, none⟩ (.int .i64 z)) :=
  h.one (h.ints.set P z) (grown_set_one (World.grownBy.refl _ _) rfl _) hb hr hB hw
theorem EcSt.drewN {w : World} {B b rb r c g N cap : Nat} {ys : List Int} {v : Value} {pv : List Nat} {wr : World} (h : EcSt w B b rb r c g N cap ys v pv wr) (n : Nat) : EcSt w B b rb r c g N cap ys v pv (wr.drewN n) :=
  ⟨h.blk.drewN n, h.ret.drewN n, h.ints.drewN n, h.own.drewN n, below_drewN h.bel n, h.le⟩
theorem prL_self {r c i : Nat} {xs : List Int} (hx : xs.length = r * c) (h : i < r → Norm c (mxC c xs i)) : prL r c i xs = xs := by
  rw [prL_row]
  exact rowL_self hx fun hi q hq => prV_id (h hi) hq
theorem EcSt.drew {w : World} {B b rb r c g N cap : Nat} {ys : List Int} {v : Value} {pv : List Nat} {wr : World} (h : EcSt w B b rb r c g N cap ys v pv wr) : EcSt w B b rb r c g N cap ys v pv wr.drew := h.drewN 1
/-- What the elimination gives. -/
def EchP (w : World) (r c : Nat) (o : Option (List Int × List Nat)) (e : Ending) (w' : World) : Prop :=
  (∃ (va vb : Value) (ys : List Int) (pv : List Nat), o = some (ys, pv) ∧ e = .returned (.tuple #[.agg #[.int .i64 r, .int .i64 c, va], vb, .bool true]) ∧ Own w.heap.size w' va ys ∧ Own w.heap.size w' vb (pvI pv) ∧ (∀ k, va.ownBlock = some k → vb.ownBlock ≠ some k) ∧ Below w.heap.size w w')
  ∨ (∃ vb : Value, o = none ∧ e = .returned (.tuple #[.agg #[.int .i64 0, .int .i64 0, .slice none 0 0], vb, .bool false]) ∧ Own w.heap.size w' vb [] ∧ Below w.heap.size w w')
theorem OwnQ.far {B : Nat} {w : World} {v : Value} {zs : List Int} (h : OwnQ B w v zs) {a : Addr} (ha : a.block < B) (u : Value) : OwnQ B (w.setCell a u) v zs :=
  h.move fun k hk => Below.heap_setCell w a u k (by have := h.le hk; omega)
theorem pvI_length (pv : List Nat) : (pvI pv).length = pv.length := List.length_map ..
theorem EcSt.end_ {w : World} {B b rb r c g N cap : Nat} {ys : List Int} {q : Option Addr} {n qc : Nat} {pv : List Nat} {wr : World} (h : EcSt w B b rb r c g N cap ys (.slice q n qc) pv wr) (hl : ys.length = N) (hcap : N ≤ cap) (hN : N ≤ 576) (hpv : pv.length ≤ 24) (hgB : g < B) (hw : w.heap.size ≤ g) (hrw : w.heap.size ≤ rb) (hrg : rb ≠ g) (hrB : rb < B) (x y z : Value) :
    EchP w r c (some (ys, pv)) (.returned (.tuple #[.agg #[.int .i64 r, .int .i64 c, .slice (some ⟨g, 0, none⟩) N cap], .slice q n qc, .bool true])) (((wr.setCell ⟨rb, 0, none⟩ x).setCell ⟨rb, 1, none⟩ y).setCell ⟨rb, 2, none⟩ z) := by
  refine .inl ⟨_, _, ys, pv, rfl, rfl, .inr ⟨g, cap, by rw [hl], hw, ?_, by omega, by omega⟩, ?_, fun k hk e => ?_, ?_⟩
  · exact ((h.ints.far (a := ⟨rb, 0, none⟩) hrg.symm x).far (a := ⟨rb, 1, none⟩) hrg.symm y).far (a := ⟨rb, 2, none⟩) hrg.symm z
  · exact ((((h.own.far (a := ⟨rb, 0, none⟩) hrB x).far (a := ⟨rb, 1, none⟩) hrB y).far (a := ⟨rb, 2, none⟩) hrB z).lower (by omega)).own (by rw [pvI_length]; omega)
  · simp only [Value.ownBlock, Option.some.injEq] at hk
    have := h.own.le e
    omega
  · exact ((h.bel.setCell hrw x).setCell hrw y).setCell hrw z
theorem EcSt.bad {w : World} {B b rb r c g N cap : Nat} {ys : List Int} {v : Value} {pv : List Nat} {wr : World} (h : EcSt w B b rb r c g N cap ys v pv wr) (hw : w.heap.size ≤ B) (hrw : w.heap.size ≤ rb) (hrB : rb < B) (x y z : Value) :
    EchP w r c none (.returned (.tuple #[.agg #[.int .i64 0, .int .i64 0, .slice none 0 0], .slice (some ⟨wr.heap.size, 0, none⟩) 0 0, .bool false])) ((((wr.alloc (.cells #[] 3)).setCell ⟨rb, 0, none⟩ x).setCell ⟨rb, 1, none⟩ y).setCell ⟨rb, 2, none⟩ z) := by
  have hl := h.le
  have o : OwnQ B (wr.alloc (.cells #[] 3)) (.slice (some ⟨wr.heap.size, 0, none⟩) 0 0) [] := OwnQ.none_ h.le ⟨Nat.zero_le _, [], rfl, heap_alloc_new wr _⟩
  refine .inr ⟨_, rfl, rfl, ?_, ?_⟩
  · exact ((((o.far (a := ⟨rb, 0, none⟩) hrB x).far (a := ⟨rb, 1, none⟩) hrB y).far (a := ⟨rb, 2, none⟩) hrB z).lower hw).own (by simp)
  · exact (((h.bel.alloc h.bel.size _).setCell hrw x).setCell hrw y).setCell hrw z
theorem tdiv_bb {x y b : Int} (h1 : -b ≤ x) (h2 : x ≤ b) : -b ≤ x.tdiv y ∧ x.tdiv y ≤ b := by
  have h := Int.natAbs_tdiv_le_natAbs x y
  omega
theorem swC_nums {r c p t : Nat} {xs : List Int} (hx : xs.length = r * c) (hn : nums xs = true) (hp : p < r) (ht : t < r) : nums (swC p t c xs) = true := nums_true fun k hk => by
  rw [swC_length, hx] at hk
  have hc : 0 < c := by
    rcases Nat.eq_zero_or_pos c with e | e
    · subst e; omega
    · exact e
  have e : k = k / c * c + k % c := by rw [Nat.mul_comm]; exact (Nat.div_add_mod k c).symm
  have h1 : k / c < r := Nat.div_lt_of_lt_mul (by rw [Nat.mul_comm]; exact hk)
  have := swC_at (p := p) (t := t) hx h1 (Nat.mod_lt k hc)
  unfold mxC at this
  rw [e, this]
  refine mx_nums hx hn ?_ (Nat.mod_lt k hc)
  split
  · exact ht
  · split <;> omega
theorem EcSt.app {w : World} {B b rb r c g N cap : Nat} {ys : List Int} {v v' : Value} {pv pv' : List Nat} {wr w' : World} (h : EcSt w B b rb r c g N cap ys v pv wr) {o : Obj} (hg : (wr.alloc o).grownBy w' v.ownBlock) (ho : OwnQ B w' v' (pvI pv')) (hb : b < B) (hr : rb < B) (hgB : g < B) (hw : w.heap.size ≤ B) : EcSt w B b rb r c g N cap ys v' pv' w' := by
  have keep : ∀ k, k < B → k < wr.heap.size → w'.heap[k]? = wr.heap[k]? := fun k hk hl => (hg.block k (by simp; omega) (fun e => by have := h.own.le e.symm; omega)).trans (Below.heap_alloc wr o k hl)
  have hs := hg.size
  simp at hs
  have hl := h.le
  exact ⟨(keep b hb h.blk.lt).trans h.blk, (keep rb hr h.ret.lt).trans h.ret, h.ints.move (keep g hgB h.ints.lt), ho, h.bel.trans ⟨hg.os, hg.tape, hg.output, by omega, fun k hk => keep k (by omega) (by omega)⟩, by omega⟩
end Go.Proofs.Ytpelnfenfeoeeaa
end

section
/-
  Chapter 7, in the model: EchelonOf, RankOf.
-/
namespace Go.Proofs.Ytpelnfenfeoeeaa
set_option maxRecDepth 100000
open Go.RowKit

/-- What EchelonOf gives: a matrix, its pivots, whether there is such a form in range. -/
structure ER where
  r : Int
  c : Int
  zs : List Int
  pv : List Int
  ok : Bool
def ER.no : ER := ⟨0, 0, [], [], false⟩
def ER.of (r c : Int) : Option (List Int × List Nat) → ER
  | some (ys, pv) => ⟨r, c, ys, pvI pv, true⟩
  | none => ER.no
def echR (r c : Int) (xs : List Int) : ER := if isMat r c xs = true then ER.of r c (echM r.toNat c.toNat xs) else ER.no
def EchG (w : World) (R : ER) (e : Ending) (w' : World) : Prop :=
  ∃ (va vb : Value), e = .returned (.tuple #[.agg #[.int .i64 R.r, .int .i64 R.c, va], vb, .bool R.ok]) ∧ Own w.heap.size w' va R.zs ∧ Own w.heap.size w' vb R.pv ∧ (∀ k, va.ownBlock = some k → vb.ownBlock ≠ some k) ∧ Below w.heap.size w w'
theorem EchP.g {w : World} {r c : Nat} {o : Option (List Int × List Nat)} {e : Ending} {w' : World} (h : EchP w r c o e w') : EchG w (ER.of r c o) e w' := by
  rcases h with ⟨va, vb, ys, pv, rfl, rfl, h1, h2, h3, h4⟩ | ⟨vb, rfl, rfl, h2, h4⟩
  · exact ⟨va, vb, rfl, h1, h2, h3, h4⟩
  · exact ⟨_, vb, rfl, .inl ⟨rfl, rfl⟩, h2, fun k hk => by simp [Value.ownBlock] at hk, h4⟩
theorem Own.far' {B : Nat} {w : World} {v : Value} {zs : List Int} (h : Own B w v zs) {a : Addr} (ha : a.block < B) (u : Value) : Own B (w.setCell a u) v zs := by
  rcases h with h | ⟨g, cap, hv, hB, hi, hl, hc⟩
  · exact .inl h
  · exact .inr ⟨g, cap, hv, hB, hi.far (by omega) u, hl, hc⟩
theorem Own.far3' {B b : Nat} {w : World} {v : Value} {zs : List Int} (h : Own B w v zs) (hb : b < B) (x y z : Value) : Own B (((w.setCell ⟨b, 0, none⟩ x).setCell ⟨b, 1, none⟩ y).setCell ⟨b, 2, none⟩ z) v zs :=
  ((h.far' (a := ⟨b, 0, none⟩) hb x).far' (a := ⟨b, 1, none⟩) hb y).far' (a := ⟨b, 2, none⟩) hb z
end Go.Proofs.Ytpelnfenfeoeeaa
end

section
/-
  Chapter 7, in the model: SameSpace.
-/
namespace Go.Proofs.Ytpelnfenfeoeeaa
set_option maxRecDepth 100000
open Go.RowKit

theorem echR_ok {r c : Int} {xs : List Int} (h : (echR r c xs).ok = true) : isMat r c xs = true ∧ ∃ (R C : Nat) (ys : List Int) (pv : List Nat), r = R ∧ c = C ∧ R ≤ 24 ∧ C ≤ 24 ∧ xs.length = R * C ∧ nums xs = true ∧ echM R C xs = some (ys, pv) ∧ echR r c xs = ⟨R, C, ys, pvI pv, true⟩ ∧ ys.length = R * C ∧ pv.length ≤ R := by
  unfold echR at h
  by_cases hm : isMat r c xs = true
  · rw [if_pos hm] at h
    obtain ⟨⟨r0, r1⟩, ⟨c0, c1⟩, hl, nx⟩ := isMat_says hm
    obtain ⟨R, rfl⟩ := Int.eq_ofNat_of_zero_le r0
    obtain ⟨C, rfl⟩ := Int.eq_ofNat_of_zero_le c0
    have hx : xs.length = R * C := by rw [← Int.natCast_mul] at hl; omega
    have e1 : echR R C xs = ER.of R C (echM R C xs) := if_pos hm
    cases he : echM R C xs with
    | none =>
      have h2 : (ER.of R C (echM R C xs)).ok = true := h
      rw [he] at h2; exact absurd h2 (by simp [ER.of, ER.no])
    | some o =>
      obtain ⟨ys, pv⟩ := o
      obtain ⟨h1, -, -, h4, -, -⟩ := echM_says hx nx he
      rw [he] at e1
      exact ⟨hm, R, C, ys, pv, rfl, rfl, by omega, by omega, hx, nx, he, e1, h4, h1.le⟩
  · rw [if_neg hm] at h; exact absurd h (by simp [ER.no])
def spOf (r c : Int) (xs : List Int) (r2 c2 : Int) (ys : List Int) : Bool × Bool :=
  if (echR r c xs).ok = true ∧ (echR r2 c2 ys).ok = true ∧ c = c2 then
    (decide ((echR r c xs).pv.length = (echR r2 c2 ys).pv.length) && decide (∀ i, i < (echR r c xs).pv.length * c.toNat → (echR r c xs).zs.getD i 0 = (echR r2 c2 ys).zs.getD i 0), true)
  else (false, false)
structure SpSt (w : World) (s2 x y : Nat) (r c r2 c2 : Int) (a a2 qa qd : Option Addr) (L m L2 m2 ca cd : Nat) (A D : ER) (wr : World) : Prop where
  b1 : Blk3 wr w.heap.size 26 (.int .i64 r) (.int .i64 c) (.slice a L m)
  b2 : Blk3 wr s2 26 (.int .i64 r2) (.int .i64 c2) (.slice a2 L2 m2)
  bx : Blk3 wr x 26 (.int .i64 A.r) (.int .i64 A.c) (.slice qa A.zs.length ca)
  by_ : Blk3 wr y 26 (.int .i64 D.r) (.int .i64 D.c) (.slice qd D.zs.length cd)
  rx : Rd wr qa A.zs
  ry : Rd wr qd D.zs
  bel : Below w.heap.size w wr
theorem SpSt.drewN {w : World} {s2 x y : Nat} {r c r2 c2 : Int} {a a2 qa qd : Option Addr} {L m L2 m2 ca cd : Nat} {A D : ER} {wr : World} (h : SpSt w s2 x y r c r2 c2 a a2 qa qd L m L2 m2 ca cd A D wr) (n : Nat) : SpSt w s2 x y r c r2 c2 a a2 qa qd L m L2 m2 ca cd A D (wr.drewN n) :=
  ⟨h.b1.drewN n, h.b2.drewN n, h.bx.drewN n, h.by_.drewN n, h.rx.drewN n, h.ry.drewN n, below_drewN h.bel n⟩
end Go.Proofs.Ytpelnfenfeoeeaa
end

section
/-
  Plain mathematics of chapter 7: telling an echelon form. Nothing of a program is used.
-/
namespace Go.Proofs.Ytpelnfenfeoeeaa

/-- The first column of a row that is not 0 (k columns are left from j on); where there is none, their end. -/
def leadF (v : Nat → Int) : Nat → Nat → Nat
  | 0, j => j
  | k + 1, j => if v j = 0 then leadF v k (j + 1) else j
def leadC (c : Nat) (v : Nat → Int) : Nat := leadF v c 0
theorem leadF_eq {v : Nat → Int} : ∀ {k j q : Nat}, j ≤ q → q ≤ j + k → (∀ i, j ≤ i → i < q → v i = 0) → (q < j + k → v q ≠ 0) → leadF v k j = q := by
  intro k
  induction k with
  | zero => intro j q h1 h2 _ _; show j = q; omega
  | succ k ih =>
    intro j q h1 h2 hz hn
    show (if v j = 0 then leadF v k (j + 1) else j) = q
    rcases Nat.lt_or_ge j q with h | h
    · rw [if_pos (hz j (Nat.le_refl _) h)]
      exact ih (by omega) (by omega) (fun i h3 h4 => hz i (by omega) h4) (fun h3 => hn (by omega))
    · obtain rfl : j = q := by omega
      rw [if_neg (hn (by omega))]
theorem leadF_says {v : Nat → Int} : ∀ {k j : Nat}, j ≤ leadF v k j ∧ leadF v k j ≤ j + k ∧ (∀ i, j ≤ i → i < leadF v k j → v i = 0) ∧ (leadF v k j < j + k → v (leadF v k j) ≠ 0) := by
  intro k
  induction k with
  | zero => intro j; exact ⟨Nat.le_refl _, Nat.le_refl _, fun i h1 h2 => absurd h2 (by show ¬ i < j; omega), fun h => absurd h (by show ¬ j < j + 0; omega)⟩
  | succ k ih =>
    intro j
    by_cases h : v j = 0
    · have e : leadF v (k + 1) j = leadF v k (j + 1) := if_pos h
      rw [e]
      obtain ⟨h1, h2, h3, h4⟩ := ih (j := j + 1)
      refine ⟨by omega, by omega, fun i h5 h6 => ?_, fun h5 => h4 (by omega)⟩
      rcases Nat.lt_or_ge j i with h7 | h7
      · exact h3 i h7 h6
      · obtain rfl : i = j := by omega
        exact h
    · have e : leadF v (k + 1) j = j := if_neg h
      rw [e]
      exact ⟨Nat.le_refl _, by omega, fun i h1 h2 => by omega, fun _ => h⟩
theorem leadC_says (c : Nat) (v : Nat → Int) : leadC c v ≤ c ∧ (∀ i, i < leadC c v → v i = 0) ∧ (leadC c v < c → v (leadC c v) ≠ 0) := by
  obtain ⟨-, h2, h3, h4⟩ := leadF_says (v := v) (k := c) (j := 0)
  exact ⟨by show leadF v c 0 ≤ c; omega, fun i hi => h3 i (Nat.zero_le _) hi, fun h => h4 (by show leadF v c 0 < 0 + c; have : leadF v c 0 < c := h; omega)⟩
/-- What is wrong with row i, whose pivot is in column p, behind a row whose pivot is in column last. -/
def rowBad (c : Nat) (xs : List Int) (i : Nat) (last : Int) : Prop := leadC c (mxC c xs i) < c ∧ (last = c ∨ (leadC c (mxC c xs i) : Int) ≤ last ∨ mxC c xs i (leadC c (mxC c xs i)) < 0 ∨ gcdN c (mxC c xs i) ≠ 1)
def colBad (r c : Nat) (xs : List Int) (i : Nat) : Prop := leadC c (mxC c xs i) < c ∧ ∃ k, k < r ∧ k ≠ i ∧ mxC c xs k (leadC c (mxC c xs i)) ≠ 0
/-- k rows from row i on are those of an echelon form. -/
def EchB (r c : Nat) (xs : List Int) : Nat → Nat → Int → Prop
  | 0, _, _ => True
  | k + 1, i, last => ¬ rowBad c xs i last ∧ ¬ colBad r c xs i ∧ EchB r c xs k (i + 1) (leadC c (mxC c xs i))
theorem Ech.lead_at {r c t : Nat} {xs : List Int} {p : Nat → Nat} (h : Ech r c (mxC c xs) p t) {i : Nat} (hi : i < t) : leadC c (mxC c xs i) = p i :=
  leadF_eq (Nat.zero_le _) (by have := h.col i hi; omega) (fun j _ hj => h.left i j hi hj) (fun _ => by have := h.pos i hi; omega)
theorem Ech.lead_no {r c t : Nat} {xs : List Int} {p : Nat → Nat} (h : Ech r c (mxC c xs) p t) {i : Nat} (hi : t ≤ i) (hir : i < r) : leadC c (mxC c xs i) = c :=
  leadF_eq (Nat.zero_le _) (by omega) (fun j _ hj => h.rest i j hi hir hj) (fun h => by omega)
theorem Ech.echB {r c t : Nat} {xs : List Int} {p : Nat → Nat} (h : Ech r c (mxC c xs) p t) (hn : ∀ i, i < r → Norm c (mxC c xs i)) : ∀ (k i : Nat) (last : Int), i + k = r → (i < t → last < p i ∧ last ≠ c) → EchB r c xs k i last := by
  intro k
  induction k with
  | zero => intro i last _ _; trivial
  | succ k ih =>
    intro i last hik hl
    have hir : i < r := by omega
    rcases Nat.lt_or_ge i t with hit | hit
    · obtain ⟨h1, h2⟩ := hl hit
      have e := h.lead_at hit
      have hc := h.col i hit
      have hp := h.pos i hit
      refine ⟨?_, ?_, ?_⟩
      · rintro ⟨-, hb⟩
        rw [e] at hb
        rcases hb with h3 | h3 | h3 | h3
        · exact h2 h3
        · omega
        · omega
        · exact h3 ((hn i hir).1.resolve_left fun h4 => by have := gcdN_none h4 _ hc; omega)
      · rintro ⟨-, k', h3, h4, h5⟩
        rw [e] at h5
        exact h5 (h.only i k' hit h3 h4)
      · rw [e]
        refine ih (i + 1) _ (by omega) fun h3 => ?_
        have := h.inc i (i + 1) (by omega) h3
        omega
    · have e := h.lead_no hit hir
      refine ⟨fun hb => ?_, fun hb => ?_, ih (i + 1) _ (by omega) fun h3 => by omega⟩
      · have := hb.1; omega
      · have := hb.1; omega
/-- What is told to be an echelon form is one. -/
theorem EchB.ech {r c : Nat} {xs : List Int} : ∀ (k i : Nat) (last : Int), i + k = r → EchB r c xs k i last →
    (last = c → ∀ q j, i ≤ q → q < r → j < c → mxC c xs q j = 0) ∧ (∀ q, i ≤ q → q < r → leadC c (mxC c xs q) < c → last ≠ c ∧ last < leadC c (mxC c xs q)) ∧ (∀ q s, i ≤ q → q < s → s < r → leadC c (mxC c xs s) < c → leadC c (mxC c xs q) < leadC c (mxC c xs s)) ∧ (∀ q, i ≤ q → q < r → Norm c (mxC c xs q)) ∧ ∀ q s, i ≤ q → q < r → leadC c (mxC c xs q) < c → s < r → s ≠ q → mxC c xs s (leadC c (mxC c xs q)) = 0 := by
  intro k
  induction k with
  | zero => intro i last hik _; exact ⟨fun _ q j h1 h2 => by omega, fun q h1 h2 => by omega, fun q s h1 h2 h3 => by omega, fun q h1 h2 => by omega, fun q s h1 h2 => by omega⟩
  | succ k ih =>
    intro i last hik ⟨hrow, hcol, hrest⟩
    obtain ⟨g1, g2, g3, g4, g5⟩ := ih (i + 1) _ (by omega) hrest
    obtain ⟨l1, l2, l3⟩ := leadC_says c (mxC c xs i)
    have own : leadC c (mxC c xs i) < c → last ≠ c ∧ last < leadC c (mxC c xs i) ∧ 0 < mxC c xs i (leadC c (mxC c xs i)) ∧ gcdN c (mxC c xs i) = 1 := fun h => by
      have h0 := l3 h
      refine ⟨fun e => hrow ⟨h, .inl e⟩, ?_, ?_, ?_⟩
      · exact Int.not_le.mp fun e => hrow ⟨h, .inr (.inl e)⟩
      · have : ¬ mxC c xs i (leadC c (mxC c xs i)) < 0 := fun e => hrow ⟨h, .inr (.inr (.inl e))⟩
        omega
      · exact Classical.byContradiction fun e => hrow ⟨h, .inr (.inr (.inr e))⟩
    have full : leadC c (mxC c xs i) = c → ∀ q, i + 1 ≤ q → q < r → ¬ leadC c (mxC c xs q) < c := fun e q h1 h2 h3 => (g2 q h1 h2 h3).1 (by rw [e])
    refine ⟨fun e q j h1 h2 h3 => ?_, fun q h1 h2 h3 => ?_, fun q s h1 h2 h3 h4 => ?_, fun q h1 h2 => ?_, fun q s h1 h2 h3 h4 h5 => ?_⟩
    · have hi : leadC c (mxC c xs i) = c := by
        rcases Nat.lt_or_ge (leadC c (mxC c xs i)) c with h4 | h4
        · exact absurd e (own h4).1
        · omega
      rcases Nat.lt_or_ge i q with h4 | h4
      · exact g1 (by rw [hi]) q j h4 h2 h3
      · obtain rfl : q = i := by omega
        exact l2 j (by omega)
    · rcases Nat.lt_or_ge i q with h4 | h4
      · have h5 := g2 q h4 h2 h3
        have h6 : leadC c (mxC c xs i) < c := by
          rcases Nat.lt_or_ge (leadC c (mxC c xs i)) c with h7 | h7
          · exact h7
          · exact absurd h3 (full (by omega) q h4 h2)
        have h7 := own h6
        exact ⟨h7.1, by omega⟩
      · obtain rfl : q = i := by omega
        exact ⟨(own h3).1, (own h3).2.1⟩
    · rcases Nat.lt_or_ge i q with h5 | h5
      · exact g3 q s h5 h2 h3 h4
      · obtain rfl : q = i := by omega
        have := (g2 s h2 h3 h4).2
        omega
    · rcases Nat.lt_or_ge i q with h5 | h5
      · exact g4 q h5 h2
      · obtain rfl : q = i := by omega
        rcases Nat.lt_or_ge (leadC c (mxC c xs q)) c with h6 | h6
        · obtain ⟨-, -, h7, h8⟩ := own h6
          refine ⟨.inr h8, .inr ?_⟩
          rw [sgnN_first h6 l2 (by omega), if_neg (by omega)]
        · have hz : ∀ j, j < c → mxC c xs q j = 0 := fun j hj => l2 j (by omega)
          exact ⟨.inl (gcdN_all hz), .inl (sgnN_all hz)⟩
    · rcases Nat.lt_or_ge i q with h6 | h6
      · exact g5 q s h6 h2 h3 h4 h5
      · obtain rfl : q = i := by omega
        exact Classical.byContradiction fun h7 => hcol ⟨h3, s, h4, h5, h7⟩
/-- How many of the first rows are not zeros. -/
def topN (c : Nat) (xs : List Int) : Nat → Nat → Nat
  | 0, i => i
  | k + 1, i => if leadC c (mxC c xs i) < c then topN c xs k (i + 1) else i
theorem topN_says {c : Nat} {xs : List Int} : ∀ {k i : Nat}, i ≤ topN c xs k i ∧ topN c xs k i ≤ i + k ∧ (∀ q, i ≤ q → q < topN c xs k i → leadC c (mxC c xs q) < c) ∧ (topN c xs k i < i + k → ¬ leadC c (mxC c xs (topN c xs k i)) < c) := by
  intro k
  induction k with
  | zero => intro i; exact ⟨Nat.le_refl _, Nat.le_refl _, fun q h1 h2 => absurd h2 (by show ¬ q < i; omega), fun h => absurd h (by show ¬ i < i + 0; omega)⟩
  | succ k ih =>
    intro i
    by_cases h : leadC c (mxC c xs i) < c
    · have e : topN c xs (k + 1) i = topN c xs k (i + 1) := if_pos h
      rw [e]
      obtain ⟨h1, h2, h3, h4⟩ := ih (i := i + 1)
      refine ⟨by omega, by omega, fun q h5 h6 => ?_, fun h5 => h4 (by omega)⟩
      rcases Nat.lt_or_ge i q with h7 | h7
      · exact h3 q h7 h6
      · obtain rfl : q = i := by omega
        exact h
    · have e : topN c xs (k + 1) i = i := if_neg h
      rw [e]
      exact ⟨Nat.le_refl _, by omega, fun q h1 h2 => by omega, fun _ => h⟩
theorem EchB.all {r c : Nat} {xs : List Int} (h : EchB r c xs r 0 (-1)) : Ech r c (mxC c xs) (fun i => leadC c (mxC c xs i)) (topN c xs r 0) ∧ ∀ i, i < r → Norm c (mxC c xs i) := by
  obtain ⟨-, -, g3, g4, g5⟩ := EchB.ech r 0 (-1) (by omega) h
  obtain ⟨-, t2, t3, t4⟩ := topN_says (c := c) (xs := xs) (k := r) (i := 0)
  have lead0 : ∀ i j, j < leadC c (mxC c xs i) → mxC c xs i j = 0 := fun i j hj => (leadC_says c (mxC c xs i)).2.1 j hj
  refine ⟨⟨by omega, fun k hk => t3 k (Nat.zero_le _) hk, fun k l hkl hl => g3 k l (Nat.zero_le _) hkl (by omega) (t3 l (Nat.zero_le _) hl), fun k hk => ?_, fun k i hk hi hne => g5 k i (Nat.zero_le _) (by omega) (t3 k (Nat.zero_le _) hk) hi hne, fun k j hk hj => lead0 k j hj, fun i j hi hir hj => ?_, fun k hk => ?_⟩, fun i hi => g4 i (Nat.zero_le _) hi⟩
  · have h1 := t3 k (Nat.zero_le _) hk
    exact (g4 k (Nat.zero_le _) (by omega)).pos h1 (fun j hj => lead0 k j hj) ((leadC_says c (mxC c xs k)).2.2 h1)
  · have ht := t4 (by omega)
    rcases Nat.lt_or_ge (topN c xs r 0) i with h1 | h1
    · refine lead0 i j ?_
      rcases Nat.lt_or_ge (leadC c (mxC c xs i)) c with h2 | h2
      · have := g3 _ i (Nat.zero_le _) h1 hir h2
        omega
      · omega
    · obtain rfl : i = topN c xs r 0 := by omega
      exact lead0 _ j (by omega)
  · have h1 := t3 k (Nat.zero_le _) hk
    exact (g4 k (Nat.zero_le _) (by omega)).prim h1 ((leadC_says c (mxC c xs k)).2.2 h1)
/-- Just the echelon forms stay as they are. -/
theorem EchB_iff {r c : Nat} {xs : List Int} (hx : xs.length = r * c) (hn : nums xs = true) : EchB r c xs r 0 (-1) ↔ ∃ pv, echM r c xs = some (xs, pv) := by
  constructor
  · intro h
    obtain ⟨he, hm⟩ := EchB.all h
    refine ⟨(List.range (topN c xs r 0)).map fun i => leadC c (mxC c xs i), ?_⟩
    unfold echM
    rw [prTo_fix hx hm]
    exact echC_fix he c 0 0 (by omega) (Nat.zero_le _) (fun i hi => by omega) (fun _ => Nat.zero_le _)
  · rintro ⟨pv, h⟩
    obtain ⟨he, -, -, -, -, hm⟩ := echM_says hx hn h
    exact he.echB hm r 0 (-1) (by omega) fun _ => ⟨by omega, by omega⟩
end Go.Proofs.Ytpelnfenfeoeeaa
end

section
/-
  Chapter 7, in the model: IsEchelon.
-/
namespace Go.Proofs.Ytpelnfenfeoeeaa
set_option maxRecDepth 100000
open Go.RowKit

def echIs (r c : Int) (xs : List Int) : Bool := isMat r c xs && (match echM r.toNat c.toNat xs with | some (ys, _) => decide (ys = xs) | none => false)
structure IsSt (w : World) (r c : Nat) (a : Option Addr) (N m : Nat) (xs : List Int) (wr : World) : Prop where
  blk : Blk3 wr w.heap.size 26 (.int .i64 r) (.int .i64 c) (.slice a N m)
  rd : Rd wr a xs
  bel : Below w.heap.size w wr
theorem IsSt.drewN {w : World} {r c : Nat} {a : Option Addr} {N m : Nat} {xs : List Int} {wr : World} (h : IsSt w r c a N m xs wr) (n : Nat) : IsSt w r c a N m xs (wr.drewN n) := ⟨h.blk.drewN n, h.rd.drewN n, below_drewN h.bel n⟩
theorem IsSt.step {w : World} {r c : Nat} {a : Option Addr} {N m : Nat} {xs : List Int} {wr w' : World} (h : IsSt w r c a N m xs wr) (hb : Below wr.heap.size wr w') : IsSt w r c a N m xs w' := ⟨h.blk.step hb, h.rd.below hb, h.bel.trans (hb.mono h.bel.size)⟩
theorem EchB_step {r c k i : Nat} {xs : List Int} {last : Int} : EchB r c xs (k + 1) i last ↔ (¬ rowBad c xs i last ∧ ¬ colBad r c xs i ∧ EchB r c xs k (i + 1) (leadC c (mxC c xs i))) := Iff.rfl
end Go.Proofs.Ytpelnfenfeoeeaa
end

section
/-
  Chapter 7, in the model: IsEchelon of what is no matrix, and of all.
-/
namespace Go.Proofs.Ytpelnfenfeoeeaa
set_option maxRecDepth 100000
open Go.RowKit

end Go.Proofs.Ytpelnfenfeoeeaa
end
