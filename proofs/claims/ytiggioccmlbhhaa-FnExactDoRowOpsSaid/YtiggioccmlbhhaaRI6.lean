/-
  Chapter 5, in the program: DoRowOps.
-/
import Derived.Test.YtiggioccmlbhhaaRI4
import Derived.Test.YtiggioccmlbhhaaRow6
namespace Go.Proofs.Ytiggioccmlbhhaa
open Go.RowKit

set_option maxRecDepth 100000 in
set_option maxHeartbeats 4000000 in
theorem iOps_t (r c : Int) (a al : Option Addr) (m ml : Nat) (xs : List Int) (l : List Ro) (w : World) (h : Rd w a xs) (hl : RdO w al l) (hL : l.length ≤ 40) (hm : isMat r c xs = true) (hx : xs.length ≤ 576) :
    Calls Try.prog 40 #[.agg #[.int .i64 r, .int .i64 c, .slice a xs.length m], .slice al l.length ml] w (MatRes (opsM r c xs l) w) := by
  have M := Lib.hid hm
  have H := Lib.hid h
  have HL := Lib.hid hl
  obtain ⟨n, hn⟩ : ∃ n, xs.length = n := ⟨_, rfl⟩
  obtain ⟨ln, hln⟩ : ∃ ln, l.length = ln := ⟨_, rfl⟩
  have HX := Lib.hid hn
  have LN := Lib.hid hln
  rw [hn] at hx ⊢
  rw [hln] at hL ⊢
  clear hn hln h hl hm
  have B0 : ∀ o1 o2, Below w.heap.size w ((w.alloc o1).alloc o2) := fun o1 o2 => ((Below.refl _ _).alloc (Nat.le_refl _) _).alloc (by simp) _
  have BH := Lib.hid B0
  clear B0
  go_enter Try.func40, Try.ntmps40
  go_wp2_with fail
  have ST := iIsMat r c a m xs _ (H.out.below (BH.out (.cells #[.int .i64 r, .int .i64 c, .slice a n m] 26) (.cells #[.int .i64 0, .int .i64 0, .slice none 0 0] 26))) (by rw [HX.out]; omega)
  rw [HX.out] at ST
  refine ST.mono ?_
  clear ST
  rintro e w1 ⟨rfl, hb⟩
  have K0 : Hid (Blk3 w1 w.heap.size 26 (.int .i64 r) (.int .i64 c) (.slice a n m)) := ((Blk3.at_ _ _ _ _ rfl).old _).keep hb (by simp <;> omega)
  have K2 : Hid (Blk3 w1 (w.heap.size + 1) 26 (.int .i64 0) (.int .i64 0) (.slice none 0 0)) := (Blk3.at_ _ _ _ _ (by simp)).keep hb (by simp)
  have B : Hid (Below w.heap.size w w1) := (BH.out _ _).trans (hb.mono (by simp <;> omega))
  clear hb
  obtain ⟨ca0, ca1, ca2, -, -, -⟩ := K0.out.all
  obtain ⟨cc0, cc1, cc2, ff0, ff1, ff2⟩ := K2.out.all
  rw [M.out]
  go_wp2_with fail
  refine (iCopyOf r c a m n xs HX.out _ (H.out.below B.out) (by omega)).mono ?_
  rintro e w3 ⟨q0, qc0, rfl, own, hb⟩
  have l2 := K2.out.lt
  have ls := hb.size
  have K2 := Lib.hid ((K2.out.step hb).old (.cells #[.int .i64 r, .int .i64 c, .slice q0 n qc0] 26))
  have K6 : Hid (Blk3 (w3.alloc (.cells #[.int .i64 r, .int .i64 c, .slice q0 n qc0] 26)) w3.heap.size 26 (.int .i64 r) (.int .i64 c) (.slice q0 n qc0)) := Blk3.at_ _ _ _ _ rfl
  have OW := Lib.hid ((own.old (.cells #[.int .i64 r, .int .i64 c, .slice q0 n qc0] 26)).le (show w.heap.size + 1 + 1 ≤ _ by omega))
  have B := Lib.hid ((stepB B.out hb).alloc (stepB B.out hb).size (.cells #[.int .i64 r, .int .i64 c, .slice q0 n qc0] 26))
  clear hb own
  obtain ⟨ec0, ec1, ec2, -, -, -⟩ := K6.out.all
  go_upto_region 4 with fail
  obtain ⟨W, hW⟩ : ∃ W, w3.alloc (.cells #[.int .i64 r, .int .i64 c, .slice q0 n qc0] 26) = W := ⟨_, rfl⟩
  rw [hW] at ec0 ec1 ec2 K2 K6 OW B ⊢
  have hWB : w3.heap.size < W.heap.size := K6.out.lt
  obtain ⟨ob, hob⟩ : ∃ ob, w3.heap.size = ob := ⟨_, rfl⟩
  rw [hob] at K6 hWB ⊢
  go_wp2_with fail
  go_loopw [5, 8, 9, 10, 24] (fun _ _ _ _ i wr => ∃ (q : Nat) (sa : Option Addr) (yn qc : Nat) (ys : List Int), i = .int .i64 q ∧ q ≤ ln ∧ Blk3 wr ob 26 (.int .i64 r) (.int .i64 c) (.slice sa yn qc) ∧ Own (w.heap.size + 1 + 1) wr (.slice sa yn qc) ys ∧ opsM r c xs (l.take q) = ⟨true, r, c, ys⟩ ∧ W.grownBy wr (some ob)) (fun _ _ _ _ i _ => ln - (intOf i).toNat)
  case atStart => exact ⟨0, q0, n, qc0, xs, rfl, by omega, K6.out, OW.out, rfl, World.grownBy.refl _ _⟩
  case round =>
    obtain ⟨q, sa, yn, qc, ys, rfl, hq, h6, ho, hE, hgr⟩ := hrel
    have R6 := Lib.hid h6
    have O := Lib.hid ho
    have E := Lib.hid hE
    have G := Lib.hid hgr
    obtain ⟨s1, s2, s3, s4⟩ := ho.spot
    subst s3
    have SA : Hid (Rd wr sa ys ∧ Spot sa ∧ ys.length = ys.length ∧ ys.length ≤ 16777216) := ⟨s1, s2, rfl, s4⟩
    clear s1 s2 s4
    clear h6 ho hE hgr
    obtain ⟨d0, d1, d2, -, -, -⟩ := R6.out.all
    have BW : Hid (Below w.heap.size w wr) := B.out.trans (below_of_one G.out (by omega) B.out.size)
    have K2 : Hid (Blk3 wr (w.heap.size + 1) 26 (.int .i64 0) (.int .i64 0) (.slice none 0 0)) := K2.out.keepOne G.out (by omega)
    by_cases hlt : q < ln
    · have hlt2 : q < l.length := by rw [LN.out]; exact hlt
      obtain ⟨b2, o2, rfl, -, -⟩ := HL.out q hlt2
      have RL : Hid (RdO wr (some ⟨b2, o2, none⟩) l) := HL.out.below BW.out
      obtain ⟨u, hu⟩ : ∃ u, l.getD q Ro.zero = u := ⟨_, rfl⟩
      have HU := Lib.hid hu
      have HQ := Lib.hid hlt2
      clear hu hlt2
      obtain ⟨mr, hmr⟩ : ∃ m, opM u.k u.i u.j u.t r c ys = m := ⟨_, rfl⟩
      have HMR := Lib.hid hmr
      clear hmr
      obtain ⟨k1, k2, k3, k4, k5, k6, k7⟩ := opsF R6.out RL.out HQ.out HU.out (Below.refl wr.heap.size wr)
      clear d0 d1 d2
      go_upto_region 7 with fail
      clear k1 k2 k3 k4 k5 k6 k7
      have X4 : Hid (Blk4 (wr.alloc (.cells #[.int .i64 u.k, .int .i64 u.i, .int .i64 u.j, .int .i64 u.t] 43)) wr.heap.size 43 (.int .i64 u.k) (.int .i64 u.i) (.int .i64 u.j) (.int .i64 u.t)) := Blk4.at_ _ _ _ _ _ rfl
      have R7 := Lib.hid (R6.out.old (.cells #[.int .i64 u.k, .int .i64 u.i, .int .i64 u.j, .int .i64 u.t] 43))
      have S7 := Lib.hid (Rd.below SA.out.1 ((Below.refl _ _).alloc (Nat.le_refl _) (.cells #[.int .i64 u.k, .int .i64 u.i, .int .i64 u.j, .int .i64 u.t] 43)))
      have BU : Hid (Below wr.heap.size wr (wr.alloc (.cells #[.int .i64 u.k, .int .i64 u.i, .int .i64 u.j, .int .i64 u.t] 43))) := (Below.refl _ _).alloc (Nat.le_refl _) _
      obtain ⟨d0, d1, d2, -, -, -⟩ := R7.out.all
      obtain ⟨x40, x41, x42, x43⟩ := X4.out.all
      go_wp2_with fail
      refine (iOp u.k u.i u.j u.t r c sa qc ys _ S7.out SA.out.2.2.2 SA.out.2.1).mono ?_
      rintro e v1 ⟨v, rfl, ho1, hb1⟩
      rw [HMR.out] at ho1 ⊢
      obtain ⟨q2, qc2, rfl, -, -⟩ := ho1.form
      clear d0 d1 d2 x40 x41 x42 x43
      go_upto_region 8 with fail
      have hH := stepB BU.out hb1
      have VB : Hid (Blk3 (v1.alloc (.cells #[.int .i64 mr.r, .int .i64 mr.c, .slice q2 mr.zs.length qc2] 26)) v1.heap.size 26 (.int .i64 mr.r) (.int .i64 mr.c) (.slice q2 mr.zs.length qc2)) := Blk3.at_ _ _ _ _ rfl
      have O2 := ho1.old (.cells #[.int .i64 mr.r, .int .i64 mr.c, .slice q2 mr.zs.length qc2] 26)
      have hH := hH.alloc hH.size (.cells #[.int .i64 mr.r, .int .i64 mr.c, .slice q2 mr.zs.length qc2] 26)
      clear hb1 ho1
      obtain ⟨we, hwe⟩ : ∃ we, v1.alloc (.cells #[.int .i64 mr.r, .int .i64 mr.c, .slice q2 mr.zs.length qc2] 26) = we := ⟨_, rfl⟩
      rw [hwe] at hH VB O2 ⊢
      clear hwe
      have obl := R6.out.lt
      have R6 := Lib.hid (R6.out.keep hH R6.out.lt)
      have K2 := Lib.hid (K2.out.keep hH K2.out.lt)
      have BE := Lib.hid (BW.out.trans (hH.mono BW.out.size))
      have GE : Hid (W.grownBy we (some ob)) := G.out.trans (grown_of_below hH _)
      have pvl := VB.out.lt
      obtain ⟨y0, y1, y2, -, -, -⟩ := VB.out.all
      obtain ⟨z0, z1, z2, zf0, zf1, zf2⟩ := R6.out.all
      obtain ⟨x0, x1, x2, xf0, xf1, xf2⟩ := K2.out.all
      have N0 := opsM_app (l.drop q) (l.take q) xs E.out
      have N1 := opsM_app [u] (l.take q) xs E.out
      rw [List.take_append_drop, List.drop_eq_getElem_cons HQ.out] at N0
      have EG : l[q]'HQ.out = u := by rw [← HU.out]; simp [List.getD, HQ.out]
      rw [EG] at N0
      rcases Bool.eq_false_or_eq_true mr.ok with hok | hok
      · have D := opM_dims (k := u.k) (i := u.i) (j := u.j) (t := u.t) (r := r) (c := c) (xs := ys) (by rw [HMR.out]; exact hok)
        rw [HMR.out] at D
        rw [opsM_t (by rw [HMR.out]; exact hok), HMR.out] at N1
        have N1 : Hid (opsM r c xs (l.take (q + 1)) = ⟨true, r, c, mr.zs⟩) := by
          show opsM r c xs (l.take (q + 1)) = _
          rw [List.take_succ_eq_append_getElem HQ.out, EG, N1]
          rfl
        clear N0 EG
        obtain ⟨D1, D2⟩ := D
        go_wp2_with fail
        go_roundw
        case rel =>
          refine ⟨q + 1, q2, mr.zs.length, qc2, mr.zs, by go_num, by omega, ?_, ?_, N1.out, ?_⟩
          · rw [← D1, ← D2]
            exact R6.out.set3 _ _ _
          · exact (((O2.far (by simp <;> omega) _).far (by simp <;> omega) _).far (by simp <;> omega) _).le (by have := BW.out.size; simp <;> omega)
          · exact grown_set_one (grown_set_one (grown_set_one GE.out rfl _) rfl _) rfl _
        case measure => simp [intOf]; omega
      · rw [opsM_f (by rw [HMR.out]; exact hok)] at N0
        have NE := Lib.hid N0
        clear N0 N1 EG
        go_wp2_with fail
        obtain ⟨E0, E1, E2, -, -, -⟩ := (K2.out.set3 (.int .i64 0) (.int .i64 0) (.slice none 0 0)).all
        rw [NE.out]
        exact bodyPost_ret (v := .tuple #[.agg #[.int .i64 0, .int .i64 0, .slice none 0 0], .bool false]) (by simp [results, Try.results40, go_sem, E0, E1, E2]) rfl ⟨_, rfl, .inl ⟨rfl, rfl⟩, ((BE.out.setCell (by show w.heap.size ≤ w.heap.size + 1; omega) _).setCell (by show w.heap.size ≤ w.heap.size + 1; omega) _).setCell (by show w.heap.size ≤ w.heap.size + 1; omega) _⟩
    · have hql : q = ln := by omega
      have N0 := E.out
      rw [hql, ← LN.out, List.take_length] at N0
      have NE := Lib.hid N0
      clear N0
      obtain ⟨x0, x1, x2, xf0, xf1, xf2⟩ := K2.out.all
      go_wp2_with fail
      obtain ⟨E0, E1, E2, -, -, -⟩ := (K2.out.set3 (.int .i64 r) (.int .i64 c) (.slice sa ys.length qc)).all
      rw [NE.out]
      refine bodyPost_ret (v := .tuple #[.agg #[.int .i64 r, .int .i64 c, .slice sa ys.length qc], .bool true]) (by simp [results, Try.results40, go_sem, E0, E1, E2]) rfl ⟨_, rfl, ?_, ((BW.out.setCell (by show w.heap.size ≤ w.heap.size + 1; omega) _).setCell (by show w.heap.size ≤ w.heap.size + 1; omega) _).setCell (by show w.heap.size ≤ w.heap.size + 1; omega) _⟩
      exact (((O.out.far (by show w.heap.size + 1 < w.heap.size + 1 + 1; omega) _).far (by show w.heap.size + 1 < w.heap.size + 1 + 1; omega) _).far (by show w.heap.size + 1 < w.heap.size + 1 + 1; omega) _).le (by omega)
theorem iOps (r c : Int) (a al : Option Addr) (m ml : Nat) (xs : List Int) (l : List Ro) (w : World) (h : Rd w a xs) (_ : Spot a) (hl : RdO w al l) (hn : xs.length ≤ 16777216) (hL : l.length ≤ 16777216) :
    Calls Try.prog 40 #[.agg #[.int .i64 r, .int .i64 c, .slice a xs.length m], .slice al l.length ml] w (MatRes (opsR r c xs l) w) := by
  rcases Bool.eq_false_or_eq_true (isMat r c xs) with hm | hm
  · by_cases hL2 : l.length ≤ 40
    · have E : opsR r c xs l = opsM r c xs l := by unfold opsR; rw [if_pos ⟨hm, hL2⟩]
      rw [E]
      obtain ⟨⟨r1, r2⟩, ⟨c1, c2⟩, l1, -⟩ := isMat_says hm
      have hx : xs.length ≤ 576 := by
        obtain ⟨R, rfl⟩ := Int.eq_ofNat_of_zero_le r1
        obtain ⟨C, rfl⟩ := Int.eq_ofNat_of_zero_le c1
        rw [← Int.natCast_mul] at l1
        have hle : R * C ≤ 24 * 24 := Nat.mul_le_mul (by omega) (by omega)
        omega
      exact iOps_t r c a al m ml xs l w h hl hL2 hm hx
    · have E : Hid (opsR r c xs l = MR.no) := by show opsR r c xs l = _; unfold opsR; rw [if_neg (fun h => hL2 h.2)]
      have M := Lib.hid hm
      have H := Lib.hid h
      obtain ⟨n, hx⟩ : ∃ n, xs.length = n := ⟨_, rfl⟩
      obtain ⟨ln, hln⟩ : ∃ ln, l.length = ln := ⟨_, rfl⟩
      have HX := Lib.hid hx
      rw [hx] at hn ⊢
      rw [hln] at hL hL2 ⊢
      have hL3 : (40 : Int) < (ln : Int) := by omega
      clear hx hln h hl hm hL2
      have B0 : ∀ o1 o2, Below w.heap.size w ((w.alloc o1).alloc o2) := fun o1 o2 => ((Below.refl _ _).alloc (Nat.le_refl _) _).alloc (by simp) _
      have BH := Lib.hid B0
      clear B0
      go_enter Try.func40, Try.ntmps40
      go_wp2_with fail
      have ST := iIsMat r c a m xs _ (H.out.below (BH.out (.cells #[.int .i64 r, .int .i64 c, .slice a n m] 26) (.cells #[.int .i64 0, .int .i64 0, .slice none 0 0] 26))) (by rw [HX.out]; omega)
      rw [HX.out] at ST
      refine ST.mono ?_
      clear ST
      rintro e w1 ⟨rfl, hb⟩
      have K2 : Hid (Blk3 w1 (w.heap.size + 1) 26 (.int .i64 0) (.int .i64 0) (.slice none 0 0)) := (Blk3.at_ _ _ _ _ (by simp)).keep hb (by simp)
      have B : Hid (Below w.heap.size w w1) := (BH.out _ _).trans (hb.mono (by simp <;> omega))
      clear hb
      obtain ⟨cc0, cc1, cc2, ff0, ff1, ff2⟩ := K2.out.all
      rw [M.out]
      go_wp2_with fail
      obtain ⟨E0, E1, E2, -, -, -⟩ := (K2.out.set3 (.int .i64 0) (.int .i64 0) (.slice none 0 0)).all
      rw [E.out]
      exact bodyPost_ret (v := .tuple #[.agg #[.int .i64 0, .int .i64 0, .slice none 0 0], .bool false]) (by simp [results, Try.results40, go_sem, E0, E1, E2]) rfl ⟨_, rfl, .inl ⟨rfl, rfl⟩, ((B.out.setCell (by show w.heap.size ≤ w.heap.size + 1; omega) _).setCell (by show w.heap.size ≤ w.heap.size + 1; omega) _).setCell (by show w.heap.size ≤ w.heap.size + 1; omega) _⟩
  · have E : Hid (opsR r c xs l = MR.no) := by show opsR r c xs l = _; unfold opsR; rw [if_neg (fun h => absurd h.1 (by rw [hm]; decide))]
    have M := Lib.hid hm
    have H := Lib.hid h
    obtain ⟨n, hx⟩ : ∃ n, xs.length = n := ⟨_, rfl⟩
    obtain ⟨ln, hln⟩ : ∃ ln, l.length = ln := ⟨_, rfl⟩
    have HX := Lib.hid hx
    rw [hx] at hn ⊢
    rw [hln] at hL ⊢
    clear hx hln h hl hm
    have B0 : ∀ o1 o2, Below w.heap.size w ((w.alloc o1).alloc o2) := fun o1 o2 => ((Below.refl _ _).alloc (Nat.le_refl _) _).alloc (by simp) _
    have BH := Lib.hid B0
    clear B0
    go_enter Try.func40, Try.ntmps40
    go_wp2_with fail
    have ST := iIsMat r c a m xs _ (H.out.below (BH.out (.cells #[.int .i64 r, .int .i64 c, .slice a n m] 26) (.cells #[.int .i64 0, .int .i64 0, .slice none 0 0] 26))) (by rw [HX.out]; omega)
    rw [HX.out] at ST
    refine ST.mono ?_
    clear ST
    rintro e w1 ⟨rfl, hb⟩
    have K2 : Hid (Blk3 w1 (w.heap.size + 1) 26 (.int .i64 0) (.int .i64 0) (.slice none 0 0)) := (Blk3.at_ _ _ _ _ (by simp)).keep hb (by simp)
    have B : Hid (Below w.heap.size w w1) := (BH.out _ _).trans (hb.mono (by simp <;> omega))
    clear hb
    obtain ⟨cc0, cc1, cc2, ff0, ff1, ff2⟩ := K2.out.all
    rw [M.out]
    go_wp2_with fail
    obtain ⟨E0, E1, E2, -, -, -⟩ := (K2.out.set3 (.int .i64 0) (.int .i64 0) (.slice none 0 0)).all
    rw [E.out]
    exact bodyPost_ret (v := .tuple #[.agg #[.int .i64 0, .int .i64 0, .slice none 0 0], .bool false]) (by simp [results, Try.results40, go_sem, E0, E1, E2]) rfl ⟨_, rfl, .inl ⟨rfl, rfl⟩, ((B.out.setCell (by show w.heap.size ≤ w.heap.size + 1; omega) _).setCell (by show w.heap.size ≤ w.heap.size + 1; omega) _).setCell (by show w.heap.size ≤ w.heap.size + 1; omega) _⟩
end Go.Proofs.Ytiggioccmlbhhaa
