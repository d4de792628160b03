/-
  Texts of this seat, joined: ZBBsI · ZBCtI · ZBEcJ · ZBEchSp · ZBErI · ZBSeI · ZBSoEch
-/
import Derived.StillTailTactics
import Derived.BigQuiet
import Derived.Deep.QuietTactic
import Derived.Test.YtcapddcmnjeloaaGreatDoorPk14
import Derived.Test.YtcapddcmnjeloaaGreatDoorPk15
import Derived.Test.YtcapddcmnjeloaaGreatDoorPk16
import Derived.Test.YtcapddcmnjeloaaGreatDoorPk17
import Derived.Test.YtcapddcmnjeloaaGreatDoorPk18
import Derived.Test.YtcapddcmnjeloaaGreatDoorPk19

section
/-
  Chapter 11, in the program: besideMatrix.
-/
namespace Go.Proofs.YtcapddcmnjeloaaGreatDoor
set_option maxRecDepth 100000
open Go.RowKit
set_option maxHeartbeats 4000000 in
theorem iBeside (n : Nat) (a : Option Addr) (m : Nat) (xs : List Int) (ab : Option Addr) (mb : Nat) (bs : List Int) (w : World) (h : Rd w a xs) (hc : CelA a xs.length m) (hx : xs.length = n * n) (hb : Rd w ab bs) (hbl : bs.length = n) (h6 : n ≤ 6) :
    Calls Tryz.prog 83 #[.agg #[.int .i64 n, .int .i64 n, .slice a xs.length m], .slice ab bs.length mb] w (CopyM n ((n : Int) + 1) (n * (n + 1)) (wdL n xs bs) w) := by
  have N36 : n * n ≤ 36 := Nat.mul_le_mul h6 h6
  have M42 : n * (n + 1) ≤ 42 := Nat.le_trans (Nat.mul_le_mul h6 (Nat.succ_le_succ h6)) (by decide)
  have RX := Lib.hid h
  have RB := Lib.hid hb
  have XB := Lib.hid hbl
  have XN := Lib.hid hx
  have HC := Lib.hid hc
  have wn : IntKind.i64.wrap ((n : Int) + 1) = (n : Int) + 1 := IntWalk.i64_in _ (by omega)
  have LW : Hid (∀ i, (wbTo n xs bs i).length = i * (n + 1)) := fun i => wbTo_length n xs bs i
  have LM : Hid (∀ i, i < n → i * (n + 1) + n + 1 ≤ 42) := fun i hi => by
    have : (i + 1) * (n + 1) ≤ n * (n + 1) := Nat.mul_le_mul_right _ hi
    rw [Nat.succ_mul] at this
    show _ ≤ _; omega
  have RW : Hid (∀ i, i < n → ∀ w', Calls Tryz.prog 44 #[.agg #[.int .i64 n, .int .i64 n, .slice a xs.length m], .int .i64 i] w' (RowAt a (i * n) n w')) := fun i hi w' => iRowIn n n i (i * n) xs.length m a w' HC.out.spot rfl (by rw [hx, ← Nat.succ_mul]; exact Nat.mul_le_mul_right _ hi) HC.out.le HC.out.nil (by omega) (by omega)
  obtain ⟨N, hN⟩ : ∃ N, xs.length = N := ⟨_, rfl⟩
  rw [hN] at RW ⊢
  rw [hbl]
  have HNN := Lib.hid hN
  clear h hb hbl hx hc hN
  have K2 : Hid (Blk3 (((w.alloc (.cells #[.int .i64 n, .int .i64 n, .slice a N m] 26)).alloc (.cells #[.int .i64 0, .int .i64 0, .slice none 0 0] 26)).alloc (.cells #[.int .i64 n, .int .i64 ((n : Int) + 1), .slice none 0 0] 26)) w.heap.size 26 (.int .i64 n) (.int .i64 n) (.slice a N m)) := ((Blk3.at_ _ _ _ _ rfl).old _).old _
  have K4 : Hid (Blk3 (((w.alloc (.cells #[.int .i64 n, .int .i64 n, .slice a N m] 26)).alloc (.cells #[.int .i64 0, .int .i64 0, .slice none 0 0] 26)).alloc (.cells #[.int .i64 n, .int .i64 ((n : Int) + 1), .slice none 0 0] 26)) (w.heap.size + 1) 26 (.int .i64 0) (.int .i64 0) (.slice none 0 0)) := (Blk3.at_ _ _ _ _ (by simp)).old _
  have K5 : Hid (Blk3 (((w.alloc (.cells #[.int .i64 n, .int .i64 n, .slice a N m] 26)).alloc (.cells #[.int .i64 0, .int .i64 0, .slice none 0 0] 26)).alloc (.cells #[.int .i64 n, .int .i64 ((n : Int) + 1), .slice none 0 0] 26)) (w.heap.size + 1 + 1) 26 (.int .i64 n) (.int .i64 ((n : Int) + 1)) (.slice none 0 0)) := Blk3.at_ _ _ _ _ (by simp)
  have B0 : Hid (Below w.heap.size w (((w.alloc (.cells #[.int .i64 n, .int .i64 n, .slice a N m] 26)).alloc (.cells #[.int .i64 0, .int .i64 0, .slice none 0 0] 26)).alloc (.cells #[.int .i64 n, .int .i64 ((n : Int) + 1), .slice none 0 0] 26))) := (((Below.refl _ _).alloc (Nat.le_refl _) _).alloc (by simp) _).alloc (by simp; omega) _
  have kk : Hid (Blk3 ((w.alloc (.cells #[.int .i64 n, .int .i64 n, .slice a N m] 26)).alloc (.cells #[.int .i64 0, .int .i64 0, .slice none 0 0] 26)) w.heap.size 26 (.int .i64 n) (.int .i64 n) (.slice a N m)) := (Blk3.at_ _ _ _ _ rfl).old _
  obtain ⟨z0, z1, z2, -, -, -⟩ := kk.out.all
  go_enter Tryz.func83, Tryz.ntmps83
  go_upto_region 2 with fail
  clear z0 z1 z2 kk wn
  generalize ((w.alloc (.cells #[.int .i64 n, .int .i64 n, .slice a N m] 26)).alloc (.cells #[.int .i64 0, .int .i64 0, .slice none 0 0] 26)).alloc (.cells #[.int .i64 n, .int .i64 ((n : Int) + 1), .slice none 0 0] 26) = W0 at K2 K4 K5 B0 ⊢
  obtain ⟨b5, hb5⟩ : ∃ b, w.heap.size + 1 + 1 = b := ⟨_, rfl⟩
  rw [hb5] at K5 ⊢
  have O0 : Hid (W0.ownsRow (b5 + 1) 3 1 (.slice none 0 0) (wbTo n xs bs 0).length ((wbTo n xs bs 0).map (Value.int .i64))) := by
    refine Lib.hid ?_
    rw [wbTo_zero]
    exact ⟨rfl, .inl ⟨rfl, rfl⟩⟩
  go_wp2_with fail
  go_loopw [6, 7, 16] (fun _ _ v16 wr => ∃ (i : Nat) (v0 : Value), v16 = .int .i64 i ∧ i ≤ n ∧ Blk3 wr w.heap.size 26 (.int .i64 n) (.int .i64 n) (.slice a N m) ∧ Blk3 wr (w.heap.size + 1) 26 (.int .i64 0) (.int .i64 0) (.slice none 0 0) ∧ Blk3 wr b5 26 (.int .i64 n) (.int .i64 ((n : Int) + 1)) v0 ∧ wr.ownsRow (b5 + 1) 3 1 v0 (wbTo n xs bs i).length ((wbTo n xs bs i).map (Value.int .i64)) ∧ Below w.heap.size w wr) (fun _ _ v16 _ => n - (intOf v16).toNat)
  case atStart => exact ⟨0, _, rfl, by omega, K2.out, K4.out, K5.out, O0.out, B0.out⟩
  case round =>
    clear K2 K4 K5 B0 O0
    obtain ⟨i, v0, rfl, hi, h2, h4, h5, ho, hB⟩ := hrel
    have K2 := Lib.hid h2
    have K4 := Lib.hid h4
    have K5 := Lib.hid h5
    have OWN := Lib.hid ho
    have B := Lib.hid hB
    clear h2 h4 h5 ho hB
    by_cases hlt : i < n
    · obtain ⟨ga, oa, rfl⟩ : ∃ ga oa : Nat, a = some ⟨ga, oa, none⟩ := by
        obtain ⟨b, o, e, -⟩ := RX.out 0 (by rw [XN.out]; exact Nat.mul_pos (by omega) (by omega))
        exact ⟨b, o, e⟩
      obtain ⟨b1, o1, rfl, hc1⟩ := (RB.out.below B.out) i (by rw [XB.out]; exact hlt)
      obtain ⟨x, hx⟩ : ∃ x, bs.getD i 0 = x := ⟨_, rfl⟩
      rw [hx] at hc1
      have HX := Lib.hid hx
      have RR : Hid (∀ w', Below w.heap.size w w' → Rd w' (some ⟨ga, oa + i * n, none⟩) (rwL n (mxC n xs i))) := fun w' hb' => (RX.out.below hb').row XN.out hlt (fun g o e _ => by injection e with e; injection e with e1 e2; subst e1 e2; rfl)
      have lm := LM.out i hlt
      obtain ⟨q0, c0, rfl⟩ := rowL_form OWN.out
      have NE2 : Hid ((Value.slice q0 (wbTo n xs bs i).length c0).ownBlock ≠ some w.heap.size) := fun e => by have := (OWN.out.lt _ e).1; omega
      have NE4 : Hid ((Value.slice q0 (wbTo n xs bs i).length c0).ownBlock ≠ some (w.heap.size + 1)) := fun e => by have := (OWN.out.lt _ e).1; omega
      have NE5 : Hid ((Value.slice q0 (wbTo n xs bs i).length c0).ownBlock ≠ some b5) := fun e => by have := (OWN.out.lt _ e).1; omega
      obtain ⟨l5, hl5⟩ : ∃ l, wbTo n xs bs i ++ rwL n (mxC n xs i) = l := ⟨_, rfl⟩
      have E5 := Lib.hid hl5
      have L5 : Hid (l5.length = i * (n + 1) + n) := by show _ = _; rw [← hl5, List.length_append, rwL_length, LW.out]
      have E8 : Hid (l5 ++ [x] = wbTo n xs bs (i + 1)) := by show _ = _; rw [← hl5, ← hx, wbTo_succ]
      clear hl5
      have R0 := Lib.hid (BsR.start OWN.out)
      have l5 := K5.out.lt
      clear hx
      go_upto_region 5 with fail
      clear hc1
      refine wp_region_T (S := fun w' => Blk3 w' w.heap.size 26 (.int .i64 n) (.int .i64 n) (.slice (some ⟨ga, oa, none⟩) N m) ∧ Blk3 w' b5 26 (.int .i64 n) (.int .i64 ((n : Int) + 1)) (.slice q0 (wbTo n xs bs i).length c0)) (T := fun j => j == 10) (by kernel_rfl) ⟨K2.out.drew, K5.out.drew⟩ (fun hH => ?_)
      refine wpAnyT_take (i := 0) (v := ?_) (by simp only [List.getElem?_toArray, List.getElem?_cons_zero]; rfl) (by kernel_rfl) (by kernel_rfl) (by kernel_rfl) (by kernel_rfl) (one_only 10 (by kernel_rfl)) (by exact fun _ _ _ h => h) (Or.inl ⟨by rfl, ?_⟩) hH ?_
      rotate_left
      · (intro wS hS; clear hS; go_simp; try rfl)
      try simp only [Act.put, List.setIfInBounds_toArray, List.set_cons_zero, List.set_cons_succ]
      refine wpAnyT_take (i := 1) (v := ?_) (by simp only [List.getElem?_toArray, List.getElem?_cons_succ, List.getElem?_cons_zero]; rfl) (by kernel_rfl) (by kernel_rfl) (by kernel_rfl) (by kernel_rfl) (one_only 10 (by kernel_rfl)) (by exact fun _ _ _ h => h) (Or.inl ⟨by rfl, ?_⟩) hH ?_
      rotate_left
      · (intro wS hS; (try dsimp only at hS); obtain ⟨q1, q2⟩ := hS; obtain ⟨x0, x1, x2, -, -, -⟩ := q1.all; obtain ⟨y0, y1, y2, -, -, -⟩ := q2.all; go_simp; try rfl)
      try simp only [Act.put, List.setIfInBounds_toArray, List.set_cons_zero, List.set_cons_succ]
      refine wpAnyT_take (i := 2) (v := ?_) (by simp only [List.getElem?_toArray, List.getElem?_cons_succ, List.getElem?_cons_zero]; rfl) (by kernel_rfl) (by kernel_rfl) (by kernel_rfl) (by kernel_rfl) (one_only 10 (by kernel_rfl)) (by exact fun _ _ _ h => h) (Or.inl ⟨by rfl, ?_⟩) hH ?_
      rotate_left
      · (intro wS hS; (try dsimp only at hS); obtain ⟨q1, q2⟩ := hS; obtain ⟨x0, x1, x2, -, -, -⟩ := q1.all; obtain ⟨y0, y1, y2, -, -, -⟩ := q2.all; go_simp; try rfl)
      try simp only [Act.put, List.setIfInBounds_toArray, List.set_cons_zero, List.set_cons_succ]
      refine wpAnyT_take (i := 3) (v := ?_) (by simp only [List.getElem?_toArray, List.getElem?_cons_succ, List.getElem?_cons_zero]; rfl) (by kernel_rfl) (by kernel_rfl) (by kernel_rfl) (by kernel_rfl) (one_only 10 (by kernel_rfl)) (by exact fun _ _ _ h => h) (Or.inl ⟨by rfl, ?_⟩) hH ?_
      rotate_left
      · (intro wS hS; clear hS; go_simp; try rfl)
      try simp only [Act.put, List.setIfInBounds_toArray, List.set_cons_zero, List.set_cons_succ]
      refine wpAnyT_take (i := 6) (v := ?_) (by simp only [List.getElem?_toArray, List.getElem?_cons_succ, List.getElem?_cons_zero]; rfl) (by kernel_rfl) (by kernel_rfl) (by kernel_rfl) (by kernel_rfl) (one_only 10 (by kernel_rfl)) (by exact fun _ _ _ h => h) (Or.inl ⟨by rfl, ?_⟩) hH ?_
      rotate_left
      · (intro wS hS; clear hS; go_simp; try rfl)
      try simp only [Act.put, List.setIfInBounds_toArray, List.set_cons_zero, List.set_cons_succ]
      generalize wr.drew = Wd at R0 hH ⊢
      refine wpAnyT_ready (rs := [4, 7]) (by kernel_rfl) (by simp) ?_
      refine AllReadyT.cons (by simp only [List.getElem?_toArray, List.getElem?_cons_succ, List.getElem?_cons_zero]; rfl) (fun K hK => ?_) (AllReadyT.cons (by simp only [List.getElem?_toArray, List.getElem?_cons_succ, List.getElem?_cons_zero]; rfl) (fun K hK => ?_) (AllReadyT.nil))
      ·
        go_simp
        (with_reducible refine (RW.out i hlt _).mono ?_)
        rintro e W1 ⟨q1, m1, rfl, hm1, hq1, -, hb1⟩
        obtain rfl := hq1 _ _ rfl (by omega)
        try dsimp only
        have R1 := Lib.hid (R0.out.step hb1)
        have hH : _ ∧ _ := ⟨R1.out.blk K2.out NE2.out, R1.out.blk K5.out NE5.out⟩
        refine hK.out _ _ (fun _ => hH) ?_
        clear hK K
        try simp only [Act.put, List.setIfInBounds_toArray, List.set_cons_zero, List.set_cons_succ]
        clear hm1 hq1 hb1
        refine wpAnyT_ready (rs := [5, 7]) (by kernel_rfl) (by simp) ?_
        refine AllReadyT.cons (by simp only [List.getElem?_toArray, List.getElem?_cons_succ, List.getElem?_cons_zero]; rfl) (fun K hK => ?_) (AllReadyT.cons (by simp only [List.getElem?_toArray, List.getElem?_cons_succ, List.getElem?_cons_zero]; rfl) (fun K hK => ?_) (AllReadyT.nil))
        ·
          have s2 := R1.out.fr.size
          have d2 : Rd W1 (some ⟨ga, oa + i * n, none⟩) (rwL n (mxC n xs i)) := RR.out W1 (B.out.grown R1.out.fr B.out.size (fun k e => by have := (OWN.out.lt k e).1; omega))
          obtain ⟨u2, W2, hr2, ho2, hg2, hor2⟩ := app_or W1 (b5 + 1) _ n m1 _ _ _ ga (oa + i * n) R1.out.row d2 (rwL_length _ _) (by rw [LW.out]; omega) (by omega)
          refine step_append rfl _ _ 24 rfl _ _ rfl rfl _ _ hr2 ?_
          have R2 := Lib.hid (R1.out.app (ys := (rwL n (mxC n xs i))) (by rw [show (rwL n (mxC n xs i)).length = n from (rwL_length _ _)]; exact ho2) hg2 hor2)
          rw [E5.out] at R2
          try dsimp only
          have hH : _ ∧ _ := ⟨R2.out.blk K2.out NE2.out, R2.out.blk K5.out NE5.out⟩
          refine hK.out _ _ (fun _ => hH) ?_
          clear hK K
          try simp only [Act.put, List.setIfInBounds_toArray, List.set_cons_zero, List.set_cons_succ]
          obtain ⟨qa2, qc2, rfl⟩ := rowL_form R2.out.row
          clear hr2 ho2 hg2 hor2 d2 s2
          refine wpAnyT_ready (rs := [7]) (by kernel_rfl) (by simp) ?_
          refine AllReadyT.cons (by simp only [List.getElem?_toArray, List.getElem?_cons_succ, List.getElem?_cons_zero]; rfl) (fun K hK => ?_) (AllReadyT.nil)
          go_simp
          try dsimp only
          have R3 := Lib.hid (R2.out.step ((Below.refl _ W2).alloc (Nat.le_refl _) (.cells #[.int .i64 x] 3)))
          have N3 : Hid (Blk1 (W2.alloc (.cells #[.int .i64 x] 3)) W2.heap.size 3 (.int .i64 x)) := Blk1.at_ _ _ rfl
          have l3 : wr.heap.size ≤ W2.heap.size := R2.out.fr.size
          have hH : _ ∧ _ := ⟨R3.out.blk K2.out NE2.out, R3.out.blk K5.out NE5.out⟩
          refine hK.out _ _ (fun _ => hH) ?_
          clear hK K
          try simp only [Act.put, List.setIfInBounds_toArray, List.set_cons_zero, List.set_cons_succ]
          obtain ⟨g3, hg3⟩ : ∃ g, W2.heap.size = g := ⟨_, rfl⟩
          obtain ⟨W3, hw3⟩ : ∃ W, W2.alloc (.cells #[.int .i64 x] 3) = W := ⟨_, rfl⟩
          rw [hg3] at N3 l3 ⊢
          rw [hw3] at N3 R3 hH ⊢
          clear hg3 hw3
          refine wpAnyT_ready (rs := [8]) (by kernel_rfl) (by simp) ?_
          refine AllReadyT.cons (by simp only [List.getElem?_toArray, List.getElem?_cons_succ, List.getElem?_cons_zero]; rfl) (fun K hK => ?_) (AllReadyT.nil)
          have s4 := R3.out.fr.size
          have d4 : Rd W3 (some ⟨g3, 0, none⟩) [x] := fun k hk => ⟨g3, 0, rfl, by obtain rfl : k = 0 := (by simp at hk; omega); exact N3.out.cell0⟩
          obtain ⟨u4, W4, hr4, ho4, hg4, hor4⟩ := app_or W3 (b5 + 1) _ 1 1 _ _ _ g3 0 R3.out.row d4 rfl (by rw [L5.out]; omega) (by omega)
          refine step_append rfl _ _ 24 rfl _ _ rfl rfl _ _ hr4 ?_
          have R4 := Lib.hid (R3.out.app (ys := [x]) (by rw [show [x].length = 1 from rfl]; exact ho4) hg4 hor4)
          rw [E8.out] at R4
          try dsimp only
          have hH : _ ∧ _ := ⟨R4.out.blk K2.out NE2.out, R4.out.blk K5.out NE5.out⟩
          refine hK.out _ _ (fun _ => hH) ?_
          clear hK K
          try simp only [Act.put, List.setIfInBounds_toArray, List.set_cons_zero, List.set_cons_succ]
          obtain ⟨qa4, qc4, rfl⟩ := rowL_form R4.out.row
          clear hr4 ho4 hg4 hor4 d4 s4
          refine wpAnyT_take (i := 9) (v := ?_) (by simp only [List.getElem?_toArray, List.getElem?_cons_succ, List.getElem?_cons_zero]; rfl) (by kernel_rfl) (by kernel_rfl) (by kernel_rfl) (by kernel_rfl) (one_only 10 (by kernel_rfl)) (by exact fun _ _ _ h => h) (Or.inl ⟨by rfl, ?_⟩) hH ?_
          rotate_left
          · (intro wS hS; clear hS; go_simp; try rfl)
          try simp only [Act.put, List.setIfInBounds_toArray, List.set_cons_zero, List.set_cons_succ]
          refine wpAnyT_ready (rs := [10]) (by kernel_rfl) (by simp) ?_
          refine AllReadyT.cons (by simp only [List.getElem?_toArray, List.getElem?_cons_succ, List.getElem?_cons_zero]; rfl) (fun K hK => ?_) (AllReadyT.nil)
          obtain ⟨y0, y1, y2, y3, y4, y5⟩ := hH.2.all
          go_simp
          try dsimp only
          refine hK.out _ _ (fun h => absurd h (by decide)) ?_
          clear hK K
          try simp only [Act.put, List.setIfInBounds_toArray, List.set_cons_zero, List.set_cons_succ]
          clear y0 y1 y2 y3 y4 y5
          refine wpAnyT_done (by kernel_rfl) ?_ _
          go_wp2_with fail
          go_roundw
          case rel =>
            refine ⟨i + 1, _, by go_num, by omega, hH.1.far (by show w.heap.size ≠ b5; omega) _, (R4.out.blk K4.out NE4.out).far (by show w.heap.size + 1 ≠ b5; omega) _, hH.2.set2 _, ?_, ?_⟩
            · exact R4.out.row.kept (grown_set_one (a := ⟨b5, 2, none⟩) (World.grownBy.refl _ _) rfl _) (.inr fun e => by have h9 : b5 + 1 ≤ b5 := (R4.out.row.lt b5 e).1; omega)
            · exact (B.out.grown R4.out.fr B.out.size (fun k e => by have := (OWN.out.lt k e).1; omega)).setCell (by show w.heap.size ≤ b5; omega) _
          case measure => simp [intOf]; omega
        ·
          go_simp
          try dsimp only
          have R6 := Lib.hid (R1.out.step ((Below.refl _ W1).alloc (Nat.le_refl _) (.cells #[.int .i64 x] 3)))
          have N6 : Hid (Blk1 (W1.alloc (.cells #[.int .i64 x] 3)) W1.heap.size 3 (.int .i64 x)) := Blk1.at_ _ _ rfl
          have l6 : wr.heap.size ≤ W1.heap.size := R1.out.fr.size
          have hH : _ ∧ _ := ⟨R6.out.blk K2.out NE2.out, R6.out.blk K5.out NE5.out⟩
          refine hK.out _ _ (fun _ => hH) ?_
          clear hK K
          try simp only [Act.put, List.setIfInBounds_toArray, List.set_cons_zero, List.set_cons_succ]
          obtain ⟨g6, hg6⟩ : ∃ g, W1.heap.size = g := ⟨_, rfl⟩
          obtain ⟨W6, hw6⟩ : ∃ W, W1.alloc (.cells #[.int .i64 x] 3) = W := ⟨_, rfl⟩
          rw [hg6] at N6 l6 ⊢
          rw [hw6] at N6 R6 hH ⊢
          clear hg6 hw6
          refine wpAnyT_ready (rs := [5]) (by kernel_rfl) (by simp) ?_
          refine AllReadyT.cons (by simp only [List.getElem?_toArray, List.getElem?_cons_succ, List.getElem?_cons_zero]; rfl) (fun K hK => ?_) (AllReadyT.nil)
          have s7 := R6.out.fr.size
          have d7 : Rd W6 (some ⟨ga, oa + i * n, none⟩) (rwL n (mxC n xs i)) := RR.out W6 (B.out.grown R6.out.fr B.out.size (fun k e => by have := (OWN.out.lt k e).1; omega))
          obtain ⟨u7, W7, hr7, ho7, hg7, hor7⟩ := app_or W6 (b5 + 1) _ n m1 _ _ _ ga (oa + i * n) R6.out.row d7 (rwL_length _ _) (by rw [LW.out]; omega) (by omega)
          refine step_append rfl _ _ 24 rfl _ _ rfl rfl _ _ hr7 ?_
          have R7 := Lib.hid (R6.out.app (ys := (rwL n (mxC n xs i))) (by rw [show (rwL n (mxC n xs i)).length = n from (rwL_length _ _)]; exact ho7) hg7 hor7)
          rw [E5.out] at R7
          have N7 : Hid (Blk1 W7 g6 3 (.int .i64 x)) := (hg7.block _ N6.out.lt (fun e => by have := (OWN.out.lt _ e.symm).2; omega)).trans N6.out
          try dsimp only
          have hH : _ ∧ _ := ⟨R7.out.blk K2.out NE2.out, R7.out.blk K5.out NE5.out⟩
          refine hK.out _ _ (fun _ => hH) ?_
          clear hK K
          try simp only [Act.put, List.setIfInBounds_toArray, List.set_cons_zero, List.set_cons_succ]
          obtain ⟨qa7, qc7, rfl⟩ := rowL_form R7.out.row
          clear hr7 ho7 hg7 hor7 d7 s7
          refine wpAnyT_ready (rs := [8]) (by kernel_rfl) (by simp) ?_
          refine AllReadyT.cons (by simp only [List.getElem?_toArray, List.getElem?_cons_succ, List.getElem?_cons_zero]; rfl) (fun K hK => ?_) (AllReadyT.nil)
          have s8 := R7.out.fr.size
          have d8 : Rd W7 (some ⟨g6, 0, none⟩) [x] := fun k hk => ⟨g6, 0, rfl, by obtain rfl : k = 0 := (by simp at hk; omega); exact N7.out.cell0⟩
          obtain ⟨u8, W8, hr8, ho8, hg8, hor8⟩ := app_or W7 (b5 + 1) _ 1 1 _ _ _ g6 0 R7.out.row d8 rfl (by rw [L5.out]; omega) (by omega)
          refine step_append rfl _ _ 24 rfl _ _ rfl rfl _ _ hr8 ?_
          have R8 := Lib.hid (R7.out.app (ys := [x]) (by rw [show [x].length = 1 from rfl]; exact ho8) hg8 hor8)
          rw [E8.out] at R8
          try dsimp only
          have hH : _ ∧ _ := ⟨R8.out.blk K2.out NE2.out, R8.out.blk K5.out NE5.out⟩
          refine hK.out _ _ (fun _ => hH) ?_
          clear hK K
          try simp only [Act.put, List.setIfInBounds_toArray, List.set_cons_zero, List.set_cons_succ]
          obtain ⟨qa8, qc8, rfl⟩ := rowL_form R8.out.row
          clear hr8 ho8 hg8 hor8 d8 s8
          refine wpAnyT_take (i := 9) (v := ?_) (by simp only [List.getElem?_toArray, List.getElem?_cons_succ, List.getElem?_cons_zero]; rfl) (by kernel_rfl) (by kernel_rfl) (by kernel_rfl) (by kernel_rfl) (one_only 10 (by kernel_rfl)) (by exact fun _ _ _ h => h) (Or.inl ⟨by rfl, ?_⟩) hH ?_
          rotate_left
          · (intro wS hS; clear hS; go_simp; try rfl)
          try simp only [Act.put, List.setIfInBounds_toArray, List.set_cons_zero, List.set_cons_succ]
          refine wpAnyT_ready (rs := [10]) (by kernel_rfl) (by simp) ?_
          refine AllReadyT.cons (by simp only [List.getElem?_toArray, List.getElem?_cons_succ, List.getElem?_cons_zero]; rfl) (fun K hK => ?_) (AllReadyT.nil)
          obtain ⟨y0, y1, y2, y3, y4, y5⟩ := hH.2.all
          go_simp
          try dsimp only
          refine hK.out _ _ (fun h => absurd h (by decide)) ?_
          clear hK K
          try simp only [Act.put, List.setIfInBounds_toArray, List.set_cons_zero, List.set_cons_succ]
          clear y0 y1 y2 y3 y4 y5
          refine wpAnyT_done (by kernel_rfl) ?_ _
          go_wp2_with fail
          go_roundw
          case rel =>
            refine ⟨i + 1, _, by go_num, by omega, hH.1.far (by show w.heap.size ≠ b5; omega) _, (R8.out.blk K4.out NE4.out).far (by show w.heap.size + 1 ≠ b5; omega) _, hH.2.set2 _, ?_, ?_⟩
            · exact R8.out.row.kept (grown_set_one (a := ⟨b5, 2, none⟩) (World.grownBy.refl _ _) rfl _) (.inr fun e => by have h9 : b5 + 1 ≤ b5 := (R8.out.row.lt b5 e).1; omega)
            · exact (B.out.grown R8.out.fr B.out.size (fun k e => by have := (OWN.out.lt k e).1; omega)).setCell (by show w.heap.size ≤ b5; omega) _
          case measure => simp [intOf]; omega
      ·
        go_simp
        try dsimp only
        have R10 := Lib.hid (R0.out.step ((Below.refl _ Wd).alloc (Nat.le_refl _) (.cells #[.int .i64 x] 3)))
        have N10 : Hid (Blk1 (Wd.alloc (.cells #[.int .i64 x] 3)) Wd.heap.size 3 (.int .i64 x)) := Blk1.at_ _ _ rfl
        have l10 : wr.heap.size ≤ Wd.heap.size := R0.out.fr.size
        have hH : _ ∧ _ := ⟨R10.out.blk K2.out NE2.out, R10.out.blk K5.out NE5.out⟩
        refine hK.out _ _ (fun _ => hH) ?_
        clear hK K
        try simp only [Act.put, List.setIfInBounds_toArray, List.set_cons_zero, List.set_cons_succ]
        obtain ⟨g10, hg10⟩ : ∃ g, Wd.heap.size = g := ⟨_, rfl⟩
        obtain ⟨W10, hw10⟩ : ∃ W, Wd.alloc (.cells #[.int .i64 x] 3) = W := ⟨_, rfl⟩
        rw [hg10] at N10 l10 ⊢
        rw [hw10] at N10 R10 hH ⊢
        clear hg10 hw10
        refine wpAnyT_ready (rs := [4]) (by kernel_rfl) (by simp) ?_
        refine AllReadyT.cons (by simp only [List.getElem?_toArray, List.getElem?_cons_succ, List.getElem?_cons_zero]; rfl) (fun K hK => ?_) (AllReadyT.nil)
        go_simp
        (with_reducible refine (RW.out i hlt _).mono ?_)
        rintro e W11 ⟨q11, m11, rfl, hm11, hq11, -, hb11⟩
        obtain rfl := hq11 _ _ rfl (by omega)
        try dsimp only
        have R11 := Lib.hid (R10.out.step hb11)
        have N11 := Lib.hid (N10.out.keep hb11 N10.out.lt)
        have hH : _ ∧ _ := ⟨R11.out.blk K2.out NE2.out, R11.out.blk K5.out NE5.out⟩
        refine hK.out _ _ (fun _ => hH) ?_
        clear hK K
        try simp only [Act.put, List.setIfInBounds_toArray, List.set_cons_zero, List.set_cons_succ]
        clear hm11 hq11 hb11
        refine wpAnyT_ready (rs := [5]) (by kernel_rfl) (by simp) ?_
        refine AllReadyT.cons (by simp only [List.getElem?_toArray, List.getElem?_cons_succ, List.getElem?_cons_zero]; rfl) (fun K hK => ?_) (AllReadyT.nil)
        have s12 := R11.out.fr.size
        have d12 : Rd W11 (some ⟨ga, oa + i * n, none⟩) (rwL n (mxC n xs i)) := RR.out W11 (B.out.grown R11.out.fr B.out.size (fun k e => by have := (OWN.out.lt k e).1; omega))
        obtain ⟨u12, W12, hr12, ho12, hg12, hor12⟩ := app_or W11 (b5 + 1) _ n m11 _ _ _ ga (oa + i * n) R11.out.row d12 (rwL_length _ _) (by rw [LW.out]; omega) (by omega)
        refine step_append rfl _ _ 24 rfl _ _ rfl rfl _ _ hr12 ?_
        have R12 := Lib.hid (R11.out.app (ys := (rwL n (mxC n xs i))) (by rw [show (rwL n (mxC n xs i)).length = n from (rwL_length _ _)]; exact ho12) hg12 hor12)
        rw [E5.out] at R12
        have N12 : Hid (Blk1 W12 g10 3 (.int .i64 x)) := (hg12.block _ N11.out.lt (fun e => by have := (OWN.out.lt _ e.symm).2; omega)).trans N11.out
        try dsimp only
        have hH : _ ∧ _ := ⟨R12.out.blk K2.out NE2.out, R12.out.blk K5.out NE5.out⟩
        refine hK.out _ _ (fun _ => hH) ?_
        clear hK K
        try simp only [Act.put, List.setIfInBounds_toArray, List.set_cons_zero, List.set_cons_succ]
        obtain ⟨qa12, qc12, rfl⟩ := rowL_form R12.out.row
        clear hr12 ho12 hg12 hor12 d12 s12
        refine wpAnyT_ready (rs := [8]) (by kernel_rfl) (by simp) ?_
        refine AllReadyT.cons (by simp only [List.getElem?_toArray, List.getElem?_cons_succ, List.getElem?_cons_zero]; rfl) (fun K hK => ?_) (AllReadyT.nil)
        have s13 := R12.out.fr.size
        have d13 : Rd W12 (some ⟨g10, 0, none⟩) [x] := fun k hk => ⟨g10, 0, rfl, by obtain rfl : k = 0 := (by simp at hk; omega); exact N12.out.cell0⟩
        obtain ⟨u13, W13, hr13, ho13, hg13, hor13⟩ := app_or W12 (b5 + 1) _ 1 1 _ _ _ g10 0 R12.out.row d13 rfl (by rw [L5.out]; omega) (by omega)
        refine step_append rfl _ _ 24 rfl _ _ rfl rfl _ _ hr13 ?_
        have R13 := Lib.hid (R12.out.app (ys := [x]) (by rw [show [x].length = 1 from rfl]; exact ho13) hg13 hor13)
        rw [E8.out] at R13
        try dsimp only
        have hH : _ ∧ _ := ⟨R13.out.blk K2.out NE2.out, R13.out.blk K5.out NE5.out⟩
        refine hK.out _ _ (fun _ => hH) ?_
        clear hK K
        try simp only [Act.put, List.setIfInBounds_toArray, List.set_cons_zero, List.set_cons_succ]
        obtain ⟨qa13, qc13, rfl⟩ := rowL_form R13.out.row
        clear hr13 ho13 hg13 hor13 d13 s13
        refine wpAnyT_take (i := 9) (v := ?_) (by simp only [List.getElem?_toArray, List.getElem?_cons_succ, List.getElem?_cons_zero]; rfl) (by kernel_rfl) (by kernel_rfl) (by kernel_rfl) (by kernel_rfl) (one_only 10 (by kernel_rfl)) (by exact fun _ _ _ h => h) (Or.inl ⟨by rfl, ?_⟩) hH ?_
        rotate_left
        · (intro wS hS; clear hS; go_simp; try rfl)
        try simp only [Act.put, List.setIfInBounds_toArray, List.set_cons_zero, List.set_cons_succ]
        refine wpAnyT_ready (rs := [10]) (by kernel_rfl) (by simp) ?_
        refine AllReadyT.cons (by simp only [List.getElem?_toArray, List.getElem?_cons_succ, List.getElem?_cons_zero]; rfl) (fun K hK => ?_) (AllReadyT.nil)
        obtain ⟨y0, y1, y2, y3, y4, y5⟩ := hH.2.all
        go_simp
        try dsimp only
        refine hK.out _ _ (fun h => absurd h (by decide)) ?_
        clear hK K
        try simp only [Act.put, List.setIfInBounds_toArray, List.set_cons_zero, List.set_cons_succ]
        clear y0 y1 y2 y3 y4 y5
        refine wpAnyT_done (by kernel_rfl) ?_ _
        go_wp2_with fail
        go_roundw
        case rel =>
          refine ⟨i + 1, _, by go_num, by omega, hH.1.far (by show w.heap.size ≠ b5; omega) _, (R13.out.blk K4.out NE4.out).far (by show w.heap.size + 1 ≠ b5; omega) _, hH.2.set2 _, ?_, ?_⟩
          · exact R13.out.row.kept (grown_set_one (a := ⟨b5, 2, none⟩) (World.grownBy.refl _ _) rfl _) (.inr fun e => by have h9 : b5 + 1 ≤ b5 := (R13.out.row.lt b5 e).1; omega)
          · exact (B.out.grown R13.out.fr B.out.size (fun k e => by have := (OWN.out.lt k e).1; omega)).setCell (by show w.heap.size ≤ b5; omega) _
        case measure => simp [intOf]; omega
    · obtain rfl : i = n := by omega
      obtain ⟨q0, c0, rfl⟩ := rowL_form OWN.out
      obtain ⟨y0, y1, y2, -, -, -⟩ := K5.out.all
      obtain ⟨x0, x1, x2, x3, x4, x5⟩ := K4.out.all
      have OE : Own (b5 + 1) wr (.slice q0 (wbTo i xs bs i).length c0) (wbTo i xs bs i) := Own.of_row OWN.out (by rw [LW.out]; omega)
      have OE := Lib.hid OE
      have SH : Hid (∀ u, Own (b5 + 1) (((wr.setCell ⟨w.heap.size + 1, 0, none⟩ (.int .i64 i)).setCell ⟨w.heap.size + 1, 1, none⟩ (.int .i64 ((i : Int) + 1))).setCell ⟨w.heap.size + 1, 2, none⟩ u) (.slice q0 (wbTo i xs bs i).length c0) (wbTo i xs bs i)) := fun u => ((OE.out.far (a := ⟨w.heap.size + 1, 0, none⟩) (by show w.heap.size + 1 < b5 + 1; omega) _).far (a := ⟨w.heap.size + 1, 1, none⟩) (by show w.heap.size + 1 < b5 + 1; omega) _).far (a := ⟨w.heap.size + 1, 2, none⟩) (by show w.heap.size + 1 < b5 + 1; omega) _
      go_wp2_with fail
      obtain ⟨E0, E1, E2, -, -, -⟩ := (K4.out.set3 (.int .i64 i) (.int .i64 ((i : Int) + 1)) (.slice q0 (wbTo i xs bs i).length c0)).all
      refine bodyPost_ret (v := .agg #[.int .i64 i, .int .i64 ((i : Int) + 1), .slice q0 (wbTo i xs bs i).length c0]) (by simp [results, Tryz.results83, go_sem, E0, E1, E2]) rfl ⟨q0, c0, by rw [LW.out], ?_, ?_⟩
      · have := (SH.out (.slice q0 (wbTo i xs bs i).length c0)).le (show w.heap.size ≤ b5 + 1 by omega)
        rw [LW.out] at this ⊢
        exact this
      · exact ((B.out.setCell (by show w.heap.size ≤ w.heap.size + 1; omega) _).setCell (by show w.heap.size ≤ w.heap.size + 1; omega) _).setCell (by show w.heap.size ≤ w.heap.size + 1; omega) _
end Go.Proofs.YtcapddcmnjeloaaGreatDoor
end

section
/-
  slices.Index and slices.Contains at ints.
-/
namespace Go.Proofs.YtcapddcmnjeloaaGreatDoor
set_option maxRecDepth 100000
open Go.RowKit
set_option maxHeartbeats 1000000 in
theorem iIndexV (v : Int) (L m : Nat) (q : Option Addr) (xs : List Int) (w : World) (h : Rd w q xs) (hL : xs.length = L) (hl : L ≤ 16777216) :
    Calls Tryz.prog 133 #[.slice q L m, .int .i64 v] w fun e w' => (∃ z : Int, e = .returned (.int .i64 z) ∧ (0 ≤ z ↔ ∃ k, k < L ∧ xs.getD k 0 = v)) ∧ w = w' := by
  have H := Lib.hid h
  have HL := Lib.hid hL
  clear h hL
  go_enter Tryz.func133, Tryz.ntmps133
  go_wp2_with fail
  go_loopw [5, 8] (fun _ v8 wr => ∃ i : Nat, v8 = .int .i64 i ∧ i ≤ L ∧ (∀ k, k < i → xs.getD k 0 ≠ v) ∧ w = wr) (fun _ v8 _ => L - (intOf v8).toNat)
  case atStart => exact ⟨0, rfl, by omega, fun k hk => by omega, rfl⟩
  case round =>
    obtain ⟨i, rfl, hi, hk, rfl⟩ := hrel
    have HK := Lib.hid hk
    clear hk
    by_cases hlt : i < L
    · obtain ⟨b1, o1, rfl, hc1⟩ := H.out i (by rw [HL.out]; exact hlt)
      obtain ⟨y, hy⟩ : ∃ y, xs.getD i 0 = y := ⟨_, rfl⟩
      rw [hy] at hc1
      have HY := Lib.hid hy
      clear hy
      by_cases e : v = y
      · subst e
        go_wp2_with fail
        go_ret
        exact ⟨⟨_, rfl, ⟨fun _ => ⟨i, hlt, HY.out⟩, fun _ => by omega⟩⟩, rfl⟩
      · have n1 : (v == y) = false := by simpa using e
        have HK2 : Hid (∀ k, k < i + 1 → xs.getD k 0 ≠ v) := fun k hk => by
          rcases Nat.lt_or_ge k i with h3 | h3
          · exact HK.out k h3
          · obtain rfl : k = i := by omega
            rw [HY.out]; exact fun h => e h.symm
        clear e
        go_wp2_with fail
        go_roundw
        case rel => exact ⟨i + 1, by go_num, by omega, HK2.out, by first | rfl | trivial⟩
        case measure => simp [intOf]; omega
    · obtain rfl : i = L := by omega
      go_wp2_with fail
      go_ret
      exact ⟨⟨_, rfl, ⟨fun h => by omega, fun ⟨k, hk, e⟩ => absurd e (HK.out k hk)⟩⟩, rfl⟩
theorem iContainsV (v : Int) (L m : Nat) (q : Option Addr) (xs : List Int) (w : World) (h : Rd w q xs) (hL : xs.length = L) (hl : L ≤ 16777216) (t : Bool) (ht : t = true ↔ ∃ k, k < L ∧ xs.getD k 0 = v) :
    Calls Tryz.prog 84 #[.slice q L m, .int .i64 v] w fun e w' => e = .returned (.bool t) ∧ w = w' := by
  have IX := Lib.hid (iIndexV v L m q xs w h hL hl)
  have HT := Lib.hid ht
  clear h hL ht
  go_enter Tryz.func84, Tryz.ntmps84
  go_wp2_with fail
  refine IX.out.mono ?_
  rintro e w' ⟨⟨z, rfl, hz⟩, rfl⟩
  have T : t = decide (0 ≤ z) := by
    rw [Bool.eq_iff_iff, HT.out, ← hz, decide_eq_true_eq]
  have T := Lib.hid T
  clear hz
  go_wp2_with fail
  go_ret
  exact ⟨by rw [T.out]; rfl, rfl⟩
theorem full_iff {n : Nat} {pv : List Nat} (hle : pv.length ≤ n) (hcol : ∀ k, k < pv.length → pv.getD k 0 < n + 1) (hinc : ∀ k l, k < l → l < pv.length → pv.getD k 0 < pv.getD l 0) : fullB n pv = true ↔ n ≤ pv.length ∧ ¬ ∃ k, k < pv.length ∧ (pvI pv).getD k 0 = (n : Int) := by
  have cast : ∀ k, (pvI pv).getD k 0 = ((pv.getD k 0 : Nat) : Int) := fun k => by
    unfold pvI
    simp only [List.getD, List.getElem?_map]
    cases pv[k]? <;> rfl
  unfold fullB
  rw [Bool.and_eq_true, decide_eq_true_eq, decide_eq_true_eq]
  refine and_congr_right fun h1 => ⟨fun h2 ⟨k, hk, e⟩ => ?_, fun h2 h3 e => h2 ⟨n - 1, by omega, by rw [cast, e]⟩⟩
  rw [cast] at e
  have e : pv.getD k 0 = n := by omega
  have h4 := h2 (by omega)
  rcases Nat.lt_or_ge k (n - 1) with h5 | h5
  · have h6 := hinc k (n - 1) h5 (by omega)
    have h7 := hcol (n - 1) (by omega)
    omega
  · obtain rfl : k = n - 1 := by omega
    exact h4 e
end Go.Proofs.YtcapddcmnjeloaaGreatDoor
end

section
/-
  Chapter 7, in the program: the elimination, walked.
-/
namespace Go.Proofs.YtcapddcmnjeloaaGreatDoor
set_option maxRecDepth 100000
open Go.RowKit
set_option maxHeartbeats 4000000 in
theorem iEch (r c N : Nat) (a : Option Addr) (m : Nat) (xs : List Int) (w : World) (h : Rd w a xs) (hx : xs.length = N) (hN : N = r * c) (hr : r ≤ 24) (hc : c ≤ 24) (nx : nums xs = true) (hm : isMat r c xs = true) :
    Calls Tryz.prog 82 #[.agg #[.int .i64 r, .int .i64 c, .slice a N m]] w (EchP w r c (echM r c xs)) := by
  have hle : r * c ≤ 24 * 24 := Nat.mul_le_mul hr hc
  rw [← hN] at hle
  have IM : Hid (∀ w', Below w.heap.size w w' → Calls Tryz.prog 43 #[.agg #[.int .i64 r, .int .i64 c, .slice a N m]] w' (Gives (.bool true) w')) := fun w' hb => by
    have := iIsMat r c a m xs w' (h.below hb) (by omega)
    rw [hx, hm] at this
    exact this
  have CP : Hid (∀ w', Below w.heap.size w w' → Calls Tryz.prog 124 #[.agg #[.int .i64 r, .int .i64 c, .slice a N m]] w' (CopyM r c N xs w')) := fun w' hb => iCopyOf r c a m N xs hx w' (h.below hb) (by omega)
  have EI : Hid (EInv r c (mxC c xs) (prTo r c r xs) [] 0) := EInv.start (by rw [hx, hN]) nx
  have HR : Hid (echC r c c 0 (prTo r c r xs) [] = echM r c xs) := rfl
  generalize echM r c xs = RES at HR ⊢
  have PZ : Hid (prTo r c 0 xs = xs) := prTo_zero (by rw [hx, hN])
  have PN : Hid (∀ i, nums (prTo r c i xs) = true) := fun i => prTo_nums (by rw [hx, hN]) nx
  have PS : Hid (∀ i, i < r → prL r c i (prTo r c i xs) = prTo r c (i + 1) xs) := fun i hi => prTo_step hi
  have HN := Lib.hid hN
  have DL : Hid (∀ i, i < r → i * c + c ≤ N) := fun i hi => by rw [hN, ← Nat.succ_mul]; exact Nat.mul_le_mul_right _ hi
  clear hN hx nx h hm
  go_enter Tryz.func82, Tryz.ntmps82
  go_upto_region 1 with fail
  have K0 : Hid (Blk3 ((w.alloc (.cells #[.int .i64 r, .int .i64 c, .slice a N m] 26)).alloc (.cells #[.int .i64 0, .int .i64 0, .slice none 0 0] 26)) w.heap.size 26 (.int .i64 r) (.int .i64 c) (.slice a N m)) := (Blk3.at_ _ _ _ _ rfl).old _
  have R0 : Hid (Blk3 ((w.alloc (.cells #[.int .i64 r, .int .i64 c, .slice a N m] 26)).alloc (.cells #[.int .i64 0, .int .i64 0, .slice none 0 0] 26)) (w.heap.size + 1) 26 (.int .i64 0) (.int .i64 0) (.slice none 0 0)) := Blk3.at_ _ _ _ _ (by simp)
  have B0 : Hid (Below w.heap.size w ((w.alloc (.cells #[.int .i64 r, .int .i64 c, .slice a N m] 26)).alloc (.cells #[.int .i64 0, .int .i64 0, .slice none 0 0] 26))) := ((Below.refl _ _).alloc (Nat.le_refl _) _).alloc (by simp) _
  have S0 : Hid (((w.alloc (.cells #[.int .i64 r, .int .i64 c, .slice a N m] 26)).alloc (.cells #[.int .i64 0, .int .i64 0, .slice none 0 0] 26)).heap.size = w.heap.size + 2) := by show _ = _; simp
  generalize (w.alloc (.cells #[.int .i64 r, .int .i64 c, .slice a N m] 26)).alloc (.cells #[.int .i64 0, .int .i64 0, .slice none 0 0] 26) = W0 at K0 R0 B0 S0 ⊢
  obtain ⟨p0, p1, p2, -, -, -⟩ := K0.out.all
  go_wp2_with fail
  refine (IM.out _ B0.out).mono ?_
  rintro e w1 ⟨rfl, hb⟩
  have s0 := S0.out
  have sb := hb.size
  have K1 := Lib.hid (K0.out.step hb)
  have R1 := Lib.hid (R0.out.step hb)
  have B1 := Lib.hid (B0.out.trans (hb.mono (by omega)))
  clear hb K0 R0 B0 S0 p0 p1 p2 IM
  obtain ⟨p0, p1, p2, -, -, -⟩ := K1.out.all
  go_wp2_with fail
  refine (CP.out _ B1.out).mono ?_
  rintro e w2 ⟨q, cap, rfl, own, hb⟩
  have R2 := Lib.hid (R1.out.step hb)
  have B2 := Lib.hid (B1.out.trans (hb.mono (by omega)))
  have sb2 := hb.size
  obtain ⟨g, C2, g1, g2, g3⟩ : ∃ g, Cel w2 q N cap g xs ∧ w.heap.size ≤ g ∧ g < w2.heap.size ∧ g ≠ w.heap.size + 1 := by
    rcases own with ⟨e, e2⟩ | ⟨g, c', e, hB, hi, hl, -⟩
    · injection e with e1 e3 e4
      exact ⟨w.heap.size, .inl ⟨e1, e4, e3, e2⟩, by omega, by omega, by omega⟩
    · injection e with e1 e3 e4
      subst e1
      exact ⟨g, .inr ⟨rfl, by omega, e3.symm, hi⟩, by omega, hi.lt, by omega⟩
  clear own hb p0 p1 p2 K1 R1 B1 CP
  obtain ⟨rb, hrb⟩ : ∃ rb, w.heap.size + 1 = rb := ⟨_, rfl⟩
  have lrb : w.heap.size ≤ rb := by omega
  rw [hrb] at R2 g3 ⊢
  obtain ⟨B, hB⟩ : ∃ B, w2.heap.size = B := ⟨_, rfl⟩
  have ST : Hid (EpSt w B (B + 1) rb r c N cap g q xs (.slice (some ⟨B, 0, none⟩) 0 0) [] ((w2.alloc (.cells #[] 3)).alloc (.cells #[.int .i64 r, .int .i64 c, .slice q N cap] 26))) :=
    ⟨Blk3.at_ _ _ _ _ (by simp; omega), (R2.out.old _).old _, (C2.keep (Below.alloc (Below.refl _ _) (Nat.le_refl _) _)).keep (Below.alloc (Below.refl _ _) (Nat.le_refl _) _),
      (OwnQ.none_ (Nat.le_refl _) ⟨Nat.zero_le _, [], rfl, by rw [← hB]; exact heap_alloc_new w2 _⟩).keep (Below.alloc (Below.refl _ _) (Nat.le_refl _) _), (B2.out.alloc B2.out.size _).alloc (by have := B2.out.size; simp; omega) _, by simp; omega⟩
  have lgB : g < B := by omega
  have lwB : w.heap.size ≤ B := by omega
  have S2 : Hid ((w2.alloc (.cells #[] 3)).heap.size = B + 1) := by show _ = _; simp; omega
  go_upto_region 4 with fail
  generalize (w2.alloc (.cells #[] 3)).alloc (.cells #[.int .i64 r, .int .i64 c, .slice q N cap] 26) = W at ST ⊢
  clear S2 hB R2 B2 C2 g2 sb sb2 s0 hrb w2 w1 W0
  obtain ⟨b, hb⟩ : ∃ b, B + 1 = b := ⟨_, rfl⟩
  rw [hb] at ST ⊢
  have lb : b ≠ g := by omega
  clear hb
  have PM : Hid (∀ (i : Nat) (ys : List Int) (w' : World), i < r → nums ys = true → Blk3 w' b 26 (.int .i64 r) (.int .i64 c) (.slice q N cap) → Cel w' q N cap g ys → Calls Tryz.prog 128 #[.int .i64 i, .pointer (some ⟨b, 0, none⟩)] w' (fun e w2 => Void e ∧ Cel w2 q N cap g (prL r c i ys) ∧ w'.grownBy w2 (some g))) := fun i ys w' hi hn K C => iPrim r c i N b cap g q ys w' HN.out hr hc hi hn K C
  obtain ⟨p0, p1, p2, -, -, -⟩ := ST.out.blk.all
  go_wp2_with fail
  clear p0 p1 p2
  go_loopw [8, 23] (fun _ v23 wr => ∃ i : Nat, v23 = .int .i64 i ∧ i ≤ r ∧ EpSt w B b rb r c N cap g q (prTo r c i xs) (.slice (some ⟨B, 0, none⟩) 0 0) [] wr) (fun _ v23 _ => r - (intOf v23).toNat)
  case atStart => exact ⟨0, rfl, by omega, by rw [PZ.out]; exact ST.out⟩
  case round =>
    clear ST
    obtain ⟨i, rfl, hi, hst⟩ := hrel
    have ST := Lib.hid hst
    clear hst
    by_cases hlt : i < r
    · go_wp2_with fail
      refine (PM.out i _ _ hlt (PN.out i) ST.out.blk ST.out.cel).mono ?_
      rintro e w2 ⟨rfl, hc2, hg2⟩
      rw [PS.out i hlt] at hc2
      have S2 := Lib.hid (ST.out.one hc2 hg2 lb g3.symm lgB g1)
      clear hc2 hg2
      go_wp2_with fail
      go_roundw
      case rel => exact ⟨i + 1, by go_num, by omega, S2.out⟩
      case measure => simp [intOf]; omega
    · obtain rfl : r = i := by omega
      clear hlt
      obtain ⟨p0, p1, p2, -, -, -⟩ := ST.out.blk.all
      generalize prTo r c r xs = y0 at ST HR EI
      go_wp2_with fail
      clear p0 p1 p2
      go_loopw [3, 4, 6, 9, 10, 11, 12, 32, 49] (fun _ _ v6 _ _ _ _ v32 _ wr => ∃ (j k : Nat) (ys : List Int) (qv : Option Addr) (qc : Nat) (pv : List Nat), v6 = .slice qv pv.length qc ∧ v32 = .int .i64 j ∧ j + k = c ∧ EInv r c (mxC c xs) ys pv j ∧ echC r c k j ys pv = RES ∧ EpSt w B b rb r c N cap g q ys (.slice qv pv.length qc) pv wr) (fun _ _ _ _ _ _ _ v32 _ _ => c - (intOf v32).toNat)
      case atStart => exact ⟨0, c, y0, _, _, [], rfl, rfl, by omega, EI.out, HR.out, ST.out⟩
      case round =>
        clear ST EI HR
        obtain ⟨j, k, ys, qv, qc, pv, rfl, rfl, hjk, he, hR, hst⟩ := hrel
        have ST := Lib.hid hst
        have EI := Lib.hid he
        have HR := Lib.hid hR
        clear hst he hR
        obtain ⟨t, ht⟩ : ∃ t, pv.length = t := ⟨_, rfl⟩
        have PT := Lib.hid ht
        have htr : t ≤ r := by rw [← ht]; exact EI.out.le
        rw [ht] at ST ⊢
        clear ht
        obtain ⟨p0, p1, p2, -, -, -⟩ := ST.out.blk.all
        by_cases hjc : j < c
        · obtain ⟨k, rfl⟩ : ∃ k', k = k' + 1 := ⟨k - 1, by omega⟩
          obtain ⟨f1, f2, f3, f4⟩ := fstR_says (c := c) (j := j) (xs := ys) (k := r - t) (p := t)
          go_wp2_with fail
          refine (iPivR r c t j N cap g q ys _ HN.out hr hc htr hjc ST.out.cel).mono ?_
          rintro e w5 ⟨rfl, hb5⟩
          have ST := Lib.hid (ST.out.below hb5)
          clear hb5 p0 p1 p2
          by_cases hf : fstR c j ys (r - t) t = r
          · have n1 : pvR r c j t ys = -1 := if_pos hf
            have EI2 : Hid (EInv r c (mxC c xs) ys pv (j + 1)) := EI.out.skip hjc fun i h1 h2 => f3 i (by rw [← PT.out]; exact h1) (by omega)
            have HE : Hid (echC r c k (j + 1) ys pv = RES) := by
              have h1 := HR.out
              by_cases htl : t < r
              · rw [echC_skip (by rw [PT.out]; exact htl) (by rw [PT.out]; exact hf)] at h1
                exact h1
              · have hp : ¬ pv.length < r := by rw [PT.out]; exact htl
                show _ = _
                rw [echC_full hp]
                rw [echC_full hp] at h1
                exact h1
            rw [n1]
            clear n1 hf f1 f2 f3 f4
            go_wp2_with fail
            go_roundw
            case rel => exact ⟨j + 1, k, ys, qv, qc, pv, by rw [PT.out], by go_num, by omega, EI2.out, HE.out, by rw [PT.out]; exact ST.out⟩
            case measure => simp [intOf]; omega
          · have n1 : pvR r c j t ys = (fstR c j ys (r - t) t : Int) := if_neg hf
            obtain ⟨p, hp⟩ : ∃ p, fstR c j ys (r - t) t = p := ⟨_, rfl⟩
            rw [hp] at n1 hf f1 f2 f3 f4
            have hpr : p < r := by omega
            have htl : t < r := by omega
            have N0 : 0 < N := by have := DL.out t htl; omega
            have FS : Hid (fstR c j ys (r - pv.length) pv.length = p) := by show _ = _; rw [PT.out]; exact hp
            have hs := EI.out.swap (p := p) (by rw [PT.out]; exact f1) hpr
            have hyz : mxC c (swC p t c ys) t j ≠ 0 := by
              rw [swC_at EI.out.len htl hjc]
              by_cases e : t = p
              · rw [if_pos e, e]; exact f4 (by omega)
              · rw [if_neg e, if_pos rfl]; exact f4 (by omega)
            rw [PT.out] at hs
            have EN : Hid (elimR r c t j r 0 (swC p t c ys) = none → RES = none) := fun h => by
              have h1 := HR.out
              rw [echC_none (p := p) (by rw [PT.out]; exact htl) FS.out (by omega) (by rw [PT.out]; exact h)] at h1
              exact h1.symm
            have EO : Hid (∀ us, elimR r c t j r 0 (swC p t c ys) = some us → echC r c k (j + 1) us (pv ++ [j]) = RES) := fun us h => by
              have h1 := HR.out
              rw [echC_on (p := p) (by rw [PT.out]; exact htl) FS.out (by omega) (by rw [PT.out]; exact h)] at h1
              exact h1
            have ZL : Hid ((swC p t c ys).length = N) := by show _ = _; rw [swC_length, ST.out.cel.len]
            obtain ⟨rfl, hI⟩ := ST.out.cel.ints N0
            have II := Lib.hid hI
            have n2 : decide ((p : Int) < 0) = false := decide_eq_false (by omega)
            rw [n1]
            clear n1 hf f1 f2 f3 f4 hI hp FS
            obtain ⟨p0, p1, p2, -, -, -⟩ := ST.out.blk.all
            go_wp2_with fail
            refine (iSwR r c p t N cap g ys _ HN.out ST.out.cel.len hr hc (by omega) hpr htl II.out).mono ?_
            rintro e w6 ⟨rfl, hi6, hg6⟩
            have ST := Lib.hid (ST.out.one (ST.out.cel.put N0 ZL.out hi6) hg6 lb g3.symm lgB g1)
            clear II hi6 hg6 p0 p1 p2
            have EZ := Lib.hid hs
            have YZ := Lib.hid hyz
            clear hs hyz EI HR
            generalize swC p t c ys = zs at EN EO ZL EZ YZ ST
            obtain ⟨E, hE⟩ : ∃ E, elimR r c t j r 0 zs = E := ⟨_, rfl⟩
            rw [hE] at EN EO
            have EE := Lib.hid hE
            clear hE
            obtain ⟨p0, p1, p2, -, -, -⟩ := ST.out.blk.all
            go_wp2_with fail
            clear p0 p1 p2
            have RW : Hid (∀ i, i < r → ∀ w', Calls Tryz.prog 44 #[.agg #[.int .i64 r, .int .i64 c, .slice (some ⟨g, 0, none⟩) N cap], .int .i64 i] w' (RowAt (some ⟨g, 0, none⟩) (i * c) c w')) := fun i hi w' => iRowIn r c i (i * c) N cap _ w' (.inr ⟨g, 0, rfl⟩) rfl (DL.out i hi) ST.out.cel.le (fun h => by cases h) (by omega) (by omega)
            go_loopw [3, 4, 12, 49] (fun _ _ _ v49 wu => ∃ (i l : Nat) (us : List Int), v49 = .int .i64 i ∧ i + l = r ∧ EInv r c (mxC c xs) us pv j ∧ mxC c us t j ≠ 0 ∧ (∀ p, p < i → p ≠ t → mxC c us p j = 0) ∧ elimR r c t j l i us = E ∧ EpSt w B b rb r c N cap g (some ⟨g, 0, none⟩) us (.slice qv t qc) pv wu) (fun _ _ _ v49 _ => r - (intOf v49).toNat)
            case atStart => exact ⟨0, r, zs, rfl, by omega, EZ.out, YZ.out, fun p hp => by omega, EE.out, ST.out⟩
            case round =>
              clear ST EZ YZ EE ZL
              obtain ⟨i, l, us, rfl, hil, he, hy, hz, hue, hst⟩ := hrel
              have ST := Lib.hid hst
              have EI := Lib.hid he
              have HY := Lib.hid hy
              have HZ := Lib.hid hz
              have UE := Lib.hid hue
              clear hst he hy hz hue
              by_cases hir : i < r
              · obtain ⟨l, rfl⟩ : ∃ l', l = l' + 1 := ⟨l - 1, by omega⟩
                by_cases hit : i = t
                · have n2 : ((i : Int) == (t : Int)) = true := by simp [hit]
                  have UE2 : Hid (elimR r c t j l (i + 1) us = E) := by
                    have h1 := UE.out
                    rw [elimR_skip (.inl hit)] at h1
                    exact h1
                  have HZ2 : Hid (∀ p, p < i + 1 → p ≠ t → mxC c us p j = 0) := fun p h1 h2 => HZ.out p (by omega) h2
                  clear hit
                  go_wp2_with fail
                  go_roundw
                  case rel => exact ⟨i + 1, l, us, by go_num, by omega, EI.out, HY.out, HZ2.out, UE2.out, ST.out⟩
                  case measure => simp [intOf]; omega
                · have n2 : ((i : Int) == (t : Int)) = false := by simp; omega
                  have ypos : 0 < mxC c us t j := (EI.out.norm t htl).pos hjc (fun q hq => EI.out.rest t q (by rw [PT.out]; exact Nat.le_refl _) htl hq) HY.out
                  obtain ⟨go1, go2⟩ := elimR_go (k := l) EI.out.len EI.out.num hir hit ypos (EI.out.norm i hir)
                  have ON : Hid (rowN c (rdV j (mxC c us i) (mxC c us t)) = true → EInv r c (mxC c xs) (rdL r c t j i us) pv j ∧ mxC c (rdL r c t j i us) t j ≠ 0 ∧ (∀ p, p < i + 1 → p ≠ t → mxC c (rdL r c t j i us) p j = 0) ∧ elimR r c t j l (i + 1) (rdL r c t j i us) = E) := fun h => by
                    have h1 := UE.out
                    rw [go1 h] at h1
                    obtain ⟨e1, e2, e3⟩ := EI.out.reduce (i := i) (by rw [PT.out]; exact htl) hjc hir (by rw [PT.out]; exact hit) (by rw [PT.out]; exact HY.out) (by rw [PT.out]; exact h)
                    rw [PT.out] at e1 e2 e3
                    refine ⟨e1, by rw [e2 t j htl hjc (fun e => hit e.symm)]; exact HY.out, fun p hp hpt => ?_, h1⟩
                    by_cases e : p = i
                    · rw [e]; exact e3
                    · rw [e2 p j (by omega) hjc e]; exact HZ.out p (by omega) hpt
                  have OF : Hid (rowN c (rdV j (mxC c us i) (mxC c us t)) ≠ true → RES = none) := fun h => EN.out (by
                    have h1 := UE.out
                    rw [go2 h] at h1
                    exact h1.symm)
                  have CL : Hid (∀ mi mt w', Ints w' g us → Calls Tryz.prog 132 #[.slice (some ⟨g, i * c, none⟩) c mi, .slice (some ⟨g, t * c, none⟩) c mt, .int .i64 j] w' (fun e w2 => ((e = .returned (.bool true) ∧ rowN c (rdV j (mxC c us i) (mxC c us t)) = true ∧ Ints w2 g (rowL r c i (rdV j (mxC c us i) (mxC c us t)) us)) ∨ (e = .returned (.bool false) ∧ rowN c (rdV j (mxC c us i) (mxC c us t)) ≠ true)) ∧ w'.grownBy w2 (some g))) := fun mi mt w' h => iClear r c i t j N g mi mt us w' HN.out ST.out.cel.len hr hc hir htl hit hjc EI.out.num HY.out h
                  have RP : Hid (prL r c i (rowL r c i (rdV j (mxC c us i) (mxC c us t)) us) = rdL r c t j i us) := rdL_prim hir
                  have RN : Hid (rowN c (rdV j (mxC c us i) (mxC c us t)) = true → nums (rowL r c i (rdV j (mxC c us i) (mxC c us t)) us) = true) := fun h => rowL_nums EI.out.len EI.out.num (rowN_iff.mp h)
                  have RL : Hid ((rowL r c i (rdV j (mxC c us i) (mxC c us t)) us).length = N) := by show _ = _; rw [rowL_length, HN.out]
                  clear go1 go2 ypos EI HY HZ UE hit
                  generalize rowL r c i (rdV j (mxC c us i) (mxC c us t)) us = rs at CL RP RN RL
                  generalize rdL r c t j i us = vs at ON RP
                  generalize rowN c (rdV j (mxC c us i) (mxC c us t)) = okr at ON OF CL RN
                  go_upto_region 21 with fail
                  refine wp_region_held_drew (S := fun w' => Blk3 w' b 26 (.int .i64 r) (.int .i64 c) (.slice (some ⟨g, 0, none⟩) N cap)) (by kernel_rfl) ST.out.drew.blk (fun hH => ?_)
                  have SD := Lib.hid ST.out.drew
                  clear ST
                  generalize wr.drew = wd at SD hH ⊢
                  refine wpAnyH_take (i := 0) (v := ?_) (by simp only [List.getElem?_toArray, List.getElem?_cons_zero]; rfl) (by kernel_rfl) (by kernel_rfl) (by kernel_rfl) (by exact fun _ _ _ h => h) (Or.inl ⟨by rfl, ?_⟩) hH ?_
                  rotate_left
                  · (intro wS hS; (try dsimp only at hS); obtain ⟨k0, k1, k2⟩ := cel3 hS; go_simp; try rfl)
                  try simp only [Act.put, List.setIfInBounds_toArray, List.set_cons_zero, List.set_cons_succ]
                  refine wpAnyH_take (i := 1) (v := ?_) (by simp only [List.getElem?_toArray, List.getElem?_cons_succ, List.getElem?_cons_zero]; rfl) (by kernel_rfl) (by kernel_rfl) (by kernel_rfl) (by exact fun _ _ _ h => h) (Or.inl ⟨by rfl, ?_⟩) hH ?_
                  rotate_left
                  · (intro wS hS; clear hS; go_simp; try rfl)
                  try simp only [Act.put, List.setIfInBounds_toArray, List.set_cons_zero, List.set_cons_succ]
                  refine wpAnyH_take (i := 3) (v := ?_) (by simp only [List.getElem?_toArray, List.getElem?_cons_succ, List.getElem?_cons_zero]; rfl) (by kernel_rfl) (by kernel_rfl) (by kernel_rfl) (by exact fun _ _ _ h => h) (Or.inl ⟨by rfl, ?_⟩) hH ?_
                  rotate_left
                  · (intro wS hS; (try dsimp only at hS); obtain ⟨k0, k1, k2⟩ := cel3 hS; go_simp; try rfl)
                  try simp only [Act.put, List.setIfInBounds_toArray, List.set_cons_zero, List.set_cons_succ]
                  refine wpAnyH_take (i := 4) (v := ?_) (by simp only [List.getElem?_toArray, List.getElem?_cons_succ, List.getElem?_cons_zero]; rfl) (by kernel_rfl) (by kernel_rfl) (by kernel_rfl) (by exact fun _ _ _ h => h) (Or.inl ⟨by rfl, ?_⟩) hH ?_
                  rotate_left
                  · (intro wS hS; clear hS; go_simp; try rfl)
                  try simp only [Act.put, List.setIfInBounds_toArray, List.set_cons_zero, List.set_cons_succ]
                  refine wpAnyH_take (i := 6) (v := ?_) (by simp only [List.getElem?_toArray, List.getElem?_cons_succ, List.getElem?_cons_zero]; rfl) (by kernel_rfl) (by kernel_rfl) (by kernel_rfl) (by exact fun _ _ _ h => h) (Or.inl ⟨by rfl, ?_⟩) hH ?_
                  rotate_left
                  · (intro wS hS; clear hS; go_simp; try rfl)
                  try simp only [Act.put, List.setIfInBounds_toArray, List.set_cons_zero, List.set_cons_succ]
                  refine wpAnyH_ready (rs := [2]) (by kernel_rfl) (by simp) ?_
                  refine AllReadyH.cons (by simp only [List.getElem?_toArray, List.getElem?_cons_succ, List.getElem?_cons_zero]; rfl) (fun K hK => ?_) AllReadyH.nil
                  go_simp
                  (with_reducible refine (RW.out i hir _).mono ?_)
                  rintro e v1 ⟨q1, m1, rfl, -, hq1, -, hb1⟩
                  obtain rfl := hq1 g 0 rfl (by omega)
                  rw [Nat.zero_add]
                  have S1 := Lib.hid (SD.out.below hb1)
                  clear hq1 hb1 SD
                  try dsimp only
                  refine hK.out _ _ ?_ (fun hH2 => ?_)
                  · exact S1.out.blk
                  clear hK K hH
                  have hH := hH2
                  clear hH2
                  try simp only [Act.put, List.setIfInBounds_toArray, List.set_cons_zero, List.set_cons_succ]
                  refine wpAnyH_ready (rs := [5]) (by kernel_rfl) (by simp) ?_
                  refine AllReadyH.cons (by simp only [List.getElem?_toArray, List.getElem?_cons_succ, List.getElem?_cons_zero]; rfl) (fun K hK => ?_) AllReadyH.nil
                  go_simp
                  (with_reducible refine (RW.out t htl _).mono ?_)
                  rintro e v2 ⟨q2, m2, rfl, -, hq2, -, hb2⟩
                  obtain rfl := hq2 g 0 rfl (by omega)
                  rw [Nat.zero_add]
                  have S2 := Lib.hid (S1.out.below hb2)
                  clear hq2 hb2 S1
                  try dsimp only
                  refine hK.out _ _ ?_ (fun hH2 => ?_)
                  · exact S2.out.blk
                  clear hK K hH
                  have hH := hH2
                  clear hH2
                  try simp only [Act.put, List.setIfInBounds_toArray, List.set_cons_zero, List.set_cons_succ]
                  refine wpAnyH_ready (rs := [7]) (by kernel_rfl) (by simp) ?_
                  refine AllReadyH.cons (by simp only [List.getElem?_toArray, List.getElem?_cons_succ, List.getElem?_cons_zero]; rfl) (fun K hK => ?_) AllReadyH.nil
                  go_simp
                  (with_reducible refine (CL.out _ _ _ (S2.out.cel.ints (by omega)).2).mono ?_)
                  rintro e v3 ⟨h3, hg3⟩
                  have K3 := Lib.hid (S2.out.blk.keepOne hg3 (by omega))
                  rcases h3 with ⟨rfl, h4, h5⟩ | ⟨rfl, h4⟩
                  · try dsimp only
                    refine hK.out _ _ ?_ (fun hH2 => ?_)
                    · exact K3.out
                    clear hK K hH
                    have hH := hH2
                    clear hH2
                    try simp only [Act.put, List.setIfInBounds_toArray, List.set_cons_zero, List.set_cons_succ]
                    refine wpAnyH_take (i := 8) (v := ?_) (by simp only [List.getElem?_toArray, List.getElem?_cons_succ, List.getElem?_cons_zero]; rfl) (by kernel_rfl) (by kernel_rfl) (by kernel_rfl) (by exact fun _ _ _ h => h) (Or.inl ⟨by rfl, ?_⟩) hH ?_
                    rotate_left
                    · (intro wS hS; clear hS; go_simp; try rfl)
                    try simp only [Act.put, List.setIfInBounds_toArray, List.set_cons_zero, List.set_cons_succ]
                    refine wpAnyH_done (by kernel_rfl) ?_ _
                    obtain ⟨e1, e2, e3, e4⟩ := ON.out h4
                    have E1 := Lib.hid e1
                    have E2 := Lib.hid e2
                    have E3 := Lib.hid e3
                    have E4 := Lib.hid e4
                    have NN := Lib.hid (RN.out h4)
                    have S3 := Lib.hid (S2.out.one (S2.out.cel.put (by omega) RL.out h5) hg3 lb g3.symm lgB g1)
                    clear e1 e2 e3 e4 h4 h5 hg3 K3 S2 hH ON OF CL RN
                    go_wp2_with fail
                    refine (PM.out i _ _ hir NN.out S3.out.blk S3.out.cel).mono ?_
                    rintro e v4 ⟨rfl, hc4, hg4⟩
                    rw [RP.out] at hc4
                    have S4 := Lib.hid (S3.out.one hc4 hg4 lb g3.symm lgB g1)
                    clear hc4 hg4 S3
                    go_wp2_with fail
                    go_roundw
                    case rel => exact ⟨i + 1, l, vs, by go_num, by omega, E1.out, E2.out, E3.out, E4.out, S4.out⟩
                    case measure => simp [intOf]; omega
                  · try dsimp only
                    refine hK.out _ _ ?_ (fun hH2 => ?_)
                    · exact K3.out
                    clear hK K hH
                    have hH := hH2
                    clear hH2
                    try simp only [Act.put, List.setIfInBounds_toArray, List.set_cons_zero, List.set_cons_succ]
                    refine wpAnyH_take (i := 8) (v := ?_) (by simp only [List.getElem?_toArray, List.getElem?_cons_succ, List.getElem?_cons_zero]; rfl) (by kernel_rfl) (by kernel_rfl) (by kernel_rfl) (by exact fun _ _ _ h => h) (Or.inl ⟨by rfl, ?_⟩) hH ?_
                    rotate_left
                    · (intro wS hS; clear hS; go_simp; try rfl)
                    try simp only [Act.put, List.setIfInBounds_toArray, List.set_cons_zero, List.set_cons_succ]
                    refine wpAnyH_done (by kernel_rfl) ?_ _
                    have RZ := Lib.hid (OF.out h4)
                    have RT3 := Lib.hid (S2.out.ret.keepOne hg3 g3.symm)
                    have BL3 := Lib.hid (S2.out.bel.trans (below_of_one hg3 g1 S2.out.bel.size))
                    clear h4 hg3 K3 S2 hH ON OF CL RN
                    obtain ⟨r0, r1, r2, f0, f1, f2⟩ := RT3.out.all
                    go_wp2_with fail
                    obtain ⟨E0, E1, E2, -, -, -⟩ := (((RT3.out.set0 (.int .i64 0)).set1 (.int .i64 0)).set2 (.slice none 0 0)).all
                    exact bodyPost_ret (v := .tuple #[.agg #[.int .i64 0, .int .i64 0, .slice none 0 0], .slice none 0 0, .bool false]) (by simp [results, Tryz.results82, go_sem, E0, E1, E2]) rfl (by rw [RZ.out]; exact ep_bad BL3.out lrb _ _ _)
              · obtain rfl : l = 0 := by omega
                have UF : Hid (echC r c k (j + 1) us (pv ++ [j]) = RES) := EO.out us UE.out.symm
                have EF : Hid (EInv r c (mxC c xs) us (pv ++ [j]) (j + 1)) := EI.out.pivot (by rw [PT.out]; exact htl) hjc (by rw [PT.out]; exact HY.out) (fun p hp hne => HZ.out p (by omega) (by rw [← PT.out]; exact hne))
                clear EI HY HZ UE EO EN
                obtain ⟨fi, hfi, hz0, hz1, hz2⟩ := facts_int
                have HO : Hid ((wr.alloc (.cells #[.int .i64 j] 3)).ownsRow B 3 1 (.slice qv t qc) t ((pvI pv).map (Value.int .i64))) := by
                  have h1 := ST.out.own.keep ((Below.refl _ _).alloc (Nat.le_refl _) (.cells #[.int .i64 j] 3))
                  unfold OwnQ at h1
                  rw [pvI_length, PT.out] at h1
                  exact h1
                have le := ST.out.le
                go_wp2_with (at_builtin; refine wpList_append_own_at _ rfl _ _ 24 rfl B 3 fi (.int .i64 0) 1 8 underlying_ints hfi hz0 hz1 hz2 rfl (by decide) _ _ _ rfl HO.out ⟨wr.heap.size, 0, none⟩ 1 1 [.int .i64 j] ?hx ?hl ?hnews ?h1 ?h63 ?hbytes ?hbase ?hnext)
                case hx => rfl
                case hl => rfl
                case hnews => exact cell_one_new _ _ _
                case h1 => intro v hv; simp at hv; subst hv; rfl
                case h63 => unfold maxLen; omega
                case hbytes => omega
                case hbase => simp; omega
                case hnext =>
                  rintro v' w7 ho hg7 - -
                  have O7 : OwnQ B w7 v' (pvI (pv ++ [j])) := by
                    unfold OwnQ pvI
                    rw [List.map_append, List.length_append, List.map_append, List.length_map, PT.out]
                    exact ho
                  have hs := ST.out.app hg7 O7 lgB lwB
                  obtain ⟨q', qc', rfl⟩ := O7.form
                  rw [pvI_length] at hs ⊢
                  have S7 := Lib.hid hs
                  clear hs O7 ho hg7
                  go_wp2_with fail
                  go_roundw
                  case rel => exact ⟨j + 1, k, us, q', qc', pv ++ [j], rfl, by go_num, by omega, EF.out, UF.out, S7.out⟩
                  case measure => simp [intOf]; omega
        · obtain rfl : k = 0 := by omega
          have RF : Hid (some (ys, pv) = RES) := HR.out
          have hpl : pv.length ≤ 24 := by rw [PT.out]; omega
          obtain ⟨r0, r1, r2, h0, h1, h2⟩ := ST.out.ret.all
          go_wp2_with fail
          obtain ⟨E0, E1, E2, -, -, -⟩ := (((ST.out.ret.set0 (.int .i64 r)).set1 (.int .i64 c)).set2 (.slice q N cap)).all
          exact bodyPost_ret (v := .tuple #[.agg #[.int .i64 r, .int .i64 c, .slice q N cap], .slice qv t qc, .bool true]) (by simp [results, Tryz.results82, go_sem, E0, E1, E2]) rfl (by rw [← RF.out]; exact ST.out.end_ (by omega) hpl lgB g1 lrb g3.symm _ _ _)
end Go.Proofs.YtcapddcmnjeloaaGreatDoor
end

section
/-
  Chapter 7, in the model: SameSpace.
-/
namespace Go.Proofs.YtcapddcmnjeloaaGreatDoor
set_option maxRecDepth 100000
open Go.RowKit
end Go.Proofs.YtcapddcmnjeloaaGreatDoor
end

section
/-
  Chapter 7, in the program: EchelonOf and RankOf of any matrix.
-/
namespace Go.Proofs.YtcapddcmnjeloaaGreatDoor
set_option maxRecDepth 100000
open Go.RowKit
theorem iEch_no (r c : Int) (a : Option Addr) (m : Nat) (xs : List Int) (w : World) (h : Rd w a xs) (hn : xs.length ≤ 16777216) (hm : isMat r c xs = false) :
    Calls Tryz.prog 82 #[.agg #[.int .i64 r, .int .i64 c, .slice a xs.length m]] w (EchG w ER.no) := by
  have IM : Hid (∀ w', Below w.heap.size w w' → Calls Tryz.prog 43 #[.agg #[.int .i64 r, .int .i64 c, .slice a xs.length m]] w' (Gives (.bool false) w')) := fun w' hb => by
    have := iIsMat r c a m xs w' (h.below hb) hn
    rw [hm] at this
    exact this
  clear h hn hm
  generalize xs.length = L at IM ⊢
  go_enter Tryz.func82, Tryz.ntmps82
  go_upto_region 1 with fail
  have K0 : Hid (Blk3 ((w.alloc (.cells #[.int .i64 r, .int .i64 c, .slice a L m] 26)).alloc (.cells #[.int .i64 0, .int .i64 0, .slice none 0 0] 26)) w.heap.size 26 (.int .i64 r) (.int .i64 c) (.slice a L m)) := (Blk3.at_ _ _ _ _ rfl).old _
  have R0 : Hid (Blk3 ((w.alloc (.cells #[.int .i64 r, .int .i64 c, .slice a L m] 26)).alloc (.cells #[.int .i64 0, .int .i64 0, .slice none 0 0] 26)) (w.heap.size + 1) 26 (.int .i64 0) (.int .i64 0) (.slice none 0 0)) := Blk3.at_ _ _ _ _ (by simp)
  have B0 : Hid (Below w.heap.size w ((w.alloc (.cells #[.int .i64 r, .int .i64 c, .slice a L m] 26)).alloc (.cells #[.int .i64 0, .int .i64 0, .slice none 0 0] 26))) := ((Below.refl _ _).alloc (Nat.le_refl _) _).alloc (by simp) _
  have S0 : Hid (((w.alloc (.cells #[.int .i64 r, .int .i64 c, .slice a L m] 26)).alloc (.cells #[.int .i64 0, .int .i64 0, .slice none 0 0] 26)).heap.size = w.heap.size + 2) := by show _ = _; simp
  generalize (w.alloc (.cells #[.int .i64 r, .int .i64 c, .slice a L m] 26)).alloc (.cells #[.int .i64 0, .int .i64 0, .slice none 0 0] 26) = W0 at K0 R0 B0 S0 ⊢
  obtain ⟨p0, p1, p2, -, -, -⟩ := K0.out.all
  go_wp2_with fail
  refine (IM.out _ B0.out).mono ?_
  rintro e w1 ⟨rfl, hb⟩
  have s0 := S0.out
  have sb := hb.size
  have R1 := Lib.hid (R0.out.step hb)
  have B1 := Lib.hid (B0.out.trans (hb.mono (by omega)))
  clear hb K0 R0 B0 S0 p0 p1 p2
  obtain ⟨r0, r1, r2, f0, f1, f2⟩ := R1.out.all
  go_wp2_with fail
  obtain ⟨E0, E1, E2, -, -, -⟩ := (((R1.out.set0 (.int .i64 0)).set1 (.int .i64 0)).set2 (.slice none 0 0)).all
  refine bodyPost_ret (v := .tuple #[.agg #[.int .i64 0, .int .i64 0, .slice none 0 0], .slice none 0 0, .bool false]) (by simp [results, Tryz.results82, go_sem, E0, E1, E2]) rfl ?_
  exact ⟨_, _, rfl, .inl ⟨rfl, rfl⟩, .inl ⟨rfl, rfl⟩, fun k hk => by simp [Value.ownBlock] at hk, ((B1.out.setCell (by simp) _).setCell (by simp) _).setCell (by simp) _⟩
theorem iEchelonOf (r c : Int) (a : Option Addr) (m : Nat) (xs : List Int) (w : World) (h : Rd w a xs) (hn : xs.length ≤ 16777216) :
    Calls Tryz.prog 82 #[.agg #[.int .i64 r, .int .i64 c, .slice a xs.length m]] w (EchG w (echR r c xs)) := by
  rcases Bool.eq_false_or_eq_true (isMat r c xs) with hm | hm
  · obtain ⟨⟨r0, r1⟩, ⟨c0, c1⟩, hl, nx⟩ := isMat_says hm
    unfold echR
    rw [if_pos hm]
    obtain ⟨R, rfl⟩ := Int.eq_ofNat_of_zero_le r0
    obtain ⟨C, rfl⟩ := Int.eq_ofNat_of_zero_le c0
    exact (iEch R C xs.length a m xs w h rfl (by rw [← Int.natCast_mul] at hl; omega) (by omega) (by omega) nx hm).mono fun _ _ h => h.g
  · unfold echR
    rw [if_neg (by rw [hm]; decide)]
    exact iEch_no r c a m xs w h hn hm
end Go.Proofs.YtcapddcmnjeloaaGreatDoor
end

section
/-
  Chapter 11, in the program: byEchelon.
-/
namespace Go.Proofs.YtcapddcmnjeloaaGreatDoor
set_option maxRecDepth 100000
open Go.RowKit
theorem quoG {W w' : World} {b : Nat} {t : TypeId} {p q r z1 z2 : Value} {y1 y2 : Addr} (h0 : Blk3 W b t p q r) (hz1 : W.cell? y1 = some z1) (hz2 : W.cell? y2 = some z2) (hb : Below W.heap.size W w') :
    w'.cell? ⟨b, 0, none⟩ = some p ∧ w'.cell? ⟨b, 1, none⟩ = some q ∧ w'.cell? ⟨b, 2, none⟩ = some r ∧ w'.cell? y1 = some z1 ∧ w'.cell? y2 = some z2 := by
  obtain ⟨a1, a2, a3, -, -, -⟩ := (h0.step hb).all
  have far : ∀ {a : Addr} {u : Value}, W.cell? a = some u → w'.cell? a = some u := fun {a u} h => (hb.cell (World.block_lt_of_cell? W a h)).trans h
  exact ⟨a1, a2, a3, far hz1, far hz2⟩
theorem seUp_length (n : Nat) (ys : List Int) (i : Nat) : (seUp n ys i).length = i := by simp [seUp]
set_option maxHeartbeats 4000000 in
theorem iByEch (n : Nat) (a : Option Addr) (m : Nat) (xs : List Int) (ab : Option Addr) (mb : Nat) (bs : List Int) (w : World) (h : Rd w a xs) (hc : CelA a xs.length m) (hs : sysB n n xs bs = true) (hb : Rd w ab bs) :
    Calls Tryz.prog 41 #[.agg #[.int .i64 n, .int .i64 n, .slice a xs.length m], .slice ab bs.length mb] w (RoadRes (seX n n xs bs).1 (seX n n xs bs).2 w) := by
  obtain ⟨n', hn', -, h6, hx, hnx, hbl, hnb⟩ := sysB_says hs
  obtain rfl : n = n' := by omega
  have M42 : n * (n + 1) ≤ 42 := Nat.le_trans (Nat.mul_le_mul h6 (Nat.succ_le_succ h6)) (by decide)
  have BS : Hid (∀ w', Below w.heap.size w w' → Calls Tryz.prog 83 #[.agg #[.int .i64 n, .int .i64 n, .slice a xs.length m], .slice ab bs.length mb] w' (CopyM n ((n : Int) + 1) (n * (n + 1)) (wdL n xs bs) w')) := fun w' hb' => iBeside n a m xs ab mb bs w' (h.below hb') hc hx (hb.below hb') hbl h6
  have EC : Hid (∀ (q : Option Addr) (qc : Nat) (w' : World), Rd w' q (wdL n xs bs) → Calls Tryz.prog 82 #[.agg #[.int .i64 n, .int .i64 ((n : Int) + 1), .slice q (n * (n + 1)) qc]] w' (EchG w' (ER.of n ((n : Int) + 1) (echM n (n + 1) (wdL n xs bs))))) := fun q qc w' hr => by
    have := iEchelonOf n ((n : Int) + 1) q qc (wdL n xs bs) w' hr (by rw [wdL_length]; omega)
    rw [ech_wide h6 hx hnx hbl hnb, wdL_length] at this
    exact this
  have MK : Hid (∀ p q w', Calls Tryz.prog 77 #[.int .i64 p, .int .i64 q] w' (Gives (.agg #[.int .i64 (mkRat p q).1, .int .i64 (mkRat p q).2]) w')) := fun p q w' => iMk p q w'
  have SN : Hid (echM n (n + 1) (wdL n xs bs) = none → seX n n xs bs = ([], false)) := fun h => seX_none hs h
  have SS : Hid (∀ ys pv, echM n (n + 1) (wdL n xs bs) = some (ys, pv) → seX n n xs bs = (if fullB n pv = true then (seUp n ys n, true) else ([], false)) ∧ ys.length = n * (n + 1) ∧ pv.length ≤ n ∧ (fullB n pv = true ↔ n ≤ pv.length ∧ ¬ ∃ k, k < pv.length ∧ (pvI pv).getD k 0 = (n : Int))) := fun ys pv he => by
    obtain ⟨E, -, -, hy, -, -⟩ := echM_says (wdL_length n xs bs) (wdL_nums hx hnx hbl hnb) he
    exact ⟨seX_some hs he, hy, E.le, full_iff E.le (fun k hk => E.col k hk) (fun k l hkl hl => E.inc k l hkl hl)⟩
  have B0 : Hid (Below w.heap.size w (w.alloc (.cells #[.int .i64 n, .int .i64 n, .slice a xs.length m] 26))) := (Below.refl _ _).alloc (Nat.le_refl _) _
  have K0 : Hid (Blk3 (w.alloc (.cells #[.int .i64 n, .int .i64 n, .slice a xs.length m] 26)) w.heap.size 26 (.int .i64 n) (.int .i64 n) (.slice a xs.length m)) := Blk3.at_ _ _ _ _ rfl
  generalize seX n n xs bs = RES at SN SS ⊢
  generalize echM n (n + 1) (wdL n xs bs) = eo at EC SN SS
  generalize wdL n xs bs = wd at BS EC
  generalize xs.length = L at BS K0 B0 ⊢
  generalize bs.length = Lb at BS ⊢
  obtain ⟨M, hM⟩ : ∃ M, n * (n + 1) = M := ⟨_, rfl⟩
  rw [hM] at BS EC M42
  have HM := Lib.hid hM
  clear h hc hs hb hx hnx hbl hnb hn' hM
  obtain ⟨z0, z1, z2, -, -, -⟩ := K0.out.all
  go_enter Tryz.func41, Tryz.ntmps41
  go_wp2_with fail
  refine (BS.out _ B0.out).mono ?_
  rintro e w1 ⟨q, qc, rfl, own, hb1⟩
  have K1 := Lib.hid (K0.out.step hb1)
  have B1 := Lib.hid (B0.out.trans (hb1.mono B0.out.size))
  obtain ⟨q', qc', eq, hq, -⟩ := own.form
  injection eq with eq1 eq2 eq3
  subst eq1
  have EC := Lib.hid (EC.out q qc w1 hq)
  clear hb1 z0 z1 z2 K0 B0 BS own hq eq2 eq3
  go_wp2_with fail
  refine EC.out.mono ?_
  rintro e w2 ⟨va, vb, rfl, oa, ob, -, hb2⟩
  have K2 := Lib.hid (K1.out.step hb2)
  have B2 := Lib.hid (B1.out.trans (hb2.mono B1.out.size))
  clear hb2 K1 EC
  obtain ⟨qa, ca, rfl, ra, -⟩ := oa.form
  obtain ⟨qb, cb, rfl, rb, -⟩ := ob.form
  have CA := Lib.hid oa.celA
  have RA := Lib.hid ra
  have RB := Lib.hid rb
  clear oa ob ra rb
  cases eo with
  | none =>
    have V := Lib.hid (SN.out rfl)
    dsimp only [ER.of, ER.no]
    have B3 := Lib.hid (B2.out.alloc B2.out.size (.cells #[.int .i64 0, .int .i64 0, .slice qa ([] : List Int).length ca] 26))
    go_wp2_with fail
    rw [V.out]
    go_ret2
    exact ⟨_, _, rfl, OwnR.nil _ _, B3.out, .inr ⟨rfl, _, _, rfl⟩⟩
  | some yp =>
  obtain ⟨ys, pv⟩ := yp
  obtain ⟨eR, hy, hpl, hfull⟩ := SS.out ys pv rfl
  dsimp only [ER.of] at RA RB CA ⊢
  have FU := Lib.hid hfull
  have ER_ := Lib.hid eR
  have HY := Lib.hid hy
  rw [hy] at CA ⊢
  have hpl2 : (pvI pv).length = pv.length := pvI_length pv
  obtain ⟨lp, hlp⟩ : ∃ l, pv.length = l := ⟨_, rfl⟩
  rw [hlp] at hpl hpl2
  rw [hpl2]
  have FU : Hid (fullB n pv = true ↔ n ≤ lp ∧ ¬ ∃ k, k < lp ∧ (pvI pv).getD k 0 = (n : Int)) := by refine Lib.hid ?_; rw [← hlp]; exact FU.out
  have HLP := Lib.hid hpl2
  rw [HM.out] at CA ⊢
  have K3 := Lib.hid (K2.out.old (.cells #[.int .i64 n, .int .i64 ((n : Int) + 1), .slice qa M ca] 26))
  have F3 : Hid (Blk3 (w2.alloc (.cells #[.int .i64 n, .int .i64 ((n : Int) + 1), .slice qa M ca] 26)) w2.heap.size 26 (.int .i64 n) (.int .i64 ((n : Int) + 1)) (.slice qa M ca)) := Blk3.at_ _ _ _ _ rfl
  have B3 := Lib.hid (B2.out.alloc B2.out.size (.cells #[.int .i64 n, .int .i64 ((n : Int) + 1), .slice qa M ca] 26))
  have RA := Lib.hid (RA.out.below ((Below.refl _ _).alloc (Nat.le_refl _) (.cells #[.int .i64 n, .int .i64 ((n : Int) + 1), .slice qa M ca] 26)))
  have RB := Lib.hid (RB.out.below ((Below.refl _ _).alloc (Nat.le_refl _) (.cells #[.int .i64 n, .int .i64 ((n : Int) + 1), .slice qa M ca] 26)))
  clear eR hy hfull hlp hpl2 SN SS K2 B2
  go_upto_region 2 with fail
  generalize w2.alloc (.cells #[.int .i64 n, .int .i64 ((n : Int) + 1), .slice qa M ca] 26) = W3 at K3 F3 B3 RA RB ⊢
  obtain ⟨b6, hb6⟩ : ∃ b, w2.heap.size = b := ⟨_, rfl⟩
  rw [hb6] at F3 ⊢
  clear hb6
  obtain ⟨z0, z1, z2, -, -, -⟩ := K3.out.all
  by_cases hln : lp < n
  · have FF : fullB n pv = false := by
      cases hf : fullB n pv with
      | false => rfl
      | true => have := (FU.out.1 hf).1; omega
    have V : Hid (RES = ([], false)) := by show _ = _; rw [ER_.out, FF]; rfl
    clear FF
    go_wp2_with fail
    rw [V.out]
    go_ret2
    exact ⟨_, _, rfl, OwnR.nil _ _, B3.out, .inr ⟨rfl, _, _, rfl⟩⟩
  obtain rfl : lp = n := by omega
  obtain ⟨t, ht⟩ : ∃ t : Bool, t = true ↔ ∃ k, k < lp ∧ (pvI pv).getD k 0 = (lp : Int) := by
    by_cases hx : ∃ k, k < lp ∧ (pvI pv).getD k 0 = (lp : Int)
    · exact ⟨true, iff_of_true rfl hx⟩
    · exact ⟨false, iff_of_false (by decide) hx⟩
  have CT := Lib.hid (iContainsV (lp : Int) lp cb qb (pvI pv) W3 RB.out HLP.out (by omega) t ht)
  have FT : Hid (fullB lp pv = !t) := by
    show _ = _
    rw [Bool.eq_iff_iff, FU.out, ← ht]
    cases t <;> simp
  rw [FT.out] at ER_
  clear ht hln FU FT RB
  go_wp2_with fail
  refine CT.out.mono ?_
  rintro e w' ⟨rfl, rfl⟩
  cases t with
  | true =>
    have V : Hid (RES = ([], false)) := ER_.out
    go_wp2_with fail
    rw [V.out]
    go_ret2
    exact ⟨_, _, rfl, OwnR.nil _ _, B3.out, .inr ⟨rfl, _, _, rfl⟩⟩
  | false =>
  have V : Hid (RES = (seUp lp ys lp, true)) := ER_.out
  have US : Hid (∀ j, j < lp → ∀ u, (seUp lp ys j ++ List.replicate (lp - j) ((0, 0) : Int × Int)).set j u = (seUp lp ys j ++ [u]) ++ List.replicate (lp - (j + 1)) ((0, 0) : Int × Int)) := fun j hj u => up_set (seUp_length _ _ _) hj u
  have UL : Hid (∀ j, j ≤ lp → (seUp lp ys j ++ List.replicate (lp - j) ((0, 0) : Int × Int)).length = lp) := fun j hj => by
    show _ = _; rw [List.length_append, seUp_length, List.length_replicate]; omega
  have RW : Hid (∀ i, i < lp → ∀ w', Calls Tryz.prog 44 #[.agg #[.int .i64 lp, .int .i64 ((lp : Int) + 1), .slice qa M ca], .int .i64 i] w' (RowAt qa (i * (lp + 1)) (lp + 1) w')) := fun i hi w' => iRowIn lp (lp + 1) i (i * (lp + 1)) M ca qa w' CA.out.spot rfl (by rw [← HM.out, ← Nat.succ_mul]; exact Nat.mul_le_mul_right _ hi) CA.out.le CA.out.nil (by omega) (by omega)
  have hmk := makeQx lp (by omega)
  have g1 := K3.out.lt
  have g2 := F3.out.lt
  have g0 := B3.out.size
  have Q1 : Hid (QsX (W3.alloc (.cells (madeCells #[.int .i64 0, .int .i64 0] (lp * 2)) 40)) W3.heap.size (seUp lp ys 0 ++ List.replicate (lp - 0) ((0, 0) : Int × Int))) := QsX.made lp rfl
  have K4 := Lib.hid (K3.out.old (.cells (madeCells #[.int .i64 0, .int .i64 0] (lp * 2)) 40))
  have F4 := Lib.hid (F3.out.old (.cells (madeCells #[.int .i64 0, .int .i64 0] (lp * 2)) 40))
  have B4 := Lib.hid (B3.out.alloc B3.out.size (.cells (madeCells #[.int .i64 0, .int .i64 0] (lp * 2)) 40))
  have RA3 := RA
  have RA := Lib.hid (RA.out.below ((Below.refl _ _).alloc (Nat.le_refl _) (.cells (madeCells #[.int .i64 0, .int .i64 0] (lp * 2)) 40)))
  clear CT
  go_upto_region 7 with fail
  obtain ⟨g, hg⟩ : ∃ g, W3.heap.size = g := ⟨_, rfl⟩
  have HG := Lib.hid hg
  rw [hg] at Q1 g0 g1 g2 ⊢
  generalize W3.alloc (.cells (madeCells #[.int .i64 0, .int .i64 0] (lp * 2)) 40) = W4 at Q1 K4 F4 B4 RA ⊢
  clear hg hmk z0 z1 z2 K3 F3 B3
  have SRC : Hid (∀ i q7, i < lp → (∀ g0 o : Nat, qa = some ⟨g0, o, none⟩ → 0 < lp + 1 → q7 = some ⟨g0, o + i * (lp + 1), none⟩) → ∀ wx, W4.grownBy wx (some g) → Rd wx q7 (rwL (lp + 1) (mxC (lp + 1) ys i))) := fun i q7 hlt hq7 wx hgx => by
    have h0 : 0 < ys.length := by rw [HY.out]; exact Nat.mul_pos (by omega) (by omega)
    have h1 : Rd wx qa ys := RA.out.one hgx (fun b o e e2 => by
      subst e2
      obtain ⟨b', o', e', hc'⟩ := RA3.out 0 h0
      rw [e] at e'
      injection e' with e'
      injection e' with e' _
      subst e'
      have := World.block_lt_of_cell? W3 _ hc'
      simp at this
      have := HG.out
      omega)
    exact h1.row HY.out hlt hq7
  go_wp2_with fail
  go_loopw [10, 11, 40] (fun _ _ v40 wr => ∃ i : Nat, v40 = .int .i64 i ∧ i ≤ lp ∧ QsX wr g (seUp lp ys i ++ List.replicate (lp - i) ((0, 0) : Int × Int)) ∧ Blk3 wr w.heap.size 26 (.int .i64 lp) (.int .i64 lp) (.slice a L m) ∧ Blk3 wr b6 26 (.int .i64 lp) (.int .i64 ((lp : Int) + 1)) (.slice qa M ca) ∧ W4.grownBy wr (some g) ∧ Below w.heap.size w wr) (fun _ _ v40 _ => lp - (intOf v40).toNat)
  case atStart => exact ⟨0, rfl, by omega, Q1.out, K4.out, F4.out, World.grownBy.refl _ _, B4.out⟩
  case round =>
    clear Q1 K4 F4 B4 RA
    obtain ⟨i, rfl, hi, hQ, hK, hF, hG, hB⟩ := hrel
    have Q := Lib.hid hQ
    have K := Lib.hid hK
    have F := Lib.hid hF
    have G := Lib.hid hG
    have B := Lib.hid hB
    clear hQ hK hF hG hB
    by_cases hlt : i < lp
    · obtain ⟨z0, z1, z2, -, -, -⟩ := F.out.all
      go_wp2_with fail
      refine (RW.out i hlt _).mono ?_
      rintro e w7 ⟨q7, m7, rfl, hm7, hq7, -, hb7⟩
      have Q := Lib.hid (Q.out.keep hb7 Q.out.lt)
      have K := Lib.hid (K.out.step hb7)
      have F := Lib.hid (F.out.step hb7)
      have G := Lib.hid (G.out.trans (grown_of_below hb7 (some g)))
      have B := Lib.hid (B.out.trans (hb7.mono B.out.size))
      have SR := Lib.hid (SRC.out i q7 hlt hq7 _ G.out)
      clear hb7 z0 z1 z2 hq7
      obtain ⟨b1, o1, rfl, hc1⟩ := SR.out lp (by rw [rwL_length]; omega)
      obtain ⟨b2, o2, eb, hc2⟩ := SR.out i (by rw [rwL_length]; omega)
      injection eb with eb
      injection eb with eb1 eb2
      subst eb1 eb2
      rw [rwL_at (by omega)] at hc1 hc2
      have SU := Lib.hid (seUp_succ lp ys i)
      have e1 : mxC (lp + 1) ys i lp = ys.getD (i * (lp + 1) + lp) 0 := rfl
      have e2 : mxC (lp + 1) ys i i = ys.getD (i * (lp + 1) + i) 0 := rfl
      rw [e1] at hc1
      rw [e2] at hc2
      generalize ys.getD (i * (lp + 1) + lp) 0 = z1 at hc1 SU
      generalize ys.getD (i * (lp + 1) + i) 0 = z2 at hc2 SU
      have Z1 := Lib.hid hc1
      have Z2 := Lib.hid hc2
      have MKi := Lib.hid (MK.out z1 z2)
      generalize hmr : mkRat z1 z2 = mr at SU MKi
      obtain ⟨mn, md⟩ := mr
      have QL := Lib.hid (UL.out i (by omega))
      have i1 : (i : Int) < (lp : Int) + 1 := by omega
      have i2 : (lp : Int) < (lp : Int) + 1 := by omega
      clear e1 e2 hc1 hc2 hmr
      go_upto_region 11 with fail
      refine wp_region_T (S := fun w' => Below w7.heap.size w7 w') (T := fun j => j == 13) (by kernel_rfl) (Below.refl _ _).drew (fun hH => ?_)
      refine wpAnyT_take (i := 0) (v := ?_) (by simp only [List.getElem?_toArray, List.getElem?_cons_zero]; rfl) (by kernel_rfl) (by kernel_rfl) (by kernel_rfl) (by kernel_rfl) (one_only 13 (by kernel_rfl)) (by exact fun _ _ _ h => h) (Or.inl ⟨by rfl, ?_⟩) hH ?_
      rotate_left
      · (intro wS hS; clear hS; go_simp; try rfl)
      try simp only [Act.put, List.setIfInBounds_toArray, List.set_cons_zero, List.set_cons_succ]
      refine wpAnyT_take (i := 1) (v := ?_) (by simp only [List.getElem?_toArray, List.getElem?_cons_succ, List.getElem?_cons_zero]; rfl) (by kernel_rfl) (by kernel_rfl) (by kernel_rfl) (by kernel_rfl) (one_only 13 (by kernel_rfl)) (by exact fun _ _ _ h => h) (Or.inl ⟨by rfl, ?_⟩) hH ?_
      rotate_left
      · (intro wS hS; clear hS; go_simp; try rfl)
      try simp only [Act.put, List.setIfInBounds_toArray, List.set_cons_zero, List.set_cons_succ]
      refine wpAnyT_take (i := 2) (v := ?_) (by simp only [List.getElem?_toArray, List.getElem?_cons_succ, List.getElem?_cons_zero]; rfl) (by kernel_rfl) (by kernel_rfl) (by kernel_rfl) (by kernel_rfl) (one_only 13 (by kernel_rfl)) (by exact fun _ _ _ h => h) (Or.inl ⟨by rfl, ?_⟩) hH ?_
      rotate_left
      · (intro wS hS; clear hS; go_simp; try rfl)
      try simp only [Act.put, List.setIfInBounds_toArray, List.set_cons_zero, List.set_cons_succ]
      refine wpAnyT_take (i := 3) (v := ?_) (by simp only [List.getElem?_toArray, List.getElem?_cons_succ, List.getElem?_cons_zero]; rfl) (by kernel_rfl) (by kernel_rfl) (by kernel_rfl) (by kernel_rfl) (one_only 13 (by kernel_rfl)) (by exact fun _ _ _ h => h) (Or.inl ⟨by rfl, ?_⟩) hH ?_
      rotate_left
      · (intro wS hS; clear hS; go_simp; try rfl)
      try simp only [Act.put, List.setIfInBounds_toArray, List.set_cons_zero, List.set_cons_succ]
      refine wpAnyT_take (i := 4) (v := ?_) (by simp only [List.getElem?_toArray, List.getElem?_cons_succ, List.getElem?_cons_zero]; rfl) (by kernel_rfl) (by kernel_rfl) (by kernel_rfl) (by kernel_rfl) (one_only 13 (by kernel_rfl)) (by exact fun _ _ _ h => h) (Or.inl ⟨by rfl, ?_⟩) hH ?_
      rotate_left
      · (intro wS hS; (try dsimp only at hS); obtain ⟨k1, k2, k3, k4, k5⟩ := quoG K.out Z1.out Z2.out hS; go_simp; try rfl)
      try simp only [Act.put, List.setIfInBounds_toArray, List.set_cons_zero, List.set_cons_succ]
      refine wpAnyT_take (i := 5) (v := ?_) (by simp only [List.getElem?_toArray, List.getElem?_cons_succ, List.getElem?_cons_zero]; rfl) (by kernel_rfl) (by kernel_rfl) (by kernel_rfl) (by kernel_rfl) (one_only 13 (by kernel_rfl)) (by exact fun _ _ _ h => h) (Or.inl ⟨by rfl, ?_⟩) hH ?_
      rotate_left
      · (intro wS hS; clear hS; go_simp; try rfl)
      try simp only [Act.put, List.setIfInBounds_toArray, List.set_cons_zero, List.set_cons_succ]
      refine wpAnyT_take (i := 6) (v := ?_) (by simp only [List.getElem?_toArray, List.getElem?_cons_succ, List.getElem?_cons_zero]; rfl) (by kernel_rfl) (by kernel_rfl) (by kernel_rfl) (by kernel_rfl) (one_only 13 (by kernel_rfl)) (by exact fun _ _ _ h => h) (Or.inl ⟨by rfl, ?_⟩) hH ?_
      rotate_left
      · (intro wS hS; (try dsimp only at hS); obtain ⟨k1, k2, k3, k4, k5⟩ := quoG K.out Z1.out Z2.out hS; go_simp; try rfl)
      try simp only [Act.put, List.setIfInBounds_toArray, List.set_cons_zero, List.set_cons_succ]
      refine wpAnyT_take (i := 7) (v := ?_) (by simp only [List.getElem?_toArray, List.getElem?_cons_succ, List.getElem?_cons_zero]; rfl) (by kernel_rfl) (by kernel_rfl) (by kernel_rfl) (by kernel_rfl) (one_only 13 (by kernel_rfl)) (by exact fun _ _ _ h => h) (Or.inl ⟨by rfl, ?_⟩) hH ?_
      rotate_left
      · (intro wS hS; clear hS; go_simp; try rfl)
      try simp only [Act.put, List.setIfInBounds_toArray, List.set_cons_zero, List.set_cons_succ]
      refine wpAnyT_take (i := 8) (v := ?_) (by simp only [List.getElem?_toArray, List.getElem?_cons_succ, List.getElem?_cons_zero]; rfl) (by kernel_rfl) (by kernel_rfl) (by kernel_rfl) (by kernel_rfl) (one_only 13 (by kernel_rfl)) (by exact fun _ _ _ h => h) (Or.inl ⟨by rfl, ?_⟩) hH ?_
      rotate_left
      · (intro wS hS; clear hS; go_simp; try rfl)
      try simp only [Act.put, List.setIfInBounds_toArray, List.set_cons_zero, List.set_cons_succ]
      refine wpAnyT_take (i := 9) (v := ?_) (by simp only [List.getElem?_toArray, List.getElem?_cons_succ, List.getElem?_cons_zero]; rfl) (by kernel_rfl) (by kernel_rfl) (by kernel_rfl) (by kernel_rfl) (one_only 13 (by kernel_rfl)) (by exact fun _ _ _ h => h) (Or.inl ⟨by rfl, ?_⟩) hH ?_
      rotate_left
      · (intro wS hS; clear hS; go_simp; try rfl)
      try simp only [Act.put, List.setIfInBounds_toArray, List.set_cons_zero, List.set_cons_succ]
      refine wpAnyT_take (i := 10) (v := ?_) (by simp only [List.getElem?_toArray, List.getElem?_cons_succ, List.getElem?_cons_zero]; rfl) (by kernel_rfl) (by kernel_rfl) (by kernel_rfl) (by kernel_rfl) (one_only 13 (by kernel_rfl)) (by exact fun _ _ _ h => h) (Or.inl ⟨by rfl, ?_⟩) hH ?_
      rotate_left
      · (intro wS hS; (try dsimp only at hS); obtain ⟨k1, k2, k3, k4, k5⟩ := quoG K.out Z1.out Z2.out hS; go_simp; try rfl)
      try simp only [Act.put, List.setIfInBounds_toArray, List.set_cons_zero, List.set_cons_succ]
      refine wpAnyT_ready (rs := [11]) (by kernel_rfl) (by simp) ?_
      refine AllReadyT.cons (by simp only [List.getElem?_toArray, List.getElem?_cons_succ, List.getElem?_cons_zero]; rfl) (fun K hK => ?_) AllReadyT.nil
      go_simp
      (with_reducible refine (MKi.out _).mono ?_)
      rintro e v1 ⟨rfl, hb1⟩
      try dsimp only
      refine hK.out _ _ (fun _ => hH.trans (hb1.mono hH.size)) ?_
      clear hK K
      have hH := hH.trans (hb1.mono hH.size)
      try simp only [Act.put, List.setIfInBounds_toArray, List.set_cons_zero, List.set_cons_succ]
      refine wpAnyT_take (i := 12) (v := ?_) (by simp only [List.getElem?_toArray, List.getElem?_cons_succ, List.getElem?_cons_zero]; rfl) (by kernel_rfl) (by kernel_rfl) (by kernel_rfl) (by kernel_rfl) (one_only 13 (by kernel_rfl)) (by exact fun _ _ _ h => h) (Or.inl ⟨by rfl, ?_⟩) hH ?_
      rotate_left
      · (intro wS hS; clear hS; go_simp; try rfl)
      try simp only [Act.put, List.setIfInBounds_toArray, List.set_cons_zero, List.set_cons_succ]
      refine wpAnyT_ready (rs := [13]) (by kernel_rfl) (by simp) ?_
      refine AllReadyT.cons (by simp only [List.getElem?_toArray, List.getElem?_cons_succ, List.getElem?_cons_zero]; rfl) (fun K hK => ?_) AllReadyT.nil
      obtain ⟨c80, c81⟩ := (Q.out.keep hH Q.out.lt).qs.cells (q := i) (by rw [QL.out]; exact hlt)
      have f80 := (Q.out.keep hH Q.out.lt).qs.free (i * 2)
      have f81 := (Q.out.keep hH Q.out.lt).qs.free (i * 2 + 1)
      go_simp
      try dsimp only
      refine hK.out _ _ (fun h => by cases h) ?_
      clear hK K
      try simp only [Act.put, List.setIfInBounds_toArray, List.set_cons_zero, List.set_cons_succ]
      refine wpAnyT_done (by kernel_rfl) ?_ _
      go_wp2_with fail
      go_roundw
      case rel =>
        refine ⟨i + 1, by go_num, by omega, ?_, ((K.out.step hH).far (by show w.heap.size ≠ g; omega) _).far (by show w.heap.size ≠ g; omega) _, ((F.out.step hH).far (by show b6 ≠ g; omega) _).far (by show b6 ≠ g; omega) _, grown_set_one (a := ⟨g, i * 2 + 1, none⟩) (grown_set_one (a := ⟨g, i * 2, none⟩) (G.out.trans (grown_of_below hH (some g))) rfl _) rfl _, ((B.out.trans (hH.mono B.out.size)).setCell (by show w.heap.size ≤ g; omega) _).setCell (by show w.heap.size ≤ g; omega) _⟩
        have := (Q.out.keep hH Q.out.lt).set (q := i) (by rw [QL.out]; exact hlt) (mn, md)
        rw [US.out i hlt, ← SU.out] at this
        exact this
      case measure => simp [intOf]; omega
    · obtain rfl : i = lp := by omega
      have QE : QsX wr g (seUp i ys i) := by
        have := Q.out
        rw [Nat.sub_self, List.replicate_zero, List.append_nil] at this
        exact this
      have OE := QE.own g0 (by rw [seUp_length]; omega)
      rw [seUp_length] at OE
      have OE := Lib.hid OE
      clear QE
      go_wp2_with fail
      rw [V.out]
      go_ret2
      exact ⟨_, _, rfl, OE.out, B.out, .inl ⟨rfl, rfl⟩⟩
end Go.Proofs.YtcapddcmnjeloaaGreatDoor
end

section
/-
  Chapter 11, in the program: SolveByEchelon.
-/
namespace Go.Proofs.YtcapddcmnjeloaaGreatDoor
set_option maxRecDepth 100000
open Go.RowKit
theorem sysREch {r c : Int} {xs bs : List Int} (h : isSq r c xs = true) : fitR r bs = sysB r c xs bs := by
  obtain ⟨n, rfl, -, h6, -, -⟩ := isSq_says h
  rw [fitR_eq (by omega)]
  unfold sysB
  rw [h, Bool.true_and]
set_option maxHeartbeats 2000000 in
theorem iSolveEch (r c : Int) (a : Option Addr) (m : Nat) (xs : List Int) (ab : Option Addr) (mb : Nat) (bs : List Int) (w : World) (h : Rd w a xs) (hn : xs.length ≤ 16777216) (hb : Rd w ab bs) (hbn : bs.length ≤ 16777216) (zs : List (Int × Int)) (ok : Bool)
    (HN : sysB r c xs bs = false → zs = [] ∧ ok = false) (HY : sysB r c xs bs = true → ∀ w', Below w.heap.size w w' → Calls Tryz.prog 41 #[.agg #[.int .i64 r, .int .i64 c, .slice a xs.length m], .slice ab bs.length mb] w' (RoadRes zs ok w')) :
    Calls Tryz.prog 35 #[.agg #[.int .i64 r, .int .i64 c, .slice a xs.length m], .slice ab bs.length mb, .func (.func 41) #[] #[]] w (QRes zs ok w) := by
  have SQ : Hid (∀ w', Below w.heap.size w w' → Calls Tryz.prog 73 #[.agg #[.int .i64 r, .int .i64 c, .slice a xs.length m]] w' (Gives (.bool (isSq r c xs)) w')) := fun w' hb' => iIsSq r c a m xs w' (h.below hb') hn
  have FT : Hid (∀ w', Below w.heap.size w w' → Calls Tryz.prog 74 #[.agg #[.int .i64 r, .int .i64 c, .slice a xs.length m], .slice ab bs.length mb] w' (Gives (.bool (fitR r bs)) w')) := fun w' hb' => iFits r c a xs.length m ab mb bs w' (hb.below hb') hbn
  have HN := Lib.hid HN
  have HY := Lib.hid HY
  have K0 : Hid (Blk3 (w.alloc (.cells #[.int .i64 r, .int .i64 c, .slice a xs.length m] 26)) w.heap.size 26 (.int .i64 r) (.int .i64 c) (.slice a xs.length m)) := Blk3.at_ _ _ _ _ rfl
  have B0 : Hid (Below w.heap.size w (w.alloc (.cells #[.int .i64 r, .int .i64 c, .slice a xs.length m] 26))) := (Below.refl _ _).alloc (Nat.le_refl _) _
  have NS : Hid (isSq r c xs = false → sysB r c xs bs = false) := fun h => sysB_false (.inl h)
  have YS : Hid (isSq r c xs = true → fitR r bs = sysB r c xs bs) := fun h => sysREch h
  generalize sysB r c xs bs = sb at HN HY NS YS
  generalize isSq r c xs = sq at SQ NS YS
  generalize fitR r bs = ft at FT YS
  generalize xs.length = L at SQ FT HY K0 B0 hn ⊢
  generalize bs.length = Lb at FT HY hbn ⊢
  clear h hb
  obtain ⟨z0, z1, z2, -, -, -⟩ := K0.out.all
  go_enter Tryz.func35, Tryz.ntmps35
  go_wp2_with fail
  refine (SQ.out _ B0.out).mono ?_
  rintro e w1 ⟨rfl, hb1⟩
  have K1 := Lib.hid (K0.out.step hb1)
  have B1 := Lib.hid (B0.out.trans (hb1.mono B0.out.size))
  clear hb1 z0 z1 z2 K0 B0 SQ
  obtain ⟨z0, z1, z2, -, -, -⟩ := K1.out.all
  cases sq with
  | false =>
    obtain ⟨e1, e2⟩ := HN.out (NS.out rfl)
    subst e1 e2
    go_wp2_with fail
    go_ret2
    exact ⟨_, rfl, OwnR.nil _ _, B1.out⟩
  | true =>
    have e3 : ft = sb := YS.out rfl
    subst e3
    go_wp2_with fail
    refine (FT.out _ B1.out).mono ?_
    rintro e w2 ⟨rfl, hb2⟩
    have K2 := Lib.hid (K1.out.step hb2)
    have B2 := Lib.hid (B1.out.trans (hb2.mono B1.out.size))
    clear hb2 z0 z1 z2 K1 B1 FT
    obtain ⟨z0, z1, z2, -, -, -⟩ := K2.out.all
    cases ft with
    | false =>
      obtain ⟨e1, e2⟩ := HN.out rfl
      subst e1 e2
      go_wp2_with fail
      go_ret2
      exact ⟨_, rfl, OwnR.nil _ _, B2.out⟩
    | true =>
      have HR : Hid (∀ w', Below w.heap.size w w' → Calls Tryz.prog 41 #[.agg #[.int .i64 r, .int .i64 c, .slice a L m], .slice ab Lb mb] w' (RoadRes zs ok w')) := HY.out rfl
      go_wp2_with fail
      refine (HR.out _ B2.out).mono ?_
      rintro e w3 ⟨v, ev, rfl, own, hb3, hev⟩
      obtain ⟨qa, qc, rfl⟩ := own.form
      have B3 := Lib.hid (B2.out.trans (hb3.mono B2.out.size))
      have OW := Lib.hid (own.le B2.out.size)
      clear hb3 own z0 z1 z2 K2
      rcases hev with ⟨rfl, rfl⟩ | ⟨rfl, ty, u, rfl⟩
      · go_wp2_with fail
        go_quiet (fail)
        go_wp2_with fail
        go_ret2
        exact ⟨_, rfl, OW.out, below_drewN B3.out _⟩
      · go_wp2_with fail
        go_quiet (fail)
        go_wp2_with fail
        go_ret2
        exact ⟨_, rfl, OW.out, below_drewN B3.out _⟩
theorem iSe (r c : Int) (a : Option Addr) (m : Nat) (xs : List Int) (ab : Option Addr) (mb : Nat) (bs : List Int) (w : World) (h : Rd w a xs) (hc : CelA a xs.length m) (hn : xs.length ≤ 16777216) (hb : Rd w ab bs) (hbn : bs.length ≤ 16777216) :
    Calls Tryz.prog 10 #[.agg #[.int .i64 r, .int .i64 c, .slice a xs.length m], .slice ab bs.length mb] w (QRes (seX r c xs bs).1 (seX r c xs bs).2 w) := by
  have SV : Hid (∀ w', Below w.heap.size w w' → Calls Tryz.prog 35 #[.agg #[.int .i64 r, .int .i64 c, .slice a xs.length m], .slice ab bs.length mb, .func (.func 41) #[] #[]] w' (QRes (seX r c xs bs).1 (seX r c xs bs).2 w')) := fun w' hb' => iSolveEch r c a m xs ab mb bs w' (h.below hb') hn (hb.below hb') hbn _ _ (fun h => by rw [seX_sys h]; exact ⟨rfl, rfl⟩) (fun hs w2 hb2 => by
    obtain ⟨n, rfl, rfl, -⟩ := sysB_says hs
    exact iByEch n a m xs ab mb bs w2 ((h.below hb').below hb2) hc hs ((hb.below hb').below hb2))
  have B0 : Hid (Below w.heap.size w (w.alloc (.cells #[.int .i64 r, .int .i64 c, .slice a xs.length m] 26))) := (Below.refl _ _).alloc (Nat.le_refl _) _
  have K0 : Hid (Blk3 (w.alloc (.cells #[.int .i64 r, .int .i64 c, .slice a xs.length m] 26)) w.heap.size 26 (.int .i64 r) (.int .i64 c) (.slice a xs.length m)) := Blk3.at_ _ _ _ _ rfl
  generalize seX r c xs bs = RES at SV ⊢
  generalize xs.length = L at SV K0 B0 ⊢
  generalize bs.length = Lb at SV ⊢
  clear h hn hb hbn hc
  obtain ⟨z0, z1, z2, -, -, -⟩ := K0.out.all
  go_enter Tryz.func10, Tryz.ntmps10
  go_wp2_with fail
  refine (SV.out _ B0.out).mono ?_
  rintro e w1 ⟨v, rfl, own, hb1⟩
  obtain ⟨qa, qc, rfl⟩ := own.form
  have B1 := Lib.hid (B0.out.trans (hb1.mono B0.out.size))
  have OW := Lib.hid (own.le B0.out.size)
  clear hb1 own z0 z1 z2 K0
  go_wp2_with fail
  go_ret2
  exact ⟨_, rfl, OW.out, B1.out⟩
end Go.Proofs.YtcapddcmnjeloaaGreatDoor
end
