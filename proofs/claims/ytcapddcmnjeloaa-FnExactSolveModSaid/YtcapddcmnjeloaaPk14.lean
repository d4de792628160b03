/-
  Texts of this seat, joined: IvxS · SvS · SvI
-/
import Derived.BigQuiet
import Derived.Test.YtcapddcmnjeloaaPk3
import Derived.Test.YtcapddcmnjeloaaPk8
import Derived.Test.YtcapddcmnjeloaaPk11
import Derived.Test.YtcapddcmnjeloaaPk12

section
/-
  Chapter 8, in the model: InverseMod.
-/
namespace Go.Proofs.Ytcapddcmnjeloaa
set_option maxRecDepth 100000
open Go.RowKit

set_option maxHeartbeats 4000000 in
theorem sIvx (r c p : Int) (a : Option Addr) (m : Nat) (xs : List Int) (w : World) (h : Rd w a xs) (hn : xs.length ≤ 16777216) (ha : Spot a) :
    Calls Try.prog 11 #[.agg #[.int .i64 r, .int .i64 c, .slice a xs.length m], .int .i64 p] w (MatRes (ivX r c p xs) w) := by
  have RD : Hid (∀ w', Below w.heap.size w w' → Calls Try.prog 44 #[.agg #[.int .i64 r, .int .i64 c, .slice a xs.length m], .int .i64 p] w' (MatRes (redM r c p xs) w')) := fun w' hb => sRed r c p a m xs w' (h.below hb) hn ha
  have K0 : Hid (Blk3 ((w.alloc (.cells #[.int .i64 r, .int .i64 c, .slice a xs.length m] 26)).alloc (.cells #[.int .i64 0, .int .i64 0, .slice none 0 0] 26)) w.heap.size 26 (.int .i64 r) (.int .i64 c) (.slice a xs.length m)) := (Blk3.at_ _ _ _ _ rfl).old _
  have R0 : Hid (Blk3 ((w.alloc (.cells #[.int .i64 r, .int .i64 c, .slice a xs.length m] 26)).alloc (.cells #[.int .i64 0, .int .i64 0, .slice none 0 0] 26)) (w.heap.size + 1) 26 (.int .i64 0) (.int .i64 0) (.slice none 0 0)) := Blk3.at_ _ _ _ _ (by simp)
  have B0 : Hid (Below w.heap.size w ((w.alloc (.cells #[.int .i64 r, .int .i64 c, .slice a xs.length m] 26)).alloc (.cells #[.int .i64 0, .int .i64 0, .slice none 0 0] 26))) := ((Below.refl _ _).alloc (Nat.le_refl _) _).alloc (by simp) _
  have S0 : Hid (((w.alloc (.cells #[.int .i64 r, .int .i64 c, .slice a xs.length m] 26)).alloc (.cells #[.int .i64 0, .int .i64 0, .slice none 0 0] 26)).heap.size = w.heap.size + 2) := by show _ = _; simp
  rcases Bool.eq_false_or_eq_true (isMat r c xs && prmB p) with hh | hh
  · obtain ⟨R, C, N, rfl, rfl, hN, hR, hC, hx, hl, hp, hcan, e1, -, -⟩ := rkM_yes hh
    have N2 : Hid (R ≠ C → ivX R C p xs = MR.no) := fun h => ivX_no2 (by omega)
    have N3 : Hid (¬ R ≤ 12 → ivX R C p xs = MR.no) := fun h => ivX_no3 (by omega)
    have YY : Hid (R = C → R ≤ 12 → ivX R C p xs = if (elW p R xs).2.1.length < R then MR.no else ⟨true, R, R, hfTo R (elW p R xs).1 R 0⟩) := fun h1 h2 => by
      subst h1
      show _ = _
      rw [ivX_at hh h2, hfTo_all]
    rw [e1] at RD
    have PB := Lib.hid hp
    have HN := Lib.hid hN
    have HC := Lib.hid hcan
    have HX := Lib.hid hx
    have HL := Lib.hid hl
    rw [hx] at RD K0 R0 B0 S0 ⊢
    clear h hn ha hx hN hcan e1 hh hp hl
    generalize ivX R C p xs = RES at N2 N3 YY ⊢
    go_enter Try.func11, Try.ntmps11
    go_upto_region 1 with fail
    generalize (w.alloc (.cells #[.int .i64 R, .int .i64 C, .slice a N m] 26)).alloc (.cells #[.int .i64 0, .int .i64 0, .slice none 0 0] 26) = W0 at K0 R0 B0 S0 ⊢
    obtain ⟨p0, p1, p2, -, -, -⟩ := K0.out.all
    go_wp2_with fail
    refine (RD.out _ B0.out).mono ?_
    rintro e w1 ⟨v, rfl, own, hb⟩
    obtain ⟨q, cap, rfl, -, -⟩ := own.form
    dsimp only
    rw [HL.out]
    replace own := own.le (show w.heap.size ≤ _ by have := S0.out; omega)
    rw [HL.out] at own
    have s0 := S0.out
    have s1 := hb.size
    have Bx := B0.out.trans (hb.mono (by omega))
    have B2 := Lib.hid (Bx.alloc Bx.size (.cells #[.int .i64 R, .int .i64 C, .slice q N cap] 26))
    have Q2 := Lib.hid (own.elim.1.below ((Below.refl _ _).alloc (Nat.le_refl _) (.cells #[.int .i64 R, .int .i64 C, .slice q N cap] 26)))
    have A2 : Hid (Blk3 (w1.alloc (.cells #[.int .i64 R, .int .i64 C, .slice q N cap] 26)) w1.heap.size 26 (.int .i64 R) (.int .i64 C) (.slice q N cap)) := Blk3.at_ _ _ _ _ rfl
    have K2 := Lib.hid ((K0.out.step hb).old (.cells #[.int .i64 R, .int .i64 C, .slice q N cap] 26))
    have R2 := Lib.hid ((R0.out.step hb).old (.cells #[.int .i64 R, .int .i64 C, .slice q N cap] 26))
    have S2 : Hid ((w1.alloc (.cells #[.int .i64 R, .int .i64 C, .slice q N cap] 26)).heap.size = w1.heap.size + 1) := by show _ = _; simp
    clear hb own Bx K0 R0 B0 S0 p0 p1 p2 RD
    go_upto_region 2 with fail
    generalize w1.alloc (.cells #[.int .i64 R, .int .i64 C, .slice q N cap] 26) = W2 at B2 Q2 A2 K2 R2 S2 ⊢
    obtain ⟨b6, hb6⟩ : ∃ b6, w1.heap.size = b6 := ⟨_, rfl⟩
    obtain ⟨rb, hrb⟩ : ∃ rb, w.heap.size + 1 = rb := ⟨_, rfl⟩
    have s2 := S2.out
    rw [hb6] at A2 s2 ⊢
    rw [hrb] at R2 ⊢
    have l0 : w.heap.size ≤ rb := by omega
    have l1 : rb < b6 := by omega
    clear hb6 hrb s0 s1 S2 w1 W0
    obtain ⟨p0, p1, p2, -, -, -⟩ := K2.out.all
    by_cases hRC : R = C
    · have n1 : ((R : Int) != (C : Int)) = false := by simp [hRC]
      by_cases h12 : R ≤ 12
      · have YY := Lib.hid (YY.out hRC h12)
        have u9 : IntKind.i64.wrap (2 * (R : Int)) = 2 * (R : Int) := IntWalk.i64_in _ (by omega)
        obtain ⟨C2, hC2⟩ : ∃ C2, 2 * R = C2 := ⟨_, rfl⟩
        have u8 : IntKind.i64.wrap (2 * (R : Int)) = (C2 : Int) := by rw [u9, ← hC2]; omega
        have n3 : decide ((24 : Int) < (C2 : Int)) = false := decide_eq_false (by omega)
        obtain ⟨N2', hN2⟩ : ∃ N2, R * C2 = N2 := ⟨_, rfl⟩
        have HN2 := Lib.hid hN2
        have HC2 := Lib.hid hC2
        have lN2 : N2' ≤ 288 := by
          rw [← hN2]
          have : R * C2 ≤ 12 * 24 := Nat.mul_le_mul h12 (by omega)
          omega
        have IX : Hid (∀ i b, i < R → b < C2 → ∃ D P : Nat, i * C2 = D ∧ D + b = P ∧ P < N2' ∧ D ≤ 288 ∧ IntKind.i64.wrap ((i : Int) * 2) = (i : Int) * 2 ∧ IntKind.i64.wrap ((i : Int) * 2 * (R : Int)) = (D : Int)) := fun i b hi hb => by
          have h1 : i * C2 + b < R * C2 := idx_lt hi hb
          have h2 : (i : Int) * 2 * (R : Int) = ((i * C2 : Nat) : Int) := by rw [← HC2.out, Int.natCast_mul, Int.natCast_mul, Int.mul_assoc]; rfl
          refine ⟨i * C2, _, rfl, rfl, by omega, by omega, IntWalk.i64_in _ (by omega), ?_⟩
          rw [h2]
          exact IntWalk.i64_in _ (by omega)
        have IY : Hid (∀ i j, i < R → j < R → ∃ P : Nat, i * R + j = P ∧ P < N ∧ IntKind.i64.wrap ((i : Int) * (R : Int)) = (i : Int) * (R : Int) ∧ IntKind.i64.wrap ((i : Int) * (R : Int) + (j : Int)) = (P : Int)) := fun i j hi hj => by
          have h1 : i * R + j < R * R := idx_lt hi hj
          have h3 : R * R ≤ 12 * 12 := Nat.mul_le_mul h12 h12
          have c1 : (i : Int) * (R : Int) = ((i * R : Nat) : Int) := (Int.natCast_mul _ _).symm
          have h4 : N = R * R := by rw [HN.out, ← hRC]
          refine ⟨i * R + j, rfl, by omega, IntWalk.i64_in _ (by rw [c1]; omega), ?_⟩
          rw [show (i : Int) * (R : Int) + (j : Int) = ((i * R + j : Nat) : Int) by rw [c1]; omega]
          exact IntWalk.i64_in _ (by omega)
        have HNN : Hid (N = R * R) := by show _ = _; rw [HN.out, ← hRC]
        clear u9 hC2 hN2 N3 hRC
        go_wp2_with fail
        refine (sNew R C2 _ (by omega) (by have := HC2.out; omega)).mono ?_
        rintro e w3 ⟨g, rfl, hg, hi, hb⟩
        rw [HN2.out] at hi ⊢
        simp only [List.length_replicate]
        have z0 : wdTo p R xs 0 0 = List.replicate N2' 0 := by rw [wdTo_zero, HC2.out, HN2.out]
        rw [← z0] at hi
        have gl := hi.lt
        have lb6 := A2.out.lt
        have Bx := B2.out.trans (hb.mono B2.out.size)
        have B5 := Lib.hid (Bx.alloc Bx.size (.cells #[.int .i64 R, .int .i64 C2, .slice (some ⟨g, 0, none⟩) N2' N2'] 26))
        have R5 := Lib.hid ((R2.out.step hb).old (.cells #[.int .i64 R, .int .i64 C2, .slice (some ⟨g, 0, none⟩) N2' N2'] 26))
        have A5 := Lib.hid ((A2.out.step hb).old (.cells #[.int .i64 R, .int .i64 C2, .slice (some ⟨g, 0, none⟩) N2' N2'] 26))
        have I5 := Lib.hid (hi.old (.cells #[.int .i64 R, .int .i64 C2, .slice (some ⟨g, 0, none⟩) N2' N2'] 26))
        have T5 : Hid (Blk3 (w3.alloc (.cells #[.int .i64 R, .int .i64 C2, .slice (some ⟨g, 0, none⟩) N2' N2'] 26)) w3.heap.size 26 (.int .i64 R) (.int .i64 C2) (.slice (some ⟨g, 0, none⟩) N2' N2')) := Blk3.at_ _ _ _ _ rfl
        have E5 := Lib.hid (hb.alloc hb.size (.cells #[.int .i64 R, .int .i64 C2, .slice (some ⟨g, 0, none⟩) N2' N2'] 26))
        have sb := hb.size
        clear hb hi Bx z0 p0 p1 p2 K2 R2 A2 B2
        go_upto_region 6 with fail
        generalize w3.alloc (.cells #[.int .i64 R, .int .i64 C2, .slice (some ⟨g, 0, none⟩) N2' N2'] 26) = W5 at B5 R5 A5 I5 T5 E5 ⊢
        obtain ⟨b9, hb9⟩ : ∃ b9, w3.heap.size = b9 := ⟨_, rfl⟩
        rw [hb9] at T5 gl sb ⊢
        have lg9 : g < b9 := gl
        have l2 : W2.heap.size ≤ g := hg
        clear gl hg hb9 w3
        go_wp2_with fail
        go_loopw [10, 11] (fun v10 _ wr => ∃ i : Nat, v10 = .int .i64 i ∧ i ≤ R ∧ Ints wr g (wdTo p R xs i 0) ∧ W5.grownBy wr (some g)) (fun v10 _ _ => R - (intOf v10).toNat)
        case atStart => exact ⟨0, rfl, by omega, I5.out, World.grownBy.refl _ _⟩
        case round =>
          clear I5
          obtain ⟨i, rfl, hi, hI, hgr⟩ := hrel
          have I := Lib.hid hI
          have G := Lib.hid hgr
          clear hI hgr
          by_cases hlt : i < R
          · go_wp2_with fail
            go_loopw [11] (fun v11 wr => ∃ j : Nat, v11 = .int .i64 j ∧ j ≤ R ∧ Ints wr g (wdTo p R xs i j) ∧ W5.grownBy wr (some g)) (fun v11 _ => R - (intOf v11).toNat)
            case atStart => exact ⟨0, rfl, by omega, I.out, G.out⟩
            case round =>
              clear I G
              obtain ⟨j, rfl, hj, hI, hgr⟩ := hrel
              have I := Lib.hid hI
              have G := Lib.hid hgr
              clear hI hgr
              have A6 := Lib.hid (A5.out.keepOne G.out (by omega))
              have T6 := Lib.hid (T5.out.keepOne G.out (by omega))
              obtain ⟨p0, p1, p2, -, -, -⟩ := A6.out.all
              obtain ⟨q0, q1, q2, -, -, -⟩ := T6.out.all
              by_cases hjl : j < R
              · obtain ⟨D, P, hD, hP, hPN, hD2, u1, u2⟩ := IX.out i j hlt (by have := HC2.out; omega)
                have u3 : IntKind.i64.wrap ((D : Int) + (j : Int)) = (P : Int) := by rw [show (D : Int) + (j : Int) = (P : Int) by omega]; exact IntWalk.i64_in _ (by omega)
                obtain ⟨S, hS, hSN, u4, u5⟩ := IY.out i j hlt hjl
                obtain ⟨b1, o1, rfl, hc1⟩ := Q2.out S (by rw [HL.out]; exact hSN)
                have c1 := World.block_lt_of_cell? W2 _ hc1
                have hc1 := G.out.cell ((E5.out.cell (p := ⟨b1, o1 + S, none⟩) c1).trans hc1) (by simp; simp at c1; omega)
                have hold := I.out.cell (i := P) (by rw [wdTo_length, HC2.out, HN2.out]; exact hPN)
                have hfr := I.out.free P
                have ST : Hid ((wdTo p R xs i j).set P ((resL p xs).getD S 0) = wdTo p R xs i (j + 1)) := by
                  show _ = _
                  rw [← hP, ← hD, ← HC2.out, ← hS]
                  exact wdTo_cell hlt hjl
                obtain ⟨x, hx⟩ : ∃ x, (resL p xs).getD S 0 = x := ⟨_, rfl⟩
                rw [hx] at hc1 ST
                have IS := Lib.hid (I.out.drew.set P x)
                have GS := Lib.hid (grown_set_one (a := ⟨g, P, none⟩) (grown_drew_one G.out) rfl (.int .i64 x))
                clear hx hS hD hP c1
                have Pa : (0 : Int) ≤ (P : Int) := by omega
                have Pb : (P : Int) < (N2' : Int) := by omega
                have Sa : (0 : Int) ≤ (S : Int) := by omega
                have Sb : (S : Int) < (N : Int) := by omega
                go_wp2_with fail
                go_still_tail 18, (by kernel_rfl)
                go_wp2_with fail
                go_roundw
                case rel => exact ⟨j + 1, by go_num, by omega, by rw [← ST.out]; exact IS.out, GS.out⟩
                case measure => simp [intOf]; omega
              · obtain rfl : R = j := by omega
                obtain ⟨D, P, hD, hP, hPN, hD2, u1, u2⟩ := IX.out i (R + i) hlt (by have := HC2.out; omega)
                obtain ⟨F, hF⟩ : ∃ F, D + R = F := ⟨_, rfl⟩
                have u3 : IntKind.i64.wrap ((D : Int) + (R : Int)) = (F : Int) := by rw [show (D : Int) + (R : Int) = (F : Int) by omega]; exact IntWalk.i64_in _ (by omega)
                have u4 : IntKind.i64.wrap ((F : Int) + (i : Int)) = (P : Int) := by rw [show (F : Int) + (i : Int) = (P : Int) by omega]; exact IntWalk.i64_in _ (by omega)
                have hold := I.out.cell (i := P) (by rw [wdTo_length, HC2.out, HN2.out]; exact hPN)
                have hfr := I.out.free P
                have ST : Hid ((wdTo p R xs i R).set P 1 = wdTo p R xs (i + 1) 0) := by
                  show _ = _
                  rw [← hP, ← hD, ← HC2.out]
                  exact wdTo_row hlt
                have IS := Lib.hid (I.out.set P 1)
                have GS := Lib.hid (grown_set_one (a := ⟨g, P, none⟩) G.out rfl (.int .i64 1))
                clear hD hP hF hjl
                have Pa : (0 : Int) ≤ (P : Int) := by omega
                have Pb : (P : Int) < (N2' : Int) := by omega
                go_wp2_with fail
                go_roundw
                case rel => exact ⟨i + 1, by go_num, by omega, by rw [← ST.out]; exact IS.out, GS.out⟩
                case measure => simp [intOf]; omega
          · obtain rfl : R = i := by omega
            have T6 := Lib.hid (T5.out.keepOne G.out (by omega))
            have R6 := Lib.hid (R5.out.keepOne G.out (by omega))
            have B6 := Lib.hid (B5.out.trans (below_of_one G.out (by have := B5.out.size; omega) B5.out.size))
            have EL : Hid (∀ (cap : Nat) (w' : World), Ints w' g (wdTo p R xs R 0) → Calls Try.prog 46 #[.agg #[.int .i64 R, .int .i64 C2, .slice (some ⟨g, 0, none⟩) N2' cap], .int .i64 p, .int .i64 R] w' (ElP w' R C2 (elW p R xs))) := fun cap w' hi' => by
              rw [wdTo_all] at hi'
              have := sEl R C2 R N2' p (some ⟨g, 0, none⟩) cap (wideL p R xs) w' hi'.rd (.inr ⟨g, 0, rfl⟩) (by unfold wideL; rw [tab_length, HC2.out, HN2.out]) HN2.out.symm (by omega) (by have := HC2.out; omega) (by have := HC2.out; omega) PB.out (wideL_can (prmB_says PB.out).1 (by rw [HX.out, HNN.out]))
              unfold elW
              rw [← HC2.out] at this ⊢
              exact this
            obtain ⟨EW, hEW⟩ : ∃ EW, elW p R xs = EW := ⟨_, rfl⟩
            have LE : EW.1.length = N2' := by
              rw [← hEW]
              have := elW_len p R xs
              rw [HC2.out, HN2.out] at this
              exact this
            rw [hEW] at EL YY
            clear hEW
            obtain ⟨q0, q1, q2, -, -, -⟩ := T6.out.all
            go_wp2_with fail
            refine (EL.out _ _ I.out).mono ?_
            rintro e w7 ⟨va, vb, rfl, oa, ob, -, hb⟩
            obtain ⟨qa, ca, rfl, hra, -⟩ := oa.form
            obtain ⟨qb, cb, rfl, -, -⟩ := ob.form
            rw [pvI_length]
            rw [LE]
            have B7x := B6.out.trans (hb.mono B6.out.size)
            have B7 := Lib.hid (B7x.alloc B7x.size (.cells #[.int .i64 R, .int .i64 C2, .slice qa N2' ca] 26))
            have R7 := Lib.hid ((R6.out.step hb).old (.cells #[.int .i64 R, .int .i64 C2, .slice qa N2' ca] 26))
            have Q7 := Lib.hid (hra.below ((Below.refl _ _).alloc (Nat.le_refl _) (.cells #[.int .i64 R, .int .i64 C2, .slice qa N2' ca] 26)))
            have A7 : Hid (Blk3 (w7.alloc (.cells #[.int .i64 R, .int .i64 C2, .slice qa N2' ca] 26)) w7.heap.size 26 (.int .i64 R) (.int .i64 C2) (.slice qa N2' ca)) := Blk3.at_ _ _ _ _ rfl
            have s7 := R6.out.lt
            have s8 := hb.size
            have IXX := IX
            clear hb oa ob hra B7x q0 q1 q2 R6 T6 B6 I G EL IX
            go_upto_region 15 with fail
            generalize w7.alloc (.cells #[.int .i64 R, .int .i64 C2, .slice qa N2' ca] 26) = W7 at B7 R7 Q7 A7 ⊢
            obtain ⟨b12, hb12⟩ : ∃ b12, w7.heap.size = b12 := ⟨_, rfl⟩
            rw [hb12] at A7 ⊢
            have l3 : rb < b12 := by omega
            clear hb12 s7 s8 w7
            by_cases hlt2 : EW.2.1.length < R
            · have RX : Hid (RES = MR.no) := by show _ = _; rw [YY.out, if_pos hlt2]
              obtain ⟨r0, r1, r2, f0, f1, f2⟩ := R7.out.all
              go_wp2_with fail
              obtain ⟨E0, E1, E2, -, -, -⟩ := (((R7.out.set0 (.int .i64 0)).set1 (.int .i64 0)).set2 (.slice none 0 0)).all
              rw [RX.out]
              exact bodyPost_ret (v := .tuple #[.agg #[.int .i64 0, .int .i64 0, .slice none 0 0], .bool false]) (by simp [results, Try.results11, go_sem, E0, E1, E2]) rfl ⟨_, rfl, .inl ⟨rfl, rfl⟩, ((B7.out.setCell l0 _).setCell l0 _).setCell l0 _⟩
            · have RX : Hid (RES = ⟨true, R, R, hfTo R EW.1 R 0⟩) := by show _ = _; rw [YY.out, if_neg hlt2]
              go_wp2_with fail
              refine (sNew R R _ (by omega) (by omega)).mono ?_
              rintro e w8 ⟨g2, rfl, hg2, hi2, hb2⟩
              rw [← HNN.out] at hi2 ⊢
              simp only [List.length_replicate]
              have z0 : hfTo R EW.1 0 0 = List.replicate N 0 := by rw [hfTo_zero, HNN.out]
              rw [← z0] at hi2
              have gl := hi2.lt
              have Bx := B7.out.trans (hb2.mono B7.out.size)
              have B8 := Lib.hid (Bx.alloc Bx.size (.cells #[.int .i64 R, .int .i64 R, .slice (some ⟨g2, 0, none⟩) N N] 26))
              have R8 := Lib.hid ((R7.out.step hb2).old (.cells #[.int .i64 R, .int .i64 R, .slice (some ⟨g2, 0, none⟩) N N] 26))
              have A8 := Lib.hid ((A7.out.step hb2).old (.cells #[.int .i64 R, .int .i64 R, .slice (some ⟨g2, 0, none⟩) N N] 26))
              have I8 := Lib.hid (hi2.old (.cells #[.int .i64 R, .int .i64 R, .slice (some ⟨g2, 0, none⟩) N N] 26))
              have T8 : Hid (Blk3 (w8.alloc (.cells #[.int .i64 R, .int .i64 R, .slice (some ⟨g2, 0, none⟩) N N] 26)) w8.heap.size 26 (.int .i64 R) (.int .i64 R) (.slice (some ⟨g2, 0, none⟩) N N)) := Blk3.at_ _ _ _ _ rfl
              have E8 := Lib.hid (hb2.alloc hb2.size (.cells #[.int .i64 R, .int .i64 R, .slice (some ⟨g2, 0, none⟩) N N] 26))
              have sb := hb2.size
              have la7 := A7.out.lt
              have lr7 := R7.out.lt
              have lw7 := B7.out.size
              clear hb2 hi2 Bx z0 R7 A7 B7
              go_upto_region 18 with fail
              generalize w8.alloc (.cells #[.int .i64 R, .int .i64 R, .slice (some ⟨g2, 0, none⟩) N N] 26) = W8 at B8 R8 A8 I8 T8 E8 ⊢
              obtain ⟨b15, hb15⟩ : ∃ b15, w8.heap.size = b15 := ⟨_, rfl⟩
              rw [hb15] at T8 gl sb ⊢
              have lg15 : g2 < b15 := gl
              have l4 : W7.heap.size ≤ g2 := hg2
              have l5 : w.heap.size ≤ g2 := by omega
              clear gl hg2 hb15 w8 hlt2
              go_wp2_with fail
              go_loopw [16, 17] (fun v16 _ wr => ∃ i : Nat, v16 = .int .i64 i ∧ i ≤ R ∧ Ints wr g2 (hfTo R EW.1 i 0) ∧ W8.grownBy wr (some g2)) (fun v16 _ _ => R - (intOf v16).toNat)
              case atStart => exact ⟨0, rfl, by omega, I8.out, World.grownBy.refl _ _⟩
              case round =>
                clear I8
                obtain ⟨i, rfl, hi, hI, hgr⟩ := hrel
                have I := Lib.hid hI
                have G := Lib.hid hgr
                clear hI hgr
                by_cases hlt : i < R
                · go_wp2_with fail
                  go_loopw [17] (fun v17 wr => ∃ j : Nat, v17 = .int .i64 j ∧ j ≤ R ∧ Ints wr g2 (hfTo R EW.1 i j) ∧ W8.grownBy wr (some g2)) (fun v17 _ => R - (intOf v17).toNat)
                  case atStart => exact ⟨0, rfl, by omega, I.out, G.out⟩
                  case round =>
                    clear I G
                    obtain ⟨j, rfl, hj, hI, hgr⟩ := hrel
                    have I := Lib.hid hI
                    have G := Lib.hid hgr
                    clear hI hgr
                    have A9 := Lib.hid (A8.out.keepOne G.out (by omega))
                    have T9 := Lib.hid (T8.out.keepOne G.out (by omega))
                    obtain ⟨p0, p1, p2, -, -, -⟩ := A9.out.all
                    obtain ⟨q0, q1, q2, -, -, -⟩ := T9.out.all
                    by_cases hjl : j < R
                    · obtain ⟨D, P, hD, hP, hPN, hD2, u1, u2⟩ := IXX.out i (R + j) hlt (by have := HC2.out; omega)
                      obtain ⟨F, hF⟩ : ∃ F, D + R = F := ⟨_, rfl⟩
                      have u3 : IntKind.i64.wrap ((D : Int) + (R : Int)) = (F : Int) := by rw [show (D : Int) + (R : Int) = (F : Int) by omega]; exact IntWalk.i64_in _ (by omega)
                      have u6 : IntKind.i64.wrap ((F : Int) + (j : Int)) = (P : Int) := by rw [show (F : Int) + (j : Int) = (P : Int) by omega]; exact IntWalk.i64_in _ (by omega)
                      obtain ⟨S, hS, hSN, u4, u5⟩ := IY.out i j hlt hjl
                      obtain ⟨b1, o1, rfl, hc1⟩ := Q7.out P (by rw [LE]; exact hPN)
                      have c1 := World.block_lt_of_cell? W7 _ hc1
                      have hc1 := G.out.cell ((E8.out.cell (p := ⟨b1, o1 + P, none⟩) c1).trans hc1) (by simp; simp at c1; omega)
                      have hold := I.out.cell (i := S) (by rw [hfTo_length, ← HNN.out]; exact hSN)
                      have hfr := I.out.free S
                      have ST : Hid ((hfTo R EW.1 i j).set S (EW.1.getD P 0) = hfTo R EW.1 i (j + 1)) := by
                        show _ = _
                        rw [← hP, ← hD, ← HC2.out, ← hS]
                        exact hfTo_cell hlt hjl
                      obtain ⟨x, hx⟩ : ∃ x, EW.1.getD P 0 = x := ⟨_, rfl⟩
                      rw [hx] at hc1 ST
                      have IS := Lib.hid (I.out.drew.set S x)
                      have GS := Lib.hid (grown_set_one (a := ⟨g2, S, none⟩) (grown_drew_one G.out) rfl (.int .i64 x))
                      clear hx hS hD hP c1 hF
                      have Pa : (0 : Int) ≤ (P : Int) := by omega
                      have Pb : (P : Int) < (N2' : Int) := by omega
                      have Sa : (0 : Int) ≤ (S : Int) := by omega
                      have Sb : (S : Int) < (N : Int) := by omega
                      go_wp2_with fail
                      go_still_tail 20, (by kernel_rfl)
                      go_wp2_with fail
                      go_roundw
                      case rel => exact ⟨j + 1, by go_num, by omega, by rw [← ST.out]; exact IS.out, GS.out⟩
                      case measure => simp [intOf]; omega
                    · obtain rfl : R = j := by omega
                      have RW : Hid (hfTo R EW.1 i R = hfTo R EW.1 (i + 1) 0) := hfTo_row
                      rw [RW.out] at I
                      clear hjl
                      go_wp2_with fail
                      go_roundw
                      case rel => exact ⟨i + 1, by go_num, by omega, I.out, G.out⟩
                      case measure => simp [intOf]; omega
                · obtain rfl : R = i := by omega
                  have T9 := Lib.hid (T8.out.keepOne G.out (by omega))
                  have R9 := Lib.hid (R8.out.keepOne G.out (by omega))
                  have B9 := Lib.hid (B8.out.trans (below_of_one G.out l5 B8.out.size))
                  obtain ⟨q0, q1, q2, -, -, -⟩ := T9.out.all
                  obtain ⟨r0, r1, r2, f0, f1, f2⟩ := R9.out.all
                  have LN : (hfTo R EW.1 R 0).length = N := by rw [hfTo_length, HNN.out]
                  have lN : N ≤ 144 := by rw [HNN.out]; exact Nat.mul_le_mul h12 h12
                  go_wp2_with fail
                  obtain ⟨E0, E1, E2, -, -, -⟩ := (((R9.out.set0 (.int .i64 R)).set1 (.int .i64 R)).set2 (.slice (some ⟨g2, 0, none⟩) N N)).all
                  rw [RX.out]
                  refine bodyPost_ret (v := .tuple #[.agg #[.int .i64 R, .int .i64 R, .slice (some ⟨g2, 0, none⟩) N N], .bool true]) (by simp [results, Try.results11, go_sem, E0, E1, E2]) rfl ⟨_, rfl, .inr ⟨g2, N, by rw [LN], l5, ?_, by rw [LN]; exact Nat.le_refl _, by rw [LN]; omega⟩, ((B9.out.setCell l0 _).setCell l0 _).setCell l0 _⟩
                  exact ((I.out.far (a := ⟨rb, 0, none⟩) (by show g2 ≠ rb; omega) _).far (a := ⟨rb, 1, none⟩) (by show g2 ≠ rb; omega) _).far (a := ⟨rb, 2, none⟩) (by show g2 ≠ rb; omega) _
      · have RX := Lib.hid (N3.out h12)
        have n2 : decide ((24 : Int) < 2 * (R : Int)) = true := decide_eq_true (by omega)
        have u9 : IntKind.i64.wrap (2 * (R : Int)) = 2 * (R : Int) := IntWalk.i64_in _ (by omega)
        obtain ⟨r0, r1, r2, f0, f1, f2⟩ := R2.out.all
        go_wp2_with fail
        obtain ⟨E0, E1, E2, -, -, -⟩ := (((R2.out.set0 (.int .i64 0)).set1 (.int .i64 0)).set2 (.slice none 0 0)).all
        rw [RX.out]
        exact bodyPost_ret (v := .tuple #[.agg #[.int .i64 0, .int .i64 0, .slice none 0 0], .bool false]) (by simp [results, Try.results11, go_sem, E0, E1, E2]) rfl ⟨_, rfl, .inl ⟨rfl, rfl⟩, ((B2.out.setCell l0 _).setCell l0 _).setCell l0 _⟩
    · have n1 : ((R : Int) != (C : Int)) = true := by simp; omega
      have RX := Lib.hid (N2.out hRC)
      obtain ⟨r0, r1, r2, f0, f1, f2⟩ := R2.out.all
      go_wp2_with fail
      obtain ⟨E0, E1, E2, -, -, -⟩ := (((R2.out.set0 (.int .i64 0)).set1 (.int .i64 0)).set2 (.slice none 0 0)).all
      rw [RX.out]
      exact bodyPost_ret (v := .tuple #[.agg #[.int .i64 0, .int .i64 0, .slice none 0 0], .bool false]) (by simp [results, Try.results11, go_sem, E0, E1, E2]) rfl ⟨_, rfl, .inl ⟨rfl, rfl⟩, ((B2.out.setCell l0 _).setCell l0 _).setCell l0 _⟩
  · have RX : Hid (ivX r c p xs = MR.no) := ivX_no1 hh
    rw [(rkM_no hh).2.1] at RD
    obtain ⟨L, hL⟩ : ∃ L, xs.length = L := ⟨_, rfl⟩
    rw [hL] at RD K0 R0 B0 S0 ⊢
    clear h hn ha hh hL K0
    go_enter Try.func11, Try.ntmps11
    go_upto_region 1 with fail
    have B0' := B0.out
    go_wp2_with fail
    refine (RD.out _ B0.out).mono ?_
    rintro e w1 ⟨v, rfl, own, hb⟩
    obtain ⟨q, cap, rfl, -, -⟩ := own.form
    have s0 := S0.out
    have s1 := hb.size
    have Bx := B0.out.trans (hb.mono (by omega))
    have B2 := Lib.hid (Bx.alloc Bx.size (.cells #[.int .i64 MR.no.r, .int .i64 MR.no.c, .slice q MR.no.zs.length cap] 26))
    have R2 := Lib.hid ((R0.out.step hb).old (.cells #[.int .i64 MR.no.r, .int .i64 MR.no.c, .slice q MR.no.zs.length cap] 26))
    have l0 : w.heap.size ≤ w.heap.size + 1 := Nat.le_succ _
    clear hb own Bx B0' B0 R0
    have ok : MR.no.ok = false := rfl
    rw [ok]
    obtain ⟨r0, r1, r2, f0, f1, f2⟩ := R2.out.all
    go_wp2_with fail
    obtain ⟨E0, E1, E2, -, -, -⟩ := (((R2.out.set0 (.int .i64 0)).set1 (.int .i64 0)).set2 (.slice none 0 0)).all
    rw [RX.out]
    exact bodyPost_ret (v := .tuple #[.agg #[.int .i64 0, .int .i64 0, .slice none 0 0], .bool false]) (by simp [results, Try.results11, go_sem, E0, E1, E2]) rfl ⟨_, rfl, .inl ⟨rfl, rfl⟩, ((B2.out.setCell l0 _).setCell l0 _).setCell l0 _⟩
end Go.Proofs.Ytcapddcmnjeloaa
end

section
/-
  Chapter 8, in the model: SolveMod.
-/
namespace Go.Proofs.Ytcapddcmnjeloaa
set_option maxRecDepth 100000
open Go.RowKit

/-- A list of the call's own and a bool are returned. -/
def LisRes (zs : List Int) (ok : Bool) (w : World) (e : Ending) (w' : World) : Prop := ∃ v : Value, e = .returned (.tuple #[v, .bool ok]) ∧ Own w.heap.size w' v zs ∧ Below w.heap.size w w'
theorem own_empty {B : Nat} (w : World) (hB : B ≤ w.heap.size) : Own B (w.alloc (.cells #[] 3)) (.slice (some ⟨w.heap.size, 0, none⟩) 0 0) [] := (OwnQ.none_ (B := B) hB ⟨Nat.zero_le _, [], rfl, heap_alloc_new w _⟩).own (by simp)
set_option maxHeartbeats 4000000 in
theorem sSv (r c p : Int) (a : Option Addr) (m : Nat) (xs : List Int) (ab : Option Addr) (mb : Nat) (bs : List Int) (w : World) (h : Rd w a xs) (hn : xs.length ≤ 16777216) (ha : Spot a) (hb : Rd w ab bs) (hbn : bs.length ≤ 16777216) :
    Calls Try.prog 19 #[.agg #[.int .i64 r, .int .i64 c, .slice a xs.length m], .slice ab bs.length mb, .int .i64 p] w (LisRes (svX r c p xs bs).1 (svX r c p xs bs).2 w) := by
  have IV : Hid (∀ w', Below w.heap.size w w' → Calls Try.prog 11 #[.agg #[.int .i64 r, .int .i64 c, .slice a xs.length m], .int .i64 p] w' (MatRes (ivX r c p xs) w')) := fun w' hb => sIvx r c p a m xs w' (h.below hb) hn ha
  have K0 : Hid (Blk3 (w.alloc (.cells #[.int .i64 r, .int .i64 c, .slice a xs.length m] 26)) w.heap.size 26 (.int .i64 r) (.int .i64 c) (.slice a xs.length m)) := Blk3.at_ _ _ _ _ rfl
  have B0 : Hid (Below w.heap.size w (w.alloc (.cells #[.int .i64 r, .int .i64 c, .slice a xs.length m] 26))) := (Below.refl _ _).alloc (Nat.le_refl _) _
  have S0 : Hid ((w.alloc (.cells #[.int .i64 r, .int .i64 c, .slice a xs.length m] 26)).heap.size = w.heap.size + 1) := by show _ = _; simp
  rcases Bool.eq_false_or_eq_true (ivX r c p xs).ok with hk | hk
  · obtain ⟨n, rfl, rfl, hn12, hp, hx, -, -, e1, hl, hcan⟩ := ivX_says hk
    have SY : Hid (bs.length = n → nums bs = true → svX n n p xs bs = (solL p n (ivL p n xs) bs, true)) := fun h1 h2 => by
      show _ = _
      rw [svX_yes rfl hk h1 h2, e1]
    have SN : Hid (bs.length ≠ n ∨ nums bs = false → svX n n p xs bs = ([], false)) := fun h => svX_no (.inr (h.imp (fun h => by omega) id))
    rw [e1] at IV
    obtain ⟨pp, hp2⟩ := prmB_says hp
    have hp1 := pp.1
    have np : ¬ p = 0 := by omega
    have HC := Lib.hid hcan
    have HL := Lib.hid hl
    have HB := Lib.hid hb
    generalize ivL p n xs = vs at IV SY HC HL hl
    generalize svX n n p xs bs = RES at SY SN ⊢
    generalize xs.length = L at IV K0 B0 S0 ⊢
    obtain ⟨Lb, hLb⟩ : ∃ Lb, bs.length = Lb := ⟨_, rfl⟩
    have HLb := Lib.hid hLb
    rw [hLb] at SY SN hbn ⊢
    clear h hn ha hb hk hp hx e1 hl hcan pp hLb
    go_enter Try.func19, Try.ntmps19
    go_wp2_with fail
    refine (IV.out _ B0.out).mono ?_
    rintro e w1 ⟨v, rfl, own, hb1⟩
    obtain ⟨q, cap, rfl, hq, -⟩ := own.form
    have s0 := S0.out
    have s1 := hb1.size
    have Bx := B0.out.trans (hb1.mono (by omega))
    dsimp only at hq ⊢
    rw [HL.out]
    have B2 := Lib.hid (Bx.alloc Bx.size (.cells #[.int .i64 n, .int .i64 n, .slice q (n * n) cap] 26))
    have Q2 := Lib.hid (hq.below ((Below.refl _ _).alloc (Nat.le_refl _) (.cells #[.int .i64 n, .int .i64 n, .slice q (n * n) cap] 26)))
    have A2 : Hid (Blk3 (w1.alloc (.cells #[.int .i64 n, .int .i64 n, .slice q (n * n) cap] 26)) w1.heap.size 26 (.int .i64 n) (.int .i64 n) (.slice q (n * n) cap)) := Blk3.at_ _ _ _ _ rfl
    have K2 := Lib.hid ((K0.out.step hb1).old (.cells #[.int .i64 n, .int .i64 n, .slice q (n * n) cap] 26))
    clear hb1 own Bx hq K0 B0 S0 IV
    go_upto_region 2 with fail
    generalize w1.alloc (.cells #[.int .i64 n, .int .i64 n, .slice q (n * n) cap] 26) = W at B2 Q2 A2 K2 ⊢
    obtain ⟨b8, hb8⟩ : ∃ b8, w1.heap.size = b8 := ⟨_, rfl⟩
    rw [hb8] at A2 ⊢
    clear hb8 s0 s1 w1
    obtain ⟨p0, p1, p2, -, -, -⟩ := K2.out.all
    by_cases hlb : Lb = n
    · have n1 : ((Lb : Int) != (n : Int)) = false := by simp [hlb]
      have SY : Hid (nums bs = true → RES = (solL p n vs bs, true)) := SY.out hlb
      have SN : Hid (nums bs = false → RES = ([], false)) := fun h => SN.out (.inr h)
      have HLn : Hid (bs.length = n) := by show _ = _; rw [HLb.out, hlb]
      obtain ⟨N, hN⟩ : ∃ N, n * n = N := ⟨_, rfl⟩
      have HN := Lib.hid hN
      have lN : N ≤ 144 := by rw [← hN]; exact Nat.mul_le_mul hn12 hn12
      have IY : Hid (∀ i j, i < n → j < n → ∃ P : Nat, i * n + j = P ∧ P < N ∧ IntKind.i64.wrap ((i : Int) * (n : Int)) = (i : Int) * (n : Int) ∧ IntKind.i64.wrap ((i : Int) * (n : Int) + (j : Int)) = (P : Int)) := fun i j hi hj => by
        have h1 : i * n + j < n * n := idx_lt hi hj
        have c1 : (i : Int) * (n : Int) = ((i * n : Nat) : Int) := (Int.natCast_mul _ _).symm
        refine ⟨i * n + j, rfl, by omega, IntWalk.i64_in _ (by rw [c1]; omega), ?_⟩
        rw [show (i : Int) * (n : Int) + (j : Int) = ((i * n + j : Nat) : Int) by rw [c1]; omega]
        exact IntWalk.i64_in _ (by omega)
      rw [hN] at A2 ⊢
      have HBW := Lib.hid (HB.out.below B2.out)
      clear hN
      go_upto_region 5 with fail
      have ST0 : Hid (Below W.heap.size W (W.alloc (.cells #[] 3)) ∧ OwnQ W.heap.size (W.alloc (.cells #[] 3)) (.slice (some ⟨W.heap.size, 0, none⟩) (svUp p n vs bs 0).length 0) (svUp p n vs bs 0)) := ⟨(Below.refl _ _).alloc (Nat.le_refl _) _, OwnQ.none_ (Nat.le_refl _) ⟨Nat.zero_le _, [], rfl, heap_alloc_new W _⟩⟩
      generalize W.alloc (.cells #[] 3) = W3 at ST0 ⊢
      rw [svUp_length] at ST0
      have LW := B2.out.size
      have lbW := A2.out.lt
      have lkW := K2.out.lt
      clear p0 p1 p2 hlb
      go_wp2_with fail
      go_loopw [6, 7, 10, 11, 12, 13] (fun _ _ v10 v11 _ _ wr => ∃ (i : Nat) (qo : Option Addr) (qc : Nat), v10 = .slice qo i qc ∧ v11 = .int .i64 i ∧ i ≤ n ∧ (0 < i → nums bs = true) ∧ Below W.heap.size W wr ∧ OwnQ W.heap.size wr (.slice qo i qc) (svUp p n vs bs i)) (fun _ _ _ v11 _ _ _ => n - (intOf v11).toNat)
      case atStart => exact ⟨0, _, _, rfl, rfl, by omega, fun h => absurd h (by omega), ST0.out.1, ST0.out.2⟩
      case round =>
        clear ST0
        obtain ⟨i, qo, qc, rfl, rfl, hi, hnb, hbw, hoq⟩ := hrel
        have NB := Lib.hid hnb
        have BW := Lib.hid hbw
        have OQ := Lib.hid hoq
        clear hnb hbw hoq
        obtain ⟨k0, k1, k2, -, -, -⟩ := (K2.out.keep BW.out lkW).all
        by_cases hlt : i < n
        · go_wp2_with fail
          clear k0 k1 k2
          go_loopw [6, 7, 12, 13] (fun _ _ v12 v13 wr => ∃ j : Nat, v12 = .int .i64 (svF p n vs bs i j) ∧ v13 = .int .i64 j ∧ j ≤ n ∧ (∀ k, k < j → NumP (bs.getD k 0)) ∧ Below W.heap.size W wr ∧ OwnQ W.heap.size wr (.slice qo i qc) (svUp p n vs bs i)) (fun _ _ _ v13 _ => n - (intOf v13).toNat)
          case atStart => exact ⟨0, rfl, rfl, by omega, fun k hk => absurd hk (by omega), BW.out, OQ.out⟩
          case round =>
            clear BW OQ
            obtain ⟨j, rfl, rfl, hj, hnj, hbw, hoq⟩ := hrel
            have NJ := Lib.hid hnj
            have BW := Lib.hid hbw
            have OQ := Lib.hid hoq
            clear hnj hbw hoq
            obtain ⟨k0, k1, k2, -, -, -⟩ := (K2.out.keep BW.out lkW).all
            obtain ⟨a0, a1, a2, -, -, -⟩ := (A2.out.keep BW.out lbW).all
            by_cases hjl : j < n
            · obtain ⟨b1, o1, rfl, hc1⟩ := (HBW.out.below BW.out) j (by rw [HLn.out]; exact hjl)
              have NBD : Hid (¬ NumP (bs.getD j 0) → nums bs = false) := fun h => nums_bad (by rw [HLn.out]; exact hjl) h
              have SF := Lib.hid (svF_step p n vs bs i j)
              have s2 := svF_can (show 0 < p by omega) n vs bs i j
              obtain ⟨s, hs⟩ : ∃ s, svF p n vs bs i j = s := ⟨_, rfl⟩
              rw [hs] at SF s2 ⊢
              obtain ⟨x, hx⟩ : ∃ x, bs.getD j 0 = x := ⟨_, rfl⟩
              have X := Lib.hid hx
              rw [hx] at hc1 NBD SF
              have jl1 : (j : Int) < (Lb : Int) := by have := HLn.out; have := HLb.out; omega
              clear hs hx
              by_cases hxn : NumP x
              · obtain ⟨P, hP, hPN, u1, u2⟩ := IY.out i j hlt hjl
                have Pa : (0 : Int) ≤ (P : Int) := by omega
                have Pb : (P : Int) < (N : Int) := by omega
                obtain ⟨b2, o2, rfl, hc2⟩ := (Q2.out.below BW.out) P (by rw [HL.out, HN.out]; exact hPN)
                obtain ⟨z1, z2⟩ := HC.out P (by rw [HL.out, HN.out]; exact hPN)
                rw [hP] at SF
                generalize vs.getD P 0 = u at hc2 z1 z2 SF
                have m0 : 0 ≤ x % p ∧ x % p < p := ⟨Int.emod_nonneg _ (by omega), Int.emod_lt_of_pos _ (by omega)⟩
                obtain ⟨y, hy⟩ : ∃ y, x % p = y := ⟨_, rfl⟩
                have Y := Lib.hid hy
                rw [hy] at m0 SF
                obtain ⟨m3, m4⟩ := mul_bd z1 z2 m0.1 m0.2 hp2
                obtain ⟨o, ho⟩ : ∃ o, u * y = o := ⟨_, rfl⟩
                have v2 : IntKind.i64.wrap (u * y) = o := by rw [← ho]; exact IntWalk.i64_in _ (by omega)
                rw [ho] at m3 m4 SF
                obtain ⟨f, hf⟩ : ∃ f, s + o = f := ⟨_, rfl⟩
                have v3 : IntKind.i64.wrap (s + o) = f := by rw [← hf]; exact IntWalk.i64_in _ (by omega)
                rw [hf] at SF
                have e2 : Int.tmod f p = f % p := Int.tmod_eq_emod_of_nonneg (by omega)
                have MD : Hid (∀ w', Calls Try.prog 60 #[.int .i64 x, .int .i64 p] w' fun e w2 => e = .returned (.int .i64 y) ∧ w' = w2) := fun w' => by rw [← Y.out]; exact sMod x p w' (by omega) (by omega)
                have NJ2 : Hid (∀ k, k < j + 1 → NumP (bs.getD k 0)) := fun k hk => by
                  rcases Nat.lt_or_ge k j with h3 | h3
                  · exact NJ.out k h3
                  · obtain rfl : k = j := by omega
                    rw [X.out]; exact hxn
                clear hy ho hf hP
                go_wp2_with fail
                refine (sIsNum_t x _ hxn.1 hxn.2).mono ?_
                rintro e w5 ⟨rfl, rfl⟩
                go_wp2_with fail
                go_quiet ((refine (MD.out _).mono ?_; rintro e w' ⟨rfl, rfl⟩; exact ⟨rfl, _, rfl⟩))
                have BW := Lib.hid (below_drewN BW.out nq)
                have OQ := Lib.hid (OQ.out.drewN nq)
                go_wp2_with fail
                go_roundw
                case rel => exact ⟨j + 1, by rw [SF.out], by go_num, by omega, NJ2.out, BW.out, OQ.out⟩
                case measure => simp [intOf]; omega
              · have RX := Lib.hid (SN.out (NBD.out hxn))
                have hx' : x < -400000000 ∨ 400000000 < x := by unfold NumP at hxn; omega
                have BF : Hid (Below w.heap.size w wr) := B2.out.trans (BW.out.mono LW)
                clear hxn
                go_wp2_with fail
                refine (sIsNum_f x _ hx').mono ?_
                rintro e w5 ⟨rfl, rfl⟩
                go_wp2_with fail
                rw [RX.out]
                exact bodyPost_ret (v := .tuple #[.slice (some ⟨wr.heap.size, 0, none⟩) 0 0, .bool false]) (by simp [results, Try.results19, go_sem]) rfl ⟨_, rfl, own_empty _ BF.out.size, BF.out.alloc BF.out.size _⟩
            · obtain rfl : n = j := by omega
              have NB2 : Hid (nums bs = true) := nums_all fun k hk => NJ.out k (by rw [HLn.out] at hk; exact hk)
              have SU := Lib.hid (svUp_succ p n vs bs i)
              obtain ⟨z, hz⟩ : ∃ z, svF p n vs bs i n = z := ⟨_, rfl⟩
              rw [hz] at SU ⊢
              obtain ⟨fi, hfi, hz0, hz1, hz2⟩ := facts_int
              have HO : Hid ((wr.alloc (.cells #[.int .i64 z] 3)).ownsRow W.heap.size 3 1 (.slice qo i qc) i ((svUp p n vs bs i).map (Value.int .i64))) := by
                have h1 := OQ.out.keep ((Below.refl _ _).alloc (Nat.le_refl _) (.cells #[.int .i64 z] 3))
                unfold OwnQ at h1
                rw [svUp_length] at h1
                exact h1
              have le := BW.out.size
              clear hz
              go_wp2_with (at_builtin; refine wpList_append_own_at _ rfl _ _ 24 rfl W.heap.size 3 fi (.int .i64 0) 1 8 underlying_ints hfi hz0 hz1 hz2 rfl (by decide) _ _ _ rfl HO.out ⟨wr.heap.size, 0, none⟩ 1 1 [.int .i64 z] ?hx ?hl ?hnews ?h1 ?h63 ?hbytes ?hbase ?hnext)
              case hx => rfl
              case hl => rfl
              case hnews => exact cell_one_new _ _ _
              case h1 => intro v hv; simp at hv; subst hv; rfl
              case h63 => unfold maxLen; omega
              case hbytes => omega
              case hbase => simp; omega
              case hnext =>
                rintro v' w7 ho hg7 - -
                have O7 : OwnQ W.heap.size w7 v' (svUp p n vs bs (i + 1)) := by
                  unfold OwnQ
                  rw [SU.out, List.map_append, List.length_append, svUp_length]
                  exact ho
                have B7 : Below W.heap.size W w7 := (BW.out.alloc BW.out.size _).grown hg7 (by have := BW.out.size; simp; omega) (fun k e => OQ.out.le (by exact e))
                obtain ⟨q', qc', rfl⟩ := O7.form
                rw [svUp_length] at O7 ⊢
                have O8 := Lib.hid O7
                have B8 := Lib.hid B7
                clear O7 B7 ho hg7
                go_wp2_with fail
                go_roundw
                case rel => exact ⟨i + 1, q', qc', rfl, by go_num, by omega, fun _ => NB2.out, B8.out, O8.out⟩
                case measure => simp [intOf]; omega
        · obtain rfl : n = i := by omega
          have NB2 : Hid (nums bs = true) := by
            rcases Nat.eq_zero_or_pos n with h0 | h0
            · exact nums_all fun k hk => by rw [HLn.out] at hk; omega
            · exact NB.out h0
          have RX := Lib.hid (SY.out NB2.out)
          have BF : Hid (Below w.heap.size w wr) := B2.out.trans (BW.out.mono LW)
          go_wp2_with fail
          rw [RX.out]
          refine bodyPost_ret (v := .tuple #[.slice qo n qc, .bool true]) (by simp [results, Try.results19, go_sem]) rfl ⟨_, rfl, ?_, BF.out⟩
          exact (OQ.out.lower LW).own (by rw [svUp_length]; omega)
    · have n1 : ((Lb : Int) != (n : Int)) = true := by simp; omega
      have RX := Lib.hid (SN.out (.inl hlb))
      go_wp2_with fail
      rw [RX.out]
      exact bodyPost_ret (v := .tuple #[.slice (some ⟨W.heap.size, 0, none⟩) 0 0, .bool false]) (by simp [results, Try.results19, go_sem]) rfl ⟨_, rfl, own_empty _ B2.out.size, B2.out.alloc B2.out.size _⟩
  · have RX : Hid (svX r c p xs bs = ([], false)) := svX_no (.inl hk)
    generalize ivX r c p xs = MRx at IV hk
    generalize xs.length = L at IV K0 B0 S0 ⊢
    clear h hn ha hb hbn
    go_enter Try.func19, Try.ntmps19
    go_wp2_with fail
    refine (IV.out _ B0.out).mono ?_
    rintro e w1 ⟨v, rfl, own, hb1⟩
    obtain ⟨q, cap, rfl, hq, -⟩ := own.form
    have s0 := S0.out
    have s1 := hb1.size
    have Bx := B0.out.trans (hb1.mono (by omega))
    have B2 := Lib.hid (Bx.alloc Bx.size (.cells #[.int .i64 MRx.r, .int .i64 MRx.c, .slice q MRx.zs.length cap] 26))
    rw [hk]
    have SW : Hid ((w1.alloc (.cells #[.int .i64 MRx.r, .int .i64 MRx.c, .slice q MRx.zs.length cap] 26)).heap.size = w1.heap.size + 1) := by show _ = _; simp
    clear hb1 own Bx hq K0 B0 S0 IV
    go_upto_region 2 with fail
    generalize w1.alloc (.cells #[.int .i64 MRx.r, .int .i64 MRx.c, .slice q MRx.zs.length cap] 26) = W at B2 SW ⊢
    clear s0 s1
    go_wp2_with fail
    rw [RX.out]
    exact bodyPost_ret (v := .tuple #[.slice (some ⟨W.heap.size, 0, none⟩) 0 0, .bool false]) (by simp [results, Try.results19, go_sem]) rfl ⟨_, rfl, own_empty _ B2.out.size, B2.out.alloc B2.out.size _⟩
end Go.Proofs.Ytcapddcmnjeloaa
end

section
/-
  Chapter 8, in the program: SolveMod.
-/
namespace Go.Proofs.Ytcapddcmnjeloaa
set_option maxRecDepth 100000
open Go.RowKit

set_option maxHeartbeats 4000000 in
theorem iSv (r c p : Int) (a : Option Addr) (m : Nat) (xs : List Int) (ab : Option Addr) (mb : Nat) (bs : List Int) (w : World) (h : Rd w a xs) (hn : xs.length ≤ 16777216) (hb : Rd w ab bs) (hbn : bs.length ≤ 16777216) :
    Calls Try.prog 13 #[.agg #[.int .i64 r, .int .i64 c, .slice a xs.length m], .slice ab bs.length mb, .int .i64 p] w (LisRes (svX r c p xs bs).1 (svX r c p xs bs).2 w) := by
  have IV : Hid (∀ w', Below w.heap.size w w' → Calls Try.prog 10 #[.agg #[.int .i64 r, .int .i64 c, .slice a xs.length m], .int .i64 p] w' (MatRes (ivX r c p xs) w')) := fun w' hb => iIvx r c p a m xs w' (h.below hb) hn
  have FT : Hid (∀ w', Below w.heap.size w w' → Calls Try.prog 47 #[.agg #[.int .i64 r, .int .i64 c, .slice a xs.length m], .slice ab bs.length mb] w' (Gives (.bool (fitR r bs)) w')) := fun w' hb' => iFits r c a xs.length m ab mb bs w' (hb.below hb') hbn
  have K0 : Hid (Blk3 (w.alloc (.cells #[.int .i64 r, .int .i64 c, .slice a xs.length m] 26)) w.heap.size 26 (.int .i64 r) (.int .i64 c) (.slice a xs.length m)) := Blk3.at_ _ _ _ _ rfl
  have B0 : Hid (Below w.heap.size w (w.alloc (.cells #[.int .i64 r, .int .i64 c, .slice a xs.length m] 26))) := (Below.refl _ _).alloc (Nat.le_refl _) _
  have N1 : Hid ((ivX r c p xs).ok = false → svX r c p xs bs = ([], false)) := fun h => svX_no (.inl h)
  have N2 : Hid ((ivX r c p xs).ok = true → fitR r bs = false → svX r c p xs bs = ([], false)) := fun h1 h2 => by
    obtain ⟨n, rfl, -, h12, -⟩ := ivX_says h1
    rw [fitR_eq (by omega), Bool.and_eq_false_iff] at h2
    exact svX_no (.inr (h2.imp (fun h => by simpa using h) id))
  have Y : Hid ((ivX r c p xs).ok = true → fitR r bs = true → ∃ n : Nat, (ivX r c p xs).r = n ∧ (ivX r c p xs).c = n ∧ n ≤ 12 ∧ 2 ≤ p ∧ p ≤ 10000 ∧ (ivX r c p xs).zs.length = n * n ∧ CanL p (ivX r c p xs).zs ∧ bs.length = n ∧ (∀ j, j < n → -2400000000 ≤ bs.getD j 0 ∧ bs.getD j 0 ≤ 2400000000) ∧ svX r c p xs bs = (solL p n (ivX r c p xs).zs bs, true)) := fun h1 h2 => by
    obtain ⟨n, rfl, rfl, h12, hp, -, -, -, e1, hl, hcan⟩ := ivX_says h1
    rw [fitR_eq (by omega), Bool.and_eq_true, decide_eq_true_eq] at h2
    have hl2 : bs.length = n := by omega
    obtain ⟨pp, hp2⟩ := prmB_says hp
    have e2 := svX_yes (p := p) (xs := xs) (bs := bs) (r := n) (c := n) rfl h1 hl2 h2.2
    rw [e1] at e2 ⊢
    exact ⟨n, rfl, rfl, h12, pp.1, hp2, hl, hcan, hl2, fun j hj => by
      have := nums_at h2.2 (j := j) (by omega)
      unfold NumP at this
      omega, e2⟩
  have HB := Lib.hid hb
  generalize svX r c p xs bs = RES at N1 N2 Y ⊢
  generalize ivX r c p xs = MX at IV N1 N2 Y
  generalize fitR r bs = ft at FT N2 Y
  generalize xs.length = L at IV FT K0 B0 ⊢
  obtain ⟨Lb, hLb⟩ : ∃ Lb, bs.length = Lb := ⟨_, rfl⟩
  rw [hLb] at FT Y hbn ⊢
  have HLb := Lib.hid hLb
  clear h hn hb hLb
  obtain ⟨z0, z1, z2, -, -, -⟩ := K0.out.all
  go_enter Try.func13, Try.ntmps13
  go_wp2_with fail
  refine (IV.out _ B0.out).mono ?_
  rintro e w1 ⟨v, rfl, own, hb1⟩
  obtain ⟨q, cap, rfl, hq, -⟩ := own.form
  have CQ := Lib.hid own.celA
  have Q2 := Lib.hid (hq.below ((Below.refl _ _).alloc (Nat.le_refl _) (.cells #[.int .i64 MX.r, .int .i64 MX.c, .slice q MX.zs.length cap] 26)))
  have K2 := Lib.hid ((K0.out.step hb1).old (.cells #[.int .i64 MX.r, .int .i64 MX.c, .slice q MX.zs.length cap] 26))
  have A2 : Hid (Blk3 (w1.alloc (.cells #[.int .i64 MX.r, .int .i64 MX.c, .slice q MX.zs.length cap] 26)) w1.heap.size 26 (.int .i64 MX.r) (.int .i64 MX.c) (.slice q MX.zs.length cap)) := Blk3.at_ _ _ _ _ rfl
  have Bx := B0.out.trans (hb1.mono B0.out.size)
  have B2 := Lib.hid (Bx.alloc Bx.size (.cells #[.int .i64 MX.r, .int .i64 MX.c, .slice q MX.zs.length cap] 26))
  clear hb1 Bx hq own K0 B0 IV z0 z1 z2
  go_upto_region 2 with fail
  generalize w1.alloc (.cells #[.int .i64 MX.r, .int .i64 MX.c, .slice q MX.zs.length cap] 26) = W at B2 Q2 A2 K2 ⊢
  obtain ⟨b8, hb8⟩ : ∃ b8, w1.heap.size = b8 := ⟨_, rfl⟩
  rw [hb8] at A2 ⊢
  clear hb8
  rcases Bool.eq_false_or_eq_true MX.ok with hk | hk
  rotate_left
  · have V := Lib.hid (N1.out hk)
    rw [hk]
    go_wp2_with fail
    rw [V.out]
    go_ret2
    exact ⟨_, rfl, .inl ⟨rfl, rfl⟩, B2.out⟩
  rw [hk]
  obtain ⟨z0, z1, z2, -, -, -⟩ := K2.out.all
  go_wp2_with fail
  refine (FT.out _ B2.out).mono ?_
  rintro e w3 ⟨rfl, hb3⟩
  have lb8 := A2.out.lt
  have Q3 := Lib.hid (Q2.out.below hb3)
  have A3 := Lib.hid (A2.out.step hb3)
  have B3 := Lib.hid (B2.out.trans (hb3.mono B2.out.size))
  clear hb3 z0 z1 z2 K2 Q2 A2 B2 FT lb8
  cases ft with
  | false =>
    have V := Lib.hid (N2.out hk rfl)
    go_wp2_with fail
    rw [V.out]
    go_ret2
    exact ⟨_, rfl, .inl ⟨rfl, rfl⟩, B3.out⟩
  | true =>
    obtain ⟨n, e1, e2, h12, p1, p2, hl, hcan, hl2, hbd, eR⟩ := Y.out hk rfl
    have TM : Hid (∀ w', Below w.heap.size w w' → Rd w' q MX.zs → Calls Try.prog 48 #[.agg #[.int .i64 n, .int .i64 n, .slice q (n * n) cap], .slice ab n mb, .int .i64 p] w' (Copy (solL p n MX.zs bs) w')) := fun w' hb' hr => iTimes n (n * n) p q cap MX.zs ab mb bs w' hr rfl hl hcan CQ.out.spot (by have := CQ.out.le; omega) CQ.out.nil h12 p1 p2 (HB.out.below hb') (by rw [HLb.out, hl2]) hbd
    rw [e1, e2, hl] at A3
    have RX := Lib.hid eR
    subst hl2
    clear e1 e2 hl hcan hbd eR Y N1 N2 hk
    obtain ⟨z0, z1, z2, -, -, -⟩ := A3.out.all
    go_wp2_with fail
    refine (TM.out _ B3.out Q3.out).mono ?_
    rintro e w4 ⟨v, rfl, own, hb4⟩
    obtain ⟨q4, c4, rfl, -, -⟩ := own.form
    have B4 := Lib.hid (B3.out.trans (hb4.mono B3.out.size))
    have OW := Lib.hid (own.le B3.out.size)
    clear hb4 own
    go_wp2_with fail
    rw [RX.out]
    go_ret2
    exact ⟨_, rfl, OW.out, B4.out⟩
end Go.Proofs.Ytcapddcmnjeloaa
end
