/-
  Texts of this seat, joined: ZCIvxI · ZCTmI · ZCCelA · ZCLfI · ZCPbI · ZCRatI · ZCRatI2 · ZCRatOpI
-/
import Derived.StillTailTactics
import Derived.BigQuiet
import Derived.Deep.CutBlock
import Derived.Deep.DeepCutAuto
import Derived.Deep.RegionWith
import Derived.Test.YtcapddcmnjeloaaGreatDoorPk23
import Derived.Test.YtcapddcmnjeloaaGreatDoorPk25
import Derived.Test.YtcapddcmnjeloaaGreatDoorPk26
import Derived.Test.YtcapddcmnjeloaaGreatDoorPk27
import Derived.Test.YtcapddcmnjeloaaGreatDoorPk28
import Derived.Test.YtcapddcmnjeloaaGreatDoorPk29

section
/-
  Chapter 8, in the program: InverseMod.
-/
namespace Go.Proofs.YtcapddcmnjeloaaGreatDoor
set_option maxRecDepth 100000
open Go.RowKit
theorem Ints.rdAt {w : World} {g R D : Nat} {zs : List Int} (h : Ints w g zs) (hl : D + R + R ≤ zs.length) : Rd w (some ⟨g, D + R, none⟩) (rwL R fun b => zs.getD (D + (R + b)) 0) := fun j hj => by
  rw [rwL_length] at hj
  refine ⟨g, D + R, rfl, ?_⟩
  rw [rwL_at hj, ← Nat.add_assoc]
  exact h.cell (by omega)
theorem Own.celQ {B N cap : Nat} {w : World} {q : Option Addr} {zs : List Int} (h : Own B w (.slice q N cap) zs) : ∃ _ : Nat, N ≤ cap ∧ (q = none → cap = 0) := by
  rcases h with ⟨hv, rfl⟩ | ⟨g, c', hv, hB, hi, hl, _⟩
  · injection hv with e1 e2 e3
    exact ⟨0, by omega, fun _ => e3⟩
  · injection hv with e1 e2 e3
    exact ⟨0, by omega, fun h => by rw [e1] at h; cases h⟩
set_option maxHeartbeats 4000000 in
theorem iIvx (r c p : Int) (a : Option Addr) (m : Nat) (xs : List Int) (w : World) (h : Rd w a xs) (hn : xs.length ≤ 16777216) :
    Calls Tryz.prog 134 #[.agg #[.int .i64 r, .int .i64 c, .slice a xs.length m], .int .i64 p] w (MatRes (ivX r c p xs) w) := by
  have RD : Hid (∀ w', Below w.heap.size w w' → Calls Tryz.prog 106 #[.agg #[.int .i64 r, .int .i64 c, .slice a xs.length m], .int .i64 p] w' (MatRes (redM r c p xs) w')) := fun w' hb => iRed r c p a m xs w' (h.below hb) hn
  have K0 : Hid (Blk3 ((w.alloc (.cells #[.int .i64 r, .int .i64 c, .slice a xs.length m] 26)).alloc (.cells #[.int .i64 0, .int .i64 0, .slice none 0 0] 26)) w.heap.size 26 (.int .i64 r) (.int .i64 c) (.slice a xs.length m)) := (Blk3.at_ _ _ _ _ rfl).old _
  have R0 : Hid (Blk3 ((w.alloc (.cells #[.int .i64 r, .int .i64 c, .slice a xs.length m] 26)).alloc (.cells #[.int .i64 0, .int .i64 0, .slice none 0 0] 26)) (w.heap.size + 1) 26 (.int .i64 0) (.int .i64 0) (.slice none 0 0)) := Blk3.at_ _ _ _ _ (by simp)
  have B0 : Hid (Below w.heap.size w ((w.alloc (.cells #[.int .i64 r, .int .i64 c, .slice a xs.length m] 26)).alloc (.cells #[.int .i64 0, .int .i64 0, .slice none 0 0] 26))) := ((Below.refl _ _).alloc (Nat.le_refl _) _).alloc (by simp) _
  have S0 : Hid (((w.alloc (.cells #[.int .i64 r, .int .i64 c, .slice a xs.length m] 26)).alloc (.cells #[.int .i64 0, .int .i64 0, .slice none 0 0] 26)).heap.size = w.heap.size + 2) := by show _ = _; simp
  rcases Bool.eq_false_or_eq_true (isMat r c xs && prmB p) with hh | hh
  · obtain ⟨R, C, N, rfl, rfl, hN, hR, hC, hx, hl, hp, hcan, e1, -, -⟩ := rkM_yes hh
    have N2 : Hid (R ≠ C → ivX R C p xs = MR.no) := fun h => ivX_no2 (by omega)
    have N3 : Hid (¬ R ≤ 12 → ivX R C p xs = MR.no) := fun h => ivX_no3 (by omega)
    have YY : Hid (R = C → R ≤ 12 → ivX R C p xs = if (elW p R xs).2.1.length < R then MR.no else ⟨true, R, R, hfTo R (elW p R xs).1 R 0⟩) := fun h1 h2 => by
      subst h1
      show _ = _
      rw [ivX_at hh h2, hfTo_all]
    rw [e1] at RD
    have PB := Lib.hid hp
    have HN := Lib.hid hN
    have HC := Lib.hid hcan
    have HX := Lib.hid hx
    have HL := Lib.hid hl
    rw [hx] at RD K0 R0 B0 S0 ⊢
    clear h hn hx hN hcan e1 hh hp hl
    generalize ivX R C p xs = RES at N2 N3 YY ⊢
    go_enter Tryz.func134, Tryz.ntmps134
    go_upto_region 1 with fail
    generalize (w.alloc (.cells #[.int .i64 R, .int .i64 C, .slice a N m] 26)).alloc (.cells #[.int .i64 0, .int .i64 0, .slice none 0 0] 26) = W0 at K0 R0 B0 S0 ⊢
    obtain ⟨p0, p1, p2, -, -, -⟩ := K0.out.all
    go_wp2_with fail
    refine (RD.out _ B0.out).mono ?_
    rintro e w1 ⟨v, rfl, own, hb⟩
    obtain ⟨q, cap, rfl, -, -⟩ := own.form
    dsimp only
    rw [HL.out]
    replace own := own.le (show w.heap.size ≤ _ by have := S0.out; omega)
    rw [HL.out] at own
    have s0 := S0.out
    have s1 := hb.size
    have Bx := B0.out.trans (hb.mono (by omega))
    have B2 := Lib.hid (Bx.alloc Bx.size (.cells #[.int .i64 R, .int .i64 C, .slice q N cap] 26))
    have QS := Lib.hid own.elim.2
    obtain ⟨g0, hcel⟩ := own.celQ
    have QC := Lib.hid hcel.1
    have QN := Lib.hid hcel.2
    have Q2 := Lib.hid (own.elim.1.below ((Below.refl _ _).alloc (Nat.le_refl _) (.cells #[.int .i64 R, .int .i64 C, .slice q N cap] 26)))
    have A2 : Hid (Blk3 (w1.alloc (.cells #[.int .i64 R, .int .i64 C, .slice q N cap] 26)) w1.heap.size 26 (.int .i64 R) (.int .i64 C) (.slice q N cap)) := Blk3.at_ _ _ _ _ rfl
    have K2 := Lib.hid ((K0.out.step hb).old (.cells #[.int .i64 R, .int .i64 C, .slice q N cap] 26))
    have R2 := Lib.hid ((R0.out.step hb).old (.cells #[.int .i64 R, .int .i64 C, .slice q N cap] 26))
    have S2 : Hid ((w1.alloc (.cells #[.int .i64 R, .int .i64 C, .slice q N cap] 26)).heap.size = w1.heap.size + 1) := by show _ = _; simp
    clear hb own Bx K0 R0 B0 S0 p0 p1 p2 RD
    go_upto_region 2 with fail
    generalize w1.alloc (.cells #[.int .i64 R, .int .i64 C, .slice q N cap] 26) = W2 at B2 Q2 A2 K2 R2 S2 ⊢
    obtain ⟨b6, hb6⟩ : ∃ b6, w1.heap.size = b6 := ⟨_, rfl⟩
    obtain ⟨rb, hrb⟩ : ∃ rb, w.heap.size + 1 = rb := ⟨_, rfl⟩
    have s2 := S2.out
    rw [hb6] at A2 s2 ⊢
    rw [hrb] at R2 ⊢
    have l0 : w.heap.size ≤ rb := by omega
    have l1 : rb < b6 := by omega
    clear hb6 hrb s0 s1 S2 w1 W0
    obtain ⟨p0, p1, p2, -, -, -⟩ := K2.out.all
    by_cases hRC : R = C
    · have n1 : ((R : Int) != (C : Int)) = false := by simp [hRC]
      by_cases h12 : R ≤ 12
      · have YY := Lib.hid (YY.out hRC h12)
        have u9 : IntKind.i64.wrap (2 * (R : Int)) = 2 * (R : Int) := IntWalk.i64_in _ (by omega)
        obtain ⟨C2, hC2⟩ : ∃ C2, 2 * R = C2 := ⟨_, rfl⟩
        have u8 : IntKind.i64.wrap (2 * (R : Int)) = (C2 : Int) := by rw [u9, ← hC2]; omega
        have n3 : decide ((12 : Int) < (R : Int)) = false := decide_eq_false (by omega)
        obtain ⟨N2', hN2⟩ : ∃ N2, R * C2 = N2 := ⟨_, rfl⟩
        have HN2 := Lib.hid hN2
        have HC2 := Lib.hid hC2
        have lN2 : N2' ≤ 288 := by
          rw [← hN2]
          have : R * C2 ≤ 12 * 24 := Nat.mul_le_mul h12 (by omega)
          omega
        have HNN : Hid (N = R * R) := by show _ = _; rw [HN.out, ← hRC]
        have CR : Hid (C = R) := hRC.symm
        clear u9 hC2 hN2 N3 hRC
        have s2' : b6 < W2.heap.size := by omega
        clear s2
        have u7 : IntKind.i64.wrap ((C2 : Int) * (R : Int)) = (N2' : Int) := by
          rw [show (C2 : Int) * (R : Int) = (N2' : Int) by rw [← HN2.out, Int.natCast_mul, Int.mul_comm]]
          exact IntWalk.i64_in _ (by omega)
        have hmk := makeInts N2' (by omega)
        have I5 : Hid (Ints ((W2.alloc (.cells (madeCells #[.int .i64 0] N2') 3)).alloc (.cells #[.int .i64 R, .int .i64 C2, .slice (some ⟨W2.heap.size, 0, none⟩) N2' N2'] 26)) W2.heap.size (wdTo p R xs 0 0)) := by
          have := ((IntsC.made (w := W2) N2' (by omega) rfl).ints).old (.cells #[.int .i64 R, .int .i64 C2, .slice (some ⟨W2.heap.size, 0, none⟩) N2' N2'] 26)
          rw [wdTo_zero, HC2.out, HN2.out]
          exact this
        have T5 : Hid (Blk3 ((W2.alloc (.cells (madeCells #[.int .i64 0] N2') 3)).alloc (.cells #[.int .i64 R, .int .i64 C2, .slice (some ⟨W2.heap.size, 0, none⟩) N2' N2'] 26)) (W2.heap.size + 1) 26 (.int .i64 R) (.int .i64 C2) (.slice (some ⟨W2.heap.size, 0, none⟩) N2' N2')) := Blk3.at_ _ _ _ _ (by simp)
        have E5 : Hid (Below W2.heap.size W2 ((W2.alloc (.cells (madeCells #[.int .i64 0] N2') 3)).alloc (.cells #[.int .i64 R, .int .i64 C2, .slice (some ⟨W2.heap.size, 0, none⟩) N2' N2'] 26))) := ((Below.refl _ _).alloc (Nat.le_refl _) _).alloc (by simp) _
        have S5 : Hid (((W2.alloc (.cells (madeCells #[.int .i64 0] N2') 3)).alloc (.cells #[.int .i64 R, .int .i64 C2, .slice (some ⟨W2.heap.size, 0, none⟩) N2' N2'] 26)).heap.size = W2.heap.size + 2) := by show _ = _; simp
        go_upto_region 6 with fail
        generalize (W2.alloc (.cells (madeCells #[.int .i64 0] N2') 3)).alloc (.cells #[.int .i64 R, .int .i64 C2, .slice (some ⟨W2.heap.size, 0, none⟩) N2' N2'] 26) = W5 at I5 T5 E5 S5 ⊢
        have A5 := Lib.hid (A2.out.keep E5.out A2.out.lt)
        have R5 := Lib.hid (R2.out.keep E5.out R2.out.lt)
        have B5 := Lib.hid (B2.out.trans (E5.out.mono B2.out.size))
        have lb6 := A2.out.lt
        have s5 := S5.out
        obtain ⟨g, hg⟩ : ∃ g, W2.heap.size = g := ⟨_, rfl⟩
        obtain ⟨b9, hb9⟩ : ∃ b9, g + 1 = b9 := ⟨_, rfl⟩
        rw [hg] at I5 T5 E5 lb6 s5 s2' ⊢
        rw [hb9] at T5 ⊢
        have lg9 : g < b9 := by omega
        have LW2 : Hid (W2.heap.size = g) := hg
        have lw2 := B2.out.size
        rw [hg] at lw2
        have DL2 : Hid (∀ i, i < R → i * C2 + C2 ≤ N2') := fun i hi => by rw [← HN2.out, ← Nat.succ_mul]; exact Nat.mul_le_mul_right _ hi
        have DLN : Hid (∀ i, i < R → i * R + R ≤ N) := fun i hi => by rw [HNN.out, ← Nat.succ_mul]; exact Nat.mul_le_mul_right _ hi
        have DLR : Hid (∀ i, i < R → i * R + R ≤ R * R) := fun i hi => by rw [← Nat.succ_mul]; exact Nat.mul_le_mul_right _ hi
        have lN : N ≤ 144 := by rw [HNN.out]; exact Nat.mul_le_mul h12 h12
        have RW6 : Hid (∀ i, i < R → ∀ w', Calls Tryz.prog 44 #[.agg #[.int .i64 R, .int .i64 C, .slice q N cap], .int .i64 i] w' (RowAt q (i * R) R w')) := fun i hi w' => by
          have e := CR.out
          rw [e]
          exact iRowIn R R i (i * R) N cap q w' QS.out rfl (DLN.out i hi) QC.out QN.out (by omega) (by omega)
        have RW9 : Hid (∀ i, i < R → ∀ w', Calls Tryz.prog 44 #[.agg #[.int .i64 R, .int .i64 C2, .slice (some ⟨g, 0, none⟩) N2' N2'], .int .i64 i] w' (RowAt (some ⟨g, 0, none⟩) (i * C2) C2 w')) := fun i hi w' => iRowIn R C2 i (i * C2) N2' N2' _ w' (.inr ⟨g, 0, rfl⟩) rfl (DL2.out i hi) (Nat.le_refl _) (fun h => by cases h) (by omega) (by omega)
        clear hg hb9 S5 hmk K2 R2 A2 B2 p0 p1 p2
        go_wp2_with fail
        go_loopw [10, 11, 49] (fun _ _ v49 wr => ∃ i : Nat, v49 = .int .i64 i ∧ i ≤ R ∧ Ints wr g (wdTo p R xs i 0) ∧ W5.grownBy wr (some g)) (fun _ _ v49 _ => R - (intOf v49).toNat)
        case atStart => exact ⟨0, rfl, by omega, I5.out, World.grownBy.refl _ _⟩
        case round =>
          clear I5
          obtain ⟨i, rfl, hi, hI, hgr⟩ := hrel
          have I := Lib.hid hI
          have G := Lib.hid hgr
          clear hI hgr
          by_cases hlt : i < R
          · have c20 : R ≤ C2 := by have := HC2.out; omega
            have A6 := Lib.hid (A5.out.keepOne G.out (by omega))
            have T6 := Lib.hid (T5.out.keepOne G.out (by omega))
            obtain ⟨q0, q1, q2, -, -, -⟩ := T6.out.all
            go_wp2_with fail
            refine (RW9.out i hlt _).mono ?_
            rintro e w6 ⟨q6, m6, rfl, hm6, hq6, -, hb6'⟩
            obtain rfl := hq6 g 0 rfl (by omega)
            rw [Nat.zero_add]
            have A7 := Lib.hid (A6.out.step hb6')
            have I7 := Lib.hid (I.out.keep hb6' I.out.lt)
            have G7 := Lib.hid (G.out.trans (grown_of_below hb6' (some g)))
            clear hb6' hq6 q0 q1 q2
            obtain ⟨p0, p1, p2, -, -, -⟩ := A7.out.all
            go_wp2_with fail
            refine (RW6.out i hlt _).mono ?_
            rintro e w7 ⟨q7, m7, rfl, hm7, hq7, -, hb7⟩
            have I8 := Lib.hid (I7.out.keep hb7 I7.out.lt)
            have G8 := Lib.hid (G7.out.trans (grown_of_below hb7 (some g)))
            clear hb7 p0 p1 p2
            have hsrc : Rd w7 q7 (rwL R (mxC R (resL p xs) i)) := by
              have h1 : Rd w7 q (resL p xs) := (Q2.out.below (by rw [LW2.out]; exact E5.out)).one G8.out (fun b o e e2 => by
                subst e2
                obtain ⟨b', o', e', hc'⟩ := Q2.out 0 (by rw [HL.out]; have := DLN.out i hlt; omega)
                rw [e] at e'
                injection e' with e'
                injection e' with e' _
                subst e'
                have := World.block_lt_of_cell? W2 _ hc'
                simp at this
                have := LW2.out
                omega)
              exact h1.row (by rw [HL.out, HNN.out]) hlt (fun g' o' e _ => hq7 g' o' e (by omega))
            obtain ⟨w8, hrun, hi8, hg8⟩ := copyInts w7 g (i * C2) C2 m6 R m7 q7 (wdTo p R xs i 0) (rwL R (mxC R (resL p xs) i)) I8.out hsrc (rwL_length _ _) (by omega) (by omega) (by rw [wdTo_length, HC2.out, HN2.out]; have := DL2.out i hlt; omega) 3
            have e8 : (wdTo p R xs i 0).take (i * C2) ++ rwL R (mxC R (resL p xs) i) ++ (wdTo p R xs i 0).drop (i * C2 + R) = wdTo p R xs i R := by
              have := wdTo_lay (p := p) (xs := xs) hlt (rwL_length R (mxC R (resL p xs) i)) (fun b hb => rwL_at hb)
              rw [HC2.out] at this
              exact this
            rw [e8] at hi8
            have I9 := Lib.hid hi8
            have G9 := Lib.hid (G8.out.trans hg8)
            clear hi8 hg8 hsrc e8 hq7
            obtain ⟨P, hP⟩ : ∃ P, i * C2 + (R + i) = P := ⟨_, rfl⟩
            have hPN : P < N2' := by have := DL2.out i hlt; have := HC2.out; omega
            have hold := I9.out.cell (i := P) (by rw [wdTo_length, HC2.out, HN2.out]; exact hPN)
            have hfr := I9.out.free P
            have ST : Hid ((wdTo p R xs i R).set P 1 = wdTo p R xs (i + 1) 0) := by
              show _ = _
              rw [← hP, ← HC2.out]
              exact wdTo_row hlt
            have IS := Lib.hid (I9.out.set P 1)
            have GS := Lib.hid (grown_set_one (a := ⟨g, P, none⟩) G9.out rfl (.int .i64 1))
            have u3 : IntKind.i64.wrap ((R : Int) + (i : Int)) = (R : Int) + (i : Int) := IntWalk.i64_in _ (by omega)
            have u4 : (R : Int) + (i : Int) < (C2 : Int) := by have := HC2.out; omega
            have u5 : ((R : Int) + (i : Int)).toNat = R + i := by omega
            have u6 : (0 : Int) ≤ (R : Int) + (i : Int) := by omega
            rw [← hP] at hold hfr IS GS ST
            clear hP hPN
            go_wp2_with (at_builtin; refine wpList_copyR rfl _ _ 24 rfl _ _ rfl rfl _ _ hrun ?_)
            go_roundw
            case rel => exact ⟨i + 1, by go_num, by omega, by rw [← ST.out]; exact IS.out, GS.out⟩
            case measure => simp [intOf]; omega
          · obtain rfl : R = i := by omega
            have T6 := Lib.hid (T5.out.keepOne G.out (by omega))
            have R6 := Lib.hid (R5.out.keepOne G.out (by omega))
            have B6 := Lib.hid (B5.out.trans (below_of_one G.out lw2 B5.out.size))
            have EL : Hid (∀ w', Ints w' g (wdTo p R xs R 0) → Calls Tryz.prog 107 #[.agg #[.int .i64 R, .int .i64 C2, .slice (some ⟨g, 0, none⟩) N2' N2'], .int .i64 R, .int .i64 p] w' (fun e w2 => e = .returned (.tuple #[.int .i64 ((elW p R xs).2.1.length : Int), .int .i64 (elW p R xs).2.2]) ∧ Cel w2 (some ⟨g, 0, none⟩) N2' N2' g (elW p R xs).1 ∧ w'.grownBy w2 (some g))) := fun w' hi' => by
              rw [wdTo_all] at hi'
              have lw : (wideL p R xs).length = N2' := by unfold wideL; rw [tab_length, HC2.out, HN2.out]
              have := iElim R C2 R N2' N2' g (some ⟨g, 0, none⟩) p (wideL p R xs) w' HN2.out.symm (by omega) (by have := HC2.out; omega) (by have := HC2.out; omega) PB.out (wideL_can (prmB_says PB.out).1 (by rw [HX.out, HNN.out])) (.inr ⟨rfl, Nat.le_refl _, lw, hi'⟩)
              unfold elW
              rw [← HC2.out] at this ⊢
              exact this
            obtain ⟨EW, hEW⟩ : ∃ EW, elW p R xs = EW := ⟨_, rfl⟩
            have LE : EW.1.length = N2' := by
              rw [← hEW]
              have := elW_len p R xs
              rw [HC2.out, HN2.out] at this
              exact this
            rw [hEW] at EL YY
            have II := Lib.hid I.out
            clear hEW I
            obtain ⟨q0, q1, q2, -, -, -⟩ := T6.out.all
            go_wp2_with fail
            refine (EL.out _ II.out).mono ?_
            rintro e w7 ⟨rfl, hc7, hg7⟩
            have Q7 := Lib.hid hc7
            have T7 := Lib.hid (T6.out.keepOne hg7 (by omega))
            have R7 := Lib.hid (R6.out.keepOne hg7 (by omega))
            have B7 := Lib.hid (B6.out.trans (below_of_one hg7 lw2 B6.out.size))
            clear hg7 hc7 q0 q1 q2 R6 T6 B6 II G EL
            by_cases hlt2 : EW.2.1.length < R
            · have RX : Hid (RES = MR.no) := by show _ = _; rw [YY.out, if_pos hlt2]
              obtain ⟨r0, r1, r2, f0, f1, f2⟩ := R7.out.all
              go_wp2_with fail
              obtain ⟨E0, E1, E2, -, -, -⟩ := (((R7.out.set0 (.int .i64 0)).set1 (.int .i64 0)).set2 (.slice none 0 0)).all
              rw [RX.out]
              exact bodyPost_ret (v := .tuple #[.agg #[.int .i64 0, .int .i64 0, .slice none 0 0], .bool false]) (by simp [results, Tryz.results134, go_sem, E0, E1, E2]) rfl ⟨_, rfl, .inl ⟨rfl, rfl⟩, ((B7.out.setCell l0 _).setCell l0 _).setCell l0 _⟩
            · have RX : Hid (RES = ⟨true, R, R, hfTo R EW.1 R 0⟩) := by show _ = _; rw [YY.out, if_neg hlt2]
              have u6 : IntKind.i64.wrap ((R : Int) * (R : Int)) = (N : Int) := by
                rw [show (R : Int) * (R : Int) = (N : Int) by rw [HNN.out, Int.natCast_mul]]
                exact IntWalk.i64_in _ (by omega)
              have hmk := makeInts N (by omega)
              have I8 : Hid (Ints ((w7.alloc (.cells (madeCells #[.int .i64 0] N) 3)).alloc (.cells #[.int .i64 R, .int .i64 R, .slice (some ⟨w7.heap.size, 0, none⟩) N N] 26)) w7.heap.size (hfTo R EW.1 0 0)) := by
                have := ((IntsC.made (w := w7) N (by omega) rfl).ints).old (.cells #[.int .i64 R, .int .i64 R, .slice (some ⟨w7.heap.size, 0, none⟩) N N] 26)
                rw [hfTo_zero, ← HNN.out]
                exact this
              have T8 : Hid (Blk3 ((w7.alloc (.cells (madeCells #[.int .i64 0] N) 3)).alloc (.cells #[.int .i64 R, .int .i64 R, .slice (some ⟨w7.heap.size, 0, none⟩) N N] 26)) (w7.heap.size + 1) 26 (.int .i64 R) (.int .i64 R) (.slice (some ⟨w7.heap.size, 0, none⟩) N N)) := Blk3.at_ _ _ _ _ (by simp)
              have E8 : Hid (Below w7.heap.size w7 ((w7.alloc (.cells (madeCells #[.int .i64 0] N) 3)).alloc (.cells #[.int .i64 R, .int .i64 R, .slice (some ⟨w7.heap.size, 0, none⟩) N N] 26))) := ((Below.refl _ _).alloc (Nat.le_refl _) _).alloc (by simp) _
              have n9 : decide (EW.2.1.length < R) = false := decide_eq_false hlt2
              go_upto_region 17 with fail
              generalize (w7.alloc (.cells (madeCells #[.int .i64 0] N) 3)).alloc (.cells #[.int .i64 R, .int .i64 R, .slice (some ⟨w7.heap.size, 0, none⟩) N N] 26) = W8 at I8 T8 E8 ⊢
              have A8 := Lib.hid (T7.out.keep E8.out T7.out.lt)
              have R8 := Lib.hid (R7.out.keep E8.out R7.out.lt)
              have B8 := Lib.hid (B7.out.trans (E8.out.mono B7.out.size))
              have Q8 := Lib.hid (Q7.out.keep E8.out)
              have lg7 := T7.out.lt
              have lw7 := B7.out.size
              obtain ⟨g2, hg2⟩ : ∃ g2, w7.heap.size = g2 := ⟨_, rfl⟩
              obtain ⟨b14, hb14⟩ : ∃ b14, g2 + 1 = b14 := ⟨_, rfl⟩
              rw [hg2] at I8 T8 E8 lg7 lw7 ⊢
              rw [hb14] at T8 ⊢
              have l14 : g2 < b14 := by omega
              have RW2 : Hid (∀ i, i < R → ∀ w', Calls Tryz.prog 44 #[.agg #[.int .i64 R, .int .i64 R, .slice (some ⟨g2, 0, none⟩) N N], .int .i64 i] w' (RowAt (some ⟨g2, 0, none⟩) (i * R) R w')) := fun i hi w' => iRowIn R R i (i * R) N N _ w' (.inr ⟨g2, 0, rfl⟩) rfl (DLN.out i hi) (Nat.le_refl _) (fun h => by cases h) (by omega) (by omega)
              clear hmk hg2 hb14 n9 hlt2 Q7 R7 T7 B7
              go_wp2_with fail
              go_loopw [15, 85] (fun _ v85 wr => ∃ i : Nat, v85 = .int .i64 i ∧ i ≤ R ∧ Ints wr g2 (hfTo R EW.1 i 0) ∧ W8.grownBy wr (some g2)) (fun _ v85 _ => R - (intOf v85).toNat)
              case atStart => exact ⟨0, rfl, by omega, I8.out, World.grownBy.refl _ _⟩
              case round =>
                clear I8
                obtain ⟨i, rfl, hi, hI, hgr⟩ := hrel
                have I := Lib.hid hI
                have G := Lib.hid hgr
                clear hI hgr
                have T9 := Lib.hid (T8.out.keepOne G.out (by omega))
                have A9 := Lib.hid (A8.out.keepOne G.out (by omega))
                by_cases hlt : i < R
                · have c20 : R ≤ C2 := by have := HC2.out; omega
                  have h0 : 0 < N2' := by have := DL2.out i hlt; omega
                  have QB := Lib.hid ((Q8.out.ints h0).2.move (w' := wr) (G.out.block g (Q8.out.ints h0).2.lt (by simp; omega)))
                  have e8 : (hfTo R EW.1 i 0).take (i * R) ++ (rwL R fun b => EW.1.getD (i * C2 + (R + b)) 0) ++ (hfTo R EW.1 i 0).drop (i * R + R) = hfTo R EW.1 (i + 1) 0 := hfTo_lay hlt (rwL_length _ _) (fun b hb => by rw [rwL_at hb, HC2.out])
                  have EE := Lib.hid e8
                  clear e8
                  go_wp2_with fail
                  refine wp_region_held_drew (S := fun w' => Blk3 w' b14 26 (.int .i64 R) (.int .i64 R) (.slice (some ⟨g2, 0, none⟩) N N) ∧ Blk3 w' b9 26 (.int .i64 R) (.int .i64 C2) (.slice (some ⟨g, 0, none⟩) N2' N2')) (by kernel_rfl) ⟨T9.out.drew, A9.out.drew⟩ (fun hH => ?_)
                  have X9 := Lib.hid I.out.drew
                  have Y9 := Lib.hid (grown_drew_one G.out)
                  have Z9 := Lib.hid QB.out.drew
                  generalize wr.drew = wd at hH X9 Y9 Z9 ⊢
                  refine wpAnyH_take (i := 0) (v := ?_) (by simp only [List.getElem?_toArray, List.getElem?_cons_zero]; rfl) (by kernel_rfl) (by kernel_rfl) (by kernel_rfl) (by exact fun _ _ _ h => h) (Or.inl ⟨by rfl, ?_⟩) hH ?_
                  rotate_left
                  · (intro wS hS; (try dsimp only at hS); have k0 := hS.1.cell0; have k1 := hS.1.cell1; have k2 := hS.1.cell2; clear hS; go_simp; try rfl)
                  try simp only [Act.put, List.setIfInBounds_toArray, List.set_cons_zero, List.set_cons_succ]
                  refine wpAnyH_take (i := 1) (v := ?_) (by simp only [List.getElem?_toArray, List.getElem?_cons_succ, List.getElem?_cons_zero]; rfl) (by kernel_rfl) (by kernel_rfl) (by kernel_rfl) (by exact fun _ _ _ h => h) (Or.inl ⟨by rfl, ?_⟩) hH ?_
                  rotate_left
                  · (intro wS hS; clear hS; go_simp; try rfl)
                  try simp only [Act.put, List.setIfInBounds_toArray, List.set_cons_zero, List.set_cons_succ]
                  refine wpAnyH_take (i := 3) (v := ?_) (by simp only [List.getElem?_toArray, List.getElem?_cons_succ, List.getElem?_cons_zero]; rfl) (by kernel_rfl) (by kernel_rfl) (by kernel_rfl) (by exact fun _ _ _ h => h) (Or.inl ⟨by rfl, ?_⟩) hH ?_
                  rotate_left
                  · (intro wS hS; (try dsimp only at hS); have k0 := hS.2.cell0; have k1 := hS.2.cell1; have k2 := hS.2.cell2; clear hS; go_simp; try rfl)
                  try simp only [Act.put, List.setIfInBounds_toArray, List.set_cons_zero, List.set_cons_succ]
                  refine wpAnyH_take (i := 4) (v := ?_) (by simp only [List.getElem?_toArray, List.getElem?_cons_succ, List.getElem?_cons_zero]; rfl) (by kernel_rfl) (by kernel_rfl) (by kernel_rfl) (by exact fun _ _ _ h => h) (Or.inl ⟨by rfl, ?_⟩) hH ?_
                  rotate_left
                  · (intro wS hS; clear hS; go_simp; try rfl)
                  try simp only [Act.put, List.setIfInBounds_toArray, List.set_cons_zero, List.set_cons_succ]
                  refine wpAnyH_take (i := 6) (v := ?_) (by simp only [List.getElem?_toArray, List.getElem?_cons_succ, List.getElem?_cons_zero]; rfl) (by kernel_rfl) (by kernel_rfl) (by kernel_rfl) (by exact fun _ _ _ h => h) (Or.inl ⟨by rfl, ?_⟩) hH ?_
                  rotate_left
                  · (intro wS hS; clear hS; go_simp; try rfl)
                  try simp only [Act.put, List.setIfInBounds_toArray, List.set_cons_zero, List.set_cons_succ]
                  refine wpAnyH_ready (rs := [2]) (by kernel_rfl) (by simp) ?_
                  refine AllReadyH.cons (by simp only [List.getElem?_toArray, List.getElem?_cons_succ, List.getElem?_cons_zero]; rfl) (fun K hK => ?_) AllReadyH.nil
                  go_simp
                  (with_reducible refine (RW2.out i hlt _).mono ?_)
                  rintro e v1 ⟨q1, m1, rfl, hm1, hq1, -, hb1⟩
                  obtain rfl := hq1 g2 0 rfl (by omega)
                  rw [Nat.zero_add]
                  have X9 := Lib.hid (X9.out.keep hb1 X9.out.lt)
                  have Y9 := Lib.hid (Y9.out.trans (grown_of_below hb1 _))
                  have Z9 := Lib.hid (Z9.out.keep hb1 Z9.out.lt)
                  try dsimp only
                  refine hK.out _ _ ?_ (fun hH2 => ?_)
                  · exact ⟨hH.1.step hb1, hH.2.step hb1⟩
                  clear hK K hH
                  have hH := hH2
                  clear hH2
                  try simp only [Act.put, List.setIfInBounds_toArray, List.set_cons_zero, List.set_cons_succ]
                  refine wpAnyH_ready (rs := [5]) (by kernel_rfl) (by simp) ?_
                  refine AllReadyH.cons (by simp only [List.getElem?_toArray, List.getElem?_cons_succ, List.getElem?_cons_zero]; rfl) (fun K hK => ?_) AllReadyH.nil
                  go_simp
                  (with_reducible refine (RW9.out i hlt _).mono ?_)
                  rintro e v2 ⟨q2, m2, rfl, hm2, hq2, -, hb2⟩
                  obtain rfl := hq2 g 0 rfl (by omega)
                  rw [Nat.zero_add]
                  have X9 := Lib.hid (X9.out.keep hb2 X9.out.lt)
                  have Y9 := Lib.hid (Y9.out.trans (grown_of_below hb2 _))
                  have Z9 := Lib.hid (Z9.out.keep hb2 Z9.out.lt)
                  try dsimp only
                  refine hK.out _ _ ?_ (fun hH2 => ?_)
                  · exact ⟨hH.1.step hb2, hH.2.step hb2⟩
                  clear hK K hH
                  have hH := hH2
                  clear hH2
                  try simp only [Act.put, List.setIfInBounds_toArray, List.set_cons_zero, List.set_cons_succ]
                  have c22 : (R : Int) ≤ (C2 : Int) := by omega
                  have c23 : ¬ m2 = R := by have := HC2.out; omega
                  refine wpAnyH_take (i := 7) (v := ?_) (by simp only [List.getElem?_toArray, List.getElem?_cons_succ, List.getElem?_cons_zero]; rfl) (by kernel_rfl) (by kernel_rfl) (by kernel_rfl) (by exact fun _ _ _ h => h) (Or.inl ⟨by rfl, ?_⟩) hH ?_
                  rotate_left
                  · (intro wS hS; clear hS; go_simp; try rfl)
                  try simp only [Act.put, List.setIfInBounds_toArray, List.set_cons_zero, List.set_cons_succ]
                  rw [show C2 - R = R by have := HC2.out; omega]
                  obtain ⟨w8, hrun, hi8, hg8⟩ := copyInts v2 g2 (i * R) R m1 R (m2 - R) (some ⟨g, i * C2 + R, none⟩) (hfTo R EW.1 i 0) (rwL R fun b => EW.1.getD (i * C2 + (R + b)) 0) X9.out (Z9.out.rdAt (by rw [LE]; have := DL2.out i hlt; have := HC2.out; omega)) (rwL_length _ _) (by omega) (Nat.le_refl _) (by rw [hfTo_length]; exact DLR.out i hlt) 3
                  refine wpAnyH_ready (rs := [8]) (by kernel_rfl) (by simp) ?_
                  refine AllReadyH.cons (by simp only [List.getElem?_toArray, List.getElem?_cons_succ, List.getElem?_cons_zero]; rfl) (fun K hK => ?_) AllReadyH.nil
                  refine step_copy rfl _ _ 24 rfl _ _ rfl rfl _ _ hrun ?_
                  try dsimp only
                  refine hK.out _ _ ⟨hH.1.keepOne hg8 (by omega), hH.2.keepOne hg8 (by omega)⟩ (fun hH2 => ?_)
                  clear hK K hH hH2
                  try simp only [Act.put, List.setIfInBounds_toArray, List.set_cons_zero, List.set_cons_succ]
                  refine wpAnyH_done (by kernel_rfl) ?_ _
                  rw [EE.out] at hi8
                  have I8 := Lib.hid hi8
                  have G8 := Lib.hid (Y9.out.trans hg8)
                  clear hi8 hg8 hrun
                  go_wp2_with fail
                  go_roundw
                  case rel => exact ⟨i + 1, by go_num, by omega, I8.out, G8.out⟩
                  case measure => simp [intOf]; omega
                · obtain rfl : R = i := by omega
                  have R9 := Lib.hid (R8.out.keepOne G.out (by omega))
                  have B9 := Lib.hid (B8.out.trans (below_of_one G.out lw7 B8.out.size))
                  obtain ⟨q0, q1, q2, -, -, -⟩ := T9.out.all
                  obtain ⟨r0, r1, r2, f0, f1, f2⟩ := R9.out.all
                  have LN : (hfTo R EW.1 R 0).length = N := by rw [hfTo_length, HNN.out]
                  go_wp2_with fail
                  obtain ⟨E0, E1, E2, -, -, -⟩ := (((R9.out.set0 (.int .i64 R)).set1 (.int .i64 R)).set2 (.slice (some ⟨g2, 0, none⟩) N N)).all
                  rw [RX.out]
                  refine bodyPost_ret (v := .tuple #[.agg #[.int .i64 R, .int .i64 R, .slice (some ⟨g2, 0, none⟩) N N], .bool true]) (by simp [results, Tryz.results134, go_sem, E0, E1, E2]) rfl ⟨_, rfl, .inr ⟨g2, N, by rw [LN], lw7, ?_, by rw [LN]; exact Nat.le_refl _, by rw [LN]; omega⟩, ((B9.out.setCell l0 _).setCell l0 _).setCell l0 _⟩
                  exact ((I.out.far (a := ⟨rb, 0, none⟩) (by show g2 ≠ rb; omega) _).far (a := ⟨rb, 1, none⟩) (by show g2 ≠ rb; omega) _).far (a := ⟨rb, 2, none⟩) (by show g2 ≠ rb; omega) _
      · have RX := Lib.hid (N3.out h12)
        have n2 : decide ((12 : Int) < (R : Int)) = true := decide_eq_true (by omega)
        obtain ⟨r0, r1, r2, f0, f1, f2⟩ := R2.out.all
        go_wp2_with fail
        obtain ⟨E0, E1, E2, -, -, -⟩ := (((R2.out.set0 (.int .i64 0)).set1 (.int .i64 0)).set2 (.slice none 0 0)).all
        rw [RX.out]
        exact bodyPost_ret (v := .tuple #[.agg #[.int .i64 0, .int .i64 0, .slice none 0 0], .bool false]) (by simp [results, Tryz.results134, go_sem, E0, E1, E2]) rfl ⟨_, rfl, .inl ⟨rfl, rfl⟩, ((B2.out.setCell l0 _).setCell l0 _).setCell l0 _⟩
    · have n1 : ((R : Int) != (C : Int)) = true := by simp; omega
      have RX := Lib.hid (N2.out hRC)
      obtain ⟨r0, r1, r2, f0, f1, f2⟩ := R2.out.all
      go_wp2_with fail
      obtain ⟨E0, E1, E2, -, -, -⟩ := (((R2.out.set0 (.int .i64 0)).set1 (.int .i64 0)).set2 (.slice none 0 0)).all
      rw [RX.out]
      exact bodyPost_ret (v := .tuple #[.agg #[.int .i64 0, .int .i64 0, .slice none 0 0], .bool false]) (by simp [results, Tryz.results134, go_sem, E0, E1, E2]) rfl ⟨_, rfl, .inl ⟨rfl, rfl⟩, ((B2.out.setCell l0 _).setCell l0 _).setCell l0 _⟩
  · have RX : Hid (ivX r c p xs = MR.no) := ivX_no1 hh
    rw [(rkM_no hh).2.1] at RD
    obtain ⟨L, hL⟩ : ∃ L, xs.length = L := ⟨_, rfl⟩
    rw [hL] at RD K0 R0 B0 S0 ⊢
    clear h hn hh hL K0
    go_enter Tryz.func134, Tryz.ntmps134
    go_upto_region 1 with fail
    have B0' := B0.out
    go_wp2_with fail
    refine (RD.out _ B0.out).mono ?_
    rintro e w1 ⟨v, rfl, own, hb⟩
    obtain ⟨q, cap, rfl, -, -⟩ := own.form
    have s0 := S0.out
    have s1 := hb.size
    have Bx := B0.out.trans (hb.mono (by omega))
    have B2 := Lib.hid (Bx.alloc Bx.size (.cells #[.int .i64 MR.no.r, .int .i64 MR.no.c, .slice q MR.no.zs.length cap] 26))
    have R2 := Lib.hid ((R0.out.step hb).old (.cells #[.int .i64 MR.no.r, .int .i64 MR.no.c, .slice q MR.no.zs.length cap] 26))
    have l0 : w.heap.size ≤ w.heap.size + 1 := Nat.le_succ _
    clear hb own Bx B0' B0 R0
    have ok : MR.no.ok = false := rfl
    rw [ok]
    obtain ⟨r0, r1, r2, f0, f1, f2⟩ := R2.out.all
    go_wp2_with fail
    obtain ⟨E0, E1, E2, -, -, -⟩ := (((R2.out.set0 (.int .i64 0)).set1 (.int .i64 0)).set2 (.slice none 0 0)).all
    rw [RX.out]
    exact bodyPost_ret (v := .tuple #[.agg #[.int .i64 0, .int .i64 0, .slice none 0 0], .bool false]) (by simp [results, Tryz.results134, go_sem, E0, E1, E2]) rfl ⟨_, rfl, .inl ⟨rfl, rfl⟩, ((B2.out.setCell l0 _).setCell l0 _).setCell l0 _⟩
end Go.Proofs.YtcapddcmnjeloaaGreatDoor
end

section
/-
  Chapter 8, in the program: fitsRows and timesMod.
-/
namespace Go.Proofs.YtcapddcmnjeloaaGreatDoor
set_option maxRecDepth 100000
open Go.RowKit
theorem isMat_col {L : Nat} {bs : List Int} (hL : L ≤ 24) (hl : bs.length = L) (hn : nums bs = true) : isMat L 1 bs = true := by
  have h1 : (bs.length : Int) = (L : Int) * 1 := by omega
  unfold isMat
  simp only [Bool.and_eq_true, decide_eq_true_eq]
  exact ⟨⟨⟨⟨by omega, by omega⟩, ⟨by decide, by decide⟩⟩, h1⟩, hn⟩
def fitR (r : Int) (bs : List Int) : Bool := decide ((bs.length : Int) = r) && isMat bs.length 1 bs
theorem fitR_eq {n : Nat} {bs : List Int} (hn : n ≤ 24) : fitR n bs = (decide ((bs.length : Int) = n) && nums bs) := by
  unfold fitR
  by_cases h : (bs.length : Int) = n
  · rw [decide_eq_true h]
    cases hb : nums bs with
    | true => rw [isMat_col (by omega) rfl hb]
    | false =>
      cases hm : isMat (bs.length : Int) 1 bs with
      | false => rfl
      | true => rw [(isMat_says hm).2.2.2] at hb; cases hb
  · rw [decide_eq_false h]; rfl
set_option maxHeartbeats 1000000 in
theorem iFits (r c : Int) (a : Option Addr) (L m : Nat) (ab : Option Addr) (mb : Nat) (bs : List Int) (w : World) (hb : Rd w ab bs) (hbn : bs.length ≤ 16777216) :
    Calls Tryz.prog 74 #[.agg #[.int .i64 r, .int .i64 c, .slice a L m], .slice ab bs.length mb] w (Gives (.bool (fitR r bs)) w) := by
  have K0 : Hid (Blk3 (w.alloc (.cells #[.int .i64 r, .int .i64 c, .slice a L m] 26)) w.heap.size 26 (.int .i64 r) (.int .i64 c) (.slice a L m)) := Blk3.at_ _ _ _ _ rfl
  have B0 : Hid (Below w.heap.size w (w.alloc (.cells #[.int .i64 r, .int .i64 c, .slice a L m] 26))) := (Below.refl _ _).alloc (Nat.le_refl _) _
  have IM : Hid (∀ w', Below w.heap.size w w' → Calls Tryz.prog 43 #[.agg #[.int .i64 (bs.length : Int), .int .i64 1, .slice ab bs.length mb]] w' (Gives (.bool (isMat (bs.length : Int) 1 bs)) w')) := fun w' h' => iIsMat (bs.length : Int) 1 ab mb bs w' (hb.below h') hbn
  have F : Hid (fitR r bs = (decide ((bs.length : Int) = r) && isMat bs.length 1 bs)) := rfl
  rw [F.out]
  generalize isMat (bs.length : Int) 1 bs = y at IM ⊢
  generalize bs.length = l at IM hbn ⊢
  clear hb F
  obtain ⟨k0, k1, k2, -, -, -⟩ := K0.out.all
  by_cases h : (l : Int) = r
  · subst h
    rw [decide_eq_true rfl, Bool.true_and]
    go_enter Tryz.func74, Tryz.ntmps74
    go_wp2_with fail
    with_reducible refine (IM.out _ B0.out).mono ?_
    rintro e w1 ⟨rfl, hb1⟩
    have B1 := Lib.hid (B0.out.trans (hb1.mono B0.out.size))
    clear hb1
    go_wp2_with fail
    go_ret
    exact ⟨rfl, B1.out⟩
  · have e1 : ((l : Int) == r) = false := by simpa using h
    rw [decide_eq_false h, Bool.false_and]
    go_enter Tryz.func74, Tryz.ntmps74
    go_wp2_with fail
    go_ret
    exact ⟨rfl, B0.out⟩
set_option maxHeartbeats 4000000 in
theorem iTimes (n N : Nat) (p : Int) (q : Option Addr) (cap : Nat) (vs : List Int) (ab : Option Addr) (mb : Nat) (bs : List Int) (w : World) (hv : Rd w q vs) (hN : n * n = N) (hl : vs.length = N) (hcan : CanL p vs) (hq : Spot q) (hcap : N ≤ cap) (hq0 : q = none → cap = 0) (h12 : n ≤ 12) (hp1 : 2 ≤ p) (hp2 : p ≤ 10000) (hb : Rd w ab bs) (hbl : bs.length = n) (hbd : ∀ j, j < n → -2400000000 ≤ bs.getD j 0 ∧ bs.getD j 0 ≤ 2400000000) :
    Calls Tryz.prog 164 #[.agg #[.int .i64 n, .int .i64 n, .slice q N cap], .slice ab n mb, .int .i64 p] w (Copy (solL p n vs bs) w) := by
  have A5 : Hid (Blk3 (w.alloc (.cells #[.int .i64 n, .int .i64 n, .slice q N cap] 26)) w.heap.size 26 (.int .i64 n) (.int .i64 n) (.slice q N cap)) := Blk3.at_ _ _ _ _ rfl
  have B5 : Hid (Below w.heap.size w (w.alloc (.cells #[.int .i64 n, .int .i64 n, .slice q N cap] 26))) := (Below.refl _ _).alloc (Nat.le_refl _) _
  have lN : N ≤ 144 := by rw [← hN]; exact Nat.mul_le_mul h12 h12
  have DLN : Hid (∀ i, i < n → i * n + n ≤ N) := fun i hi => by rw [← hN, ← Nat.succ_mul]; exact Nat.mul_le_mul_right _ hi
  have HV := Lib.hid hv
  have HB := Lib.hid hb
  have HL := Lib.hid hl
  have HN := Lib.hid hN
  have HBL := Lib.hid hbl
  have HBD := Lib.hid hbd
  have HC := Lib.hid hcan
  have RW : Hid (∀ i, i < n → ∀ w', Calls Tryz.prog 44 #[.agg #[.int .i64 n, .int .i64 n, .slice q N cap], .int .i64 i] w' (RowAt q (i * n) n w')) := fun i hi w' => iRowIn n n i (i * n) N cap q w' hq rfl (DLN.out i hi) hcap hq0 (by omega) (by omega)
  have np : ¬ p = 0 := by omega
  have GO : Hid (∀ i j, Int.tmod (svF p n vs bs i j + Int.tmod (vs.getD (i * n + j) 0 * bs.getD j 0) p + p) p = svF p n vs bs i (j + 1)) := fun i j => svF_go (by omega) n vs bs i j
  clear hv hb hl hN hbl hbd hcan hq hcap hq0
  have hmk := makeInts n (by omega)
  obtain ⟨z0, z1, z2, -, -, -⟩ := A5.out.all
  go_enter Tryz.func164, Tryz.ntmps164
  generalize hW5 : w.alloc (.cells #[.int .i64 n, .int .i64 n, .slice q N cap] 26) = W5 at A5 B5 z0 z1 z2
  have I6 : Hid (Ints (W5.alloc (.cells (madeCells #[.int .i64 0] n) 3)) W5.heap.size (svTo p n vs bs 0 0)) := by
    have := (IntsC.made (w := W5) n (by omega) rfl).ints
    rw [svTo_zero]
    exact this
  have E6 : Hid (Below W5.heap.size W5 (W5.alloc (.cells (madeCells #[.int .i64 0] n) 3))) := (Below.refl _ _).alloc (Nat.le_refl _) _
  have la5 := A5.out.lt
  have LW := B5.out.size
  have Q5 : Hid (Rd W5 q vs) := HV.out.below B5.out
  have C5 : Hid (Rd W5 ab bs) := HB.out.below B5.out
  subst hW5
  go_upto_region 2 with fail
  generalize hW5 : w.alloc (.cells #[.int .i64 n, .int .i64 n, .slice q N cap] 26) = W5 at A5 B5 z0 z1 z2 I6 E6 la5 LW Q5 C5 ⊢
  generalize W5.alloc (.cells (madeCells #[.int .i64 0] n) 3) = W6 at I6 E6 ⊢
  have S5 : W5.heap.size = w.heap.size + 1 := by rw [← hW5]; simp
  rw [S5] at I6 E6 la5 LW
  obtain ⟨g, hg⟩ : ∃ g, w.heap.size + 1 = g := ⟨_, rfl⟩
  rw [hg] at I6 E6 la5 LW S5 ⊢
  have LG := Lib.hid S5
  clear hmk hg z0 z1 z2 hW5 S5
  have SRC : Hid (∀ i q7, i < n → (∀ g0 o : Nat, q = some ⟨g0, o, none⟩ → 0 < n → q7 = some ⟨g0, o + i * n, none⟩) → ∀ wx, W6.grownBy wx (some g) → Rd wx q7 (rwL n (mxC n vs i))) := fun i q7 hlt hq7 wx hgx => by
    have h0 : 0 < N := by have := DLN.out i hlt; omega
    have h1 : Rd wx q vs := (Q5.out.below (by rw [LG.out]; exact E6.out)).one hgx (fun b o e e2 => by
      subst e2
      obtain ⟨b', o', e', hc'⟩ := Q5.out 0 (by rw [HL.out]; exact h0)
      rw [e] at e'
      injection e' with e'
      injection e' with e' _
      subst e'
      have := World.block_lt_of_cell? W5 _ hc'
      simp at this
      have := LG.out
      omega)
    exact h1.row (by rw [HL.out, HN.out]) hlt hq7
  have COL : Hid (∀ wx, W6.grownBy wx (some g) → Rd wx ab bs) := fun wx hgx => by
    rcases Nat.eq_zero_or_pos bs.length with h0 | h0
    · rw [List.eq_nil_of_length_eq_zero h0]; exact Rd.nil _ _
    exact (C5.out.below (by rw [LG.out]; exact E6.out)).one hgx (fun b o e e2 => by
      subst e2
      obtain ⟨b', o', e', hc'⟩ := C5.out 0 h0
      rw [e] at e'
      injection e' with e'
      injection e' with e' _
      subst e'
      have := World.block_lt_of_cell? W5 _ hc'
      simp at this
      have := LG.out
      omega)
  go_wp2_with fail
  go_loopw [8, 9, 10, 16] (fun _ _ _ v16 wr => ∃ i : Nat, v16 = .int .i64 i ∧ i ≤ n ∧ Ints wr g (svTo p n vs bs i 0) ∧ W6.grownBy wr (some g)) (fun _ _ _ v16 _ => n - (intOf v16).toNat)
  case atStart => exact ⟨0, rfl, by omega, I6.out, World.grownBy.refl _ _⟩
  case round =>
    clear I6
    obtain ⟨i, rfl, hi, hI, hgr⟩ := hrel
    have I := Lib.hid hI
    have G := Lib.hid hgr
    clear hI hgr
    by_cases hlt : i < n
    · have A7 := Lib.hid ((A5.out.keep E6.out la5).keepOne G.out (by omega))
      obtain ⟨a0, a1, a2, -, -, -⟩ := A7.out.all
      go_wp2_with fail
      refine (RW.out i hlt _).mono ?_
      rintro e w7 ⟨q7, m7, rfl, hm7, hq7, -, hb7⟩
      have I7 := Lib.hid (I.out.keep hb7 I.out.lt)
      have G7 := Lib.hid (G.out.trans (grown_of_below hb7 (some g)))
      have SRC := Lib.hid (SRC.out i q7 hlt hq7)
      clear hb7 a0 a1 a2 hq7 A7
      go_wp2_with fail
      go_loopw [9, 10, 23] (fun _ _ v23 wr => ∃ j : Nat, v23 = .int .i64 j ∧ j ≤ n ∧ Ints wr g (svTo p n vs bs i j) ∧ W6.grownBy wr (some g)) (fun _ _ v23 _ => n - (intOf v23).toNat)
      case atStart => exact ⟨0, rfl, by omega, I7.out, G7.out⟩
      case round =>
        clear I G I7 G7
        obtain ⟨j, rfl, hj, hI, hgr⟩ := hrel
        have I := Lib.hid hI
        have G := Lib.hid hgr
        clear hI hgr
        by_cases hjl : j < n
        · obtain ⟨b1, o1, rfl, hc1⟩ := SRC.out _ G.out j (by rw [rwL_length]; exact hjl)
          rw [rwL_at hjl] at hc1
          obtain ⟨b2, o2, rfl, hc2⟩ := COL.out _ G.out j (by rw [HBL.out]; exact hjl)
          have hold := I.out.cell (i := i) (by rw [svTo_length]; exact hlt)
          have hfr := I.out.free i
          rw [svTo_at hlt] at hold
          have ST := Lib.hid (svTo_set (p := p) (n := n) (vs := vs) (bs := bs) (i := i) (j := j))
          have SF := GO.out i j
          have s2 := svF_can (show 0 < p by omega) n vs bs i j
          obtain ⟨s, hs⟩ : ∃ s, svF p n vs bs i j = s := ⟨_, rfl⟩
          rw [hs] at SF s2 hold
          obtain ⟨z1, z2⟩ := HC.out (i * n + j) (by rw [HL.out, ← HN.out]; exact idx_lt hlt hjl)
          have m0 := HBD.out j hjl
          rw [show mxC n vs i j = vs.getD (i * n + j) 0 from rfl] at hc1
          generalize vs.getD (i * n + j) 0 = u at hc1 z1 z2 SF
          generalize bs.getD j 0 = y at hc2 m0 SF
          obtain ⟨m3, m4⟩ := mul_abs (A := 10000) (B := 2400000000) (show -10000 ≤ u ∧ u ≤ 10000 by omega) m0
          obtain ⟨o, ho⟩ : ∃ o, u * y = o := ⟨_, rfl⟩
          have v2 : IntKind.i64.wrap (u * y) = o := by rw [← ho]; exact IntWalk.i64_in _ (by omega)
          rw [ho] at m3 m4 SF
          have t1 : -p < Int.tmod o p ∧ Int.tmod o p < p := ⟨Int.lt_tmod_of_pos _ (by omega), Int.tmod_lt_of_pos _ (by omega)⟩
          obtain ⟨t, ht⟩ : ∃ t, Int.tmod o p = t := ⟨_, rfl⟩
          rw [ht] at t1 SF
          obtain ⟨f, hf⟩ : ∃ f, s + t = f := ⟨_, rfl⟩
          have v3 : IntKind.i64.wrap (s + t) = f := by rw [← hf]; exact IntWalk.i64_in _ (by omega)
          have f1 : -10000 ≤ f ∧ f ≤ 20000 := by omega
          rw [hf] at SF
          obtain ⟨k, hk⟩ : ∃ k, f + p = k := ⟨_, rfl⟩
          have v4 : IntKind.i64.wrap (f + p) = k := by rw [← hk]; exact IntWalk.i64_in _ (by omega)
          rw [hk] at SF
          have IS : Hid (Ints (wr.drew.setCell ⟨g, i, none⟩ (.int .i64 (Int.tmod k p))) g (svTo p n vs bs i (j + 1))) := by
            have := I.out.drew.set i (Int.tmod k p)
            rw [SF, ST.out] at this
            rw [SF]
            exact this
          have GS := Lib.hid (grown_set_one (a := ⟨g, i, none⟩) (grown_drew_one G.out) rfl (.int .i64 (Int.tmod k p)))
          clear ho hf hs SF hk f1
          go_wp2_with fail
          go_still_tail 20, (by kernel_rfl)
          go_wp2_with fail
          go_roundw
          case rel => exact ⟨j + 1, by go_num, by omega, IS.out, GS.out⟩
          case measure => simp [intOf]; omega
        · obtain rfl : n = j := by omega
          have RR : Hid (svTo p n vs bs i n = svTo p n vs bs (i + 1) 0) := svTo_row
          rw [RR.out] at I
          clear hjl
          go_wp2_with fail
          go_roundw
          case rel => exact ⟨i + 1, by go_num, by omega, I.out, G.out⟩
          case measure => simp [intOf]; omega
    · obtain rfl : n = i := by omega
      have BF : Hid (Below w.heap.size w wr) := (B5.out.trans ((by rw [LG.out]; exact E6.out : Below W5.heap.size W5 W6).mono (by rw [LG.out]; exact LW))).trans (below_of_one G.out LW (by have := E6.out.size; have := LG.out; omega))
      have LS : (svTo p n vs bs n 0).length = n := svTo_length _ _ _ _ _ _
      have SA : Hid (svTo p n vs bs n 0 = solL p n vs bs) := svTo_all _ _ _ _
      go_wp2_with fail
      go_ret
      refine ⟨_, rfl, ?_, BF.out⟩
      rw [← SA.out]
      exact .inr ⟨g, n, by rw [LS]; rfl, LW, I.out, by rw [LS]; exact Nat.le_refl _, by rw [LS]; omega⟩
end Go.Proofs.YtcapddcmnjeloaaGreatDoor
end

section
/-
  What cutting out a row asks of a matrix's cells.
-/
namespace Go.Proofs.YtcapddcmnjeloaaGreatDoor
open Go.RowKit
structure CelA (a : Option Addr) (L m : Nat) : Prop where
  spot : Spot a
  le : L ≤ m
  nil : a = none → m = 0
theorem Own.celA {B N cap : Nat} {w : World} {q : Option Addr} {zs : List Int} (h : Own B w (.slice q N cap) zs) : CelA q N cap := by
  rcases h with ⟨e, -⟩ | ⟨g, c, e, -, -, h3, -⟩
  · injection e with e1 e2 e3
    subst e1 e2 e3
    exact ⟨.inl rfl, Nat.le_refl _, fun _ => rfl⟩
  · injection e with e1 e2 e3
    subst e1 e2 e3
    exact ⟨Spot.of _ _, h3, fun h => by cases h⟩
end Go.Proofs.YtcapddcmnjeloaaGreatDoor
end

section
/-
  Chapter 11, in the program: lift.
-/
namespace Go.Proofs.YtcapddcmnjeloaaGreatDoor
set_option maxRecDepth 100000
open Go.RowKit
theorem Ints.none_ {w : World} {g : Nat} {zs : List Int} (h : Ints w g zs) : Ints w g [] := by
  obtain ⟨rest, h⟩ := h
  exact ⟨zs.map (Value.int .i64) ++ rest, by rw [List.map_nil, List.nil_append]; exact h⟩
theorem rest_of {w : World} {B b0 n cr gx : Nat} {qr : Option Addr} {bs us : List Int} (h : Own B w (.slice qr n cr) bs) (hl : bs.length = n) (hx : Ints w gx us) (h0 : b0 ≤ gx) (hne : ∀ g, B ≤ g → qr = some ⟨g, 0, none⟩ → gx ≠ g ∧ b0 ≤ g) : ∃ gr, (0 < n → qr = some ⟨gr, 0, none⟩ ∧ gx ≠ gr) ∧ Ints w gr bs ∧ b0 ≤ gr := by
  rcases h.cases with ⟨-, e⟩ | ⟨g, c, e, hB, hi, -⟩
  · subst e
    simp only [List.length_nil] at hl
    exact ⟨gx, fun h => by omega, hx.none_, h0⟩
  · injection e with e1 e2 e3
    have := hne g hB e1
    exact ⟨g, fun _ => ⟨e1, this.1⟩, hi, this.2⟩
theorem Own.ltq {w : World} {B n cr g : Nat} {qr : Option Addr} {bs : List Int} (h : Own B w (.slice qr n cr) bs) (e : qr = some ⟨g, 0, none⟩) : g < w.heap.size := by
  subst e
  rcases h with ⟨e, -⟩ | ⟨g', c, e, -, hi, -⟩
  · injection e with e1; cases e1
  · injection e with e1 e2 e3
    injection e1 with e1
    injection e1 with e1 _
    subst e1
    exact hi.lt
set_option maxHeartbeats 8000000 in
theorem iLift (p : Int) (n N : Nat) (a : Option Addr) (m : Nat) (xs : List Int) (q : Option Addr) (cap : Nat) (vs : List Int) (ab : Option Addr) (mb : Nat) (bs : List Int) (w : World) (H : LfH p n xs vs bs) (hN : n * n = N) (h : Rd w a xs) (hc : CelA a N m) (hv : Rd w q vs) (hq : CelA q N cap) (hb : Rd w ab bs) :
    Calls Tryz.prog 135 #[.agg #[.int .i64 n, .int .i64 n, .slice a N m], .agg #[.int .i64 n, .int .i64 n, .slice q N cap], .slice ab n mb, .int .i64 p] w fun e w' => ∃ v, e = .returned (.tuple #[v, .int .i64 (p ^ lfK p)]) ∧ Own w.heap.size w' v (lfS p n xs vs bs (lfK p)).1 ∧ Below w.heap.size w w' := by
  have h6 := H.h6
  have p1 := H.lo
  have p2 := H.hi
  have N36 : N ≤ 36 := by rw [← hN]; exact Nat.mul_le_mul h6 h6
  have HH := Lib.hid H
  have RA := Lib.hid h
  have RQ := Lib.hid hv
  have CA := Lib.hid hc
  have CQ := Lib.hid hq
  have HNN := Lib.hid hN
  have HBL : Hid (bs.length = n) := H.hb
  have HXL : Hid (xs.length = n * n) := H.hx
  have HVL : Hid (vs.length = N) := by show _ = _; rw [← hN]; exact H.hv
  have CL : Hid (∀ w', Below w.heap.size w w' → Calls Tryz.prog 162 #[.slice ab n mb] w' (CopyN n bs w')) := fun w' hb' => iCloneN ab mb n bs H.hb w' (hb.below hb') (by omega)
  have RW : Hid (∀ i, i < n → ∀ w', Calls Tryz.prog 44 #[.agg #[.int .i64 n, .int .i64 n, .slice a N m], .int .i64 i] w' (RowAt a (i * n) n w')) := fun i hi w' => iRowIn n n i (i * n) N m a w' CA.out.spot rfl (by rw [← hN, ← Nat.succ_mul]; exact Nat.mul_le_mul_right _ hi) CA.out.le CA.out.nil (by omega) (by omega)
  have TM : Hid (∀ (qr : Option Addr) (cr k : Nat) (w' : World), Below w.heap.size w w' → Rd w' qr (lfS p n xs vs bs k).2 → Calls Tryz.prog 164 #[.agg #[.int .i64 n, .int .i64 n, .slice q N cap], .slice qr n cr, .int .i64 p] w' (Copy (solL p n vs (lfS p n xs vs bs k).2) w')) := fun qr cr k w' hb' hr => iTimes n N p q cap vs qr cr _ w' (RQ.out.below hb') hN HVL.out H.can CQ.out.spot CQ.out.le CQ.out.nil (by omega) (by omega) (by omega) hr (H.rest k).1 (H.rest k).2
  have MKI := makeInts n (by omega)
  clear h hv hc hq hN hb H
  have KA : Hid (Blk3 ((w.alloc (.cells #[.int .i64 n, .int .i64 n, .slice a N m] 26)).alloc (.cells #[.int .i64 n, .int .i64 n, .slice q N cap] 26)) w.heap.size 26 (.int .i64 n) (.int .i64 n) (.slice a N m)) := (Blk3.at_ _ _ _ _ rfl).old _
  have KB : Hid (Blk3 ((w.alloc (.cells #[.int .i64 n, .int .i64 n, .slice a N m] 26)).alloc (.cells #[.int .i64 n, .int .i64 n, .slice q N cap] 26)) (w.heap.size + 1) 26 (.int .i64 n) (.int .i64 n) (.slice q N cap)) := Blk3.at_ _ _ _ _ (by simp)
  have B0 : Hid (Below w.heap.size w ((w.alloc (.cells #[.int .i64 n, .int .i64 n, .slice a N m] 26)).alloc (.cells #[.int .i64 n, .int .i64 n, .slice q N cap] 26))) := ((Below.refl _ _).alloc (Nat.le_refl _) _).alloc (by simp) _
  go_enter Tryz.func135, Tryz.ntmps135
  go_upto_region 1 with fail
  generalize (w.alloc (.cells #[.int .i64 n, .int .i64 n, .slice a N m] 26)).alloc (.cells #[.int .i64 n, .int .i64 n, .slice q N cap] 26) = W0 at KA KB B0 ⊢
  go_cut [10, 11, 12] from 19 to 23 (fun v10 v11 v12 wx => v12 = .int .i64 1 ∧ ∃ (gx gr : Nat) (qr : Option Addr) (cr : Nat), v10 = .slice (some ⟨gx, 0, none⟩) n n ∧ v11 = .slice qr n cr ∧ (0 < n → qr = some ⟨gr, 0, none⟩ ∧ gx ≠ gr) ∧ Ints wx gx (List.replicate n 0) ∧ Ints wx gr bs ∧ w.heap.size + 2 ≤ gx ∧ w.heap.size + 2 ≤ gr ∧ Blk3 wx w.heap.size 26 (.int .i64 n) (.int .i64 n) (.slice a N m) ∧ Blk3 wx (w.heap.size + 1) 26 (.int .i64 n) (.int .i64 n) (.slice q N cap) ∧ Below w.heap.size w wx)
  case first =>
    refine wp_region_T (S := fun _ => True) (T := fun _ => false) (by kernel_rfl) trivial (fun hH => ?_)
    have KA := Lib.hid KA.out.drew
    have KB := Lib.hid KB.out.drew
    have B0 := Lib.hid B0.out.drew
    generalize W0.drew = Wd at KA KB B0 ⊢
    refine wpAnyT_take (i := 0) (v := ?_) (by simp only [List.getElem?_toArray, List.getElem?_cons_zero]; rfl) (by kernel_rfl) (by kernel_rfl) (by kernel_rfl) (by kernel_rfl) (fun _ h => by cases h) (by exact fun _ _ _ h => h) (Or.inl ⟨by rfl, ?_⟩) trivial ?_
    rotate_left
    · (intro wS hS; clear hS; go_simp; try rfl)
    try simp only [Act.put, List.setIfInBounds_toArray, List.set_cons_zero, List.set_cons_succ]
    refine wpAnyT_take (i := 1) (v := ?_) (by simp only [List.getElem?_toArray, List.getElem?_cons_succ, List.getElem?_cons_zero]; rfl) (by kernel_rfl) (by kernel_rfl) (by kernel_rfl) (by kernel_rfl) (fun _ h => by cases h) (by exact fun _ _ _ h => h) (Or.inl ⟨by rfl, ?_⟩) trivial ?_
    rotate_left
    · (intro wS hS; clear hS; go_simp; try rfl)
    try simp only [Act.put, List.setIfInBounds_toArray, List.set_cons_zero, List.set_cons_succ]
    refine wpAnyT_take (i := 3) (v := ?_) (by simp only [List.getElem?_toArray, List.getElem?_cons_succ, List.getElem?_cons_zero]; rfl) (by kernel_rfl) (by kernel_rfl) (by kernel_rfl) (by kernel_rfl) (fun _ h => by cases h) (by exact fun _ _ _ h => h) (Or.inl ⟨by rfl, ?_⟩) trivial ?_
    rotate_left
    · (intro wS hS; clear hS; go_simp; try rfl)
    try simp only [Act.put, List.setIfInBounds_toArray, List.set_cons_zero, List.set_cons_succ]
    refine wpAnyT_ready (rs := [2, 4]) (by kernel_rfl) (by simp) ?_
    refine AllReadyT.cons (by simp only [List.getElem?_toArray, List.getElem?_cons_succ, List.getElem?_cons_zero]; rfl) (fun K hK => ?_) (AllReadyT.cons (by simp only [List.getElem?_toArray, List.getElem?_cons_succ, List.getElem?_cons_zero]; rfl) (fun K hK => ?_) (AllReadyT.nil))
    ·
      go_simp
      try dsimp only
      refine hK.out _ _ (fun _ => trivial) ?_
      clear hK K
      try simp only [Act.put, List.setIfInBounds_toArray, List.set_cons_zero, List.set_cons_succ]
      have GX : Hid (Ints (Wd.alloc (.cells (madeCells #[.int .i64 0] n) 3)) Wd.heap.size (List.replicate n 0)) := Ints.made n rfl
      have lb := KB.out.lt
      have KA := Lib.hid (KA.out.old (.cells (madeCells #[.int .i64 0] n) 3))
      have KB := Lib.hid (KB.out.old (.cells (madeCells #[.int .i64 0] n) 3))
      have B1 := Lib.hid (B0.out.alloc B0.out.size (.cells (madeCells #[.int .i64 0] n) 3))
      obtain ⟨gx, hgx⟩ : ∃ g, Wd.heap.size = g := ⟨_, rfl⟩
      rw [hgx] at GX lb ⊢
      generalize Wd.alloc (.cells (madeCells #[.int .i64 0] n) 3) = W1 at GX KA KB B1 lb ⊢
      refine wpAnyT_ready (rs := [4]) (by kernel_rfl) (by simp) ?_
      refine AllReadyT.cons (by simp only [List.getElem?_toArray, List.getElem?_cons_succ, List.getElem?_cons_zero]; rfl) (fun K hK => ?_) (AllReadyT.nil)
      go_simp
      (with_reducible refine (CL.out _ B1.out).mono ?_)
      rintro e w2 ⟨qr, cr, rfl, own, hb2⟩
      try dsimp only
      refine hK.out _ _ (fun _ => trivial) ?_
      clear hK K
      try simp only [Act.put, List.setIfInBounds_toArray, List.set_cons_zero, List.set_cons_succ]
      have lx := GX.out.lt
      have GX := Lib.hid (GX.out.keep hb2 lx)
      have KA := Lib.hid (KA.out.step hb2)
      have KB := Lib.hid (KB.out.step hb2)
      have B2 := Lib.hid (B1.out.trans (hb2.mono B1.out.size))
      obtain ⟨gr, hgr1, hgr2, hgr3⟩ := rest_of own HBL.out GX.out (b0 := w.heap.size + 2) (by omega) (fun g hg _ => ⟨by have := lx; omega, by omega⟩)
      have HG1 := Lib.hid hgr1
      have HG2 := Lib.hid hgr2
      have HG3 := Lib.hid hgr3
      clear hgr1 hgr2 hgr3 own hb2
      refine wpAnyT_take (i := 5) (v := ?_) (by simp only [List.getElem?_toArray, List.getElem?_cons_succ, List.getElem?_cons_zero]; rfl) (by kernel_rfl) (by kernel_rfl) (by kernel_rfl) (by kernel_rfl) (fun _ h => by cases h) (by exact fun _ _ _ h => h) (Or.inl ⟨by rfl, ?_⟩) trivial ?_
      rotate_left
      · (intro wS hS; clear hS; go_simp; try rfl)
      try simp only [Act.put, List.setIfInBounds_toArray, List.set_cons_zero, List.set_cons_succ]
      refine wpAnyT_take (i := 6) (v := ?_) (by simp only [List.getElem?_toArray, List.getElem?_cons_succ, List.getElem?_cons_zero]; rfl) (by kernel_rfl) (by kernel_rfl) (by kernel_rfl) (by kernel_rfl) (fun _ h => by cases h) (by exact fun _ _ _ h => h) (Or.inl ⟨by rfl, ?_⟩) trivial ?_
      rotate_left
      · (intro wS hS; clear hS; go_simp; try rfl)
      try simp only [Act.put, List.setIfInBounds_toArray, List.set_cons_zero, List.set_cons_succ]
      refine wpAnyT_take (i := 7) (v := ?_) (by simp only [List.getElem?_toArray, List.getElem?_cons_succ, List.getElem?_cons_zero]; rfl) (by kernel_rfl) (by kernel_rfl) (by kernel_rfl) (by kernel_rfl) (fun _ h => by cases h) (by exact fun _ _ _ h => h) (Or.inl ⟨by rfl, ?_⟩) trivial ?_
      rotate_left
      · (intro wS hS; clear hS; go_simp; try rfl)
      try simp only [Act.put, List.setIfInBounds_toArray, List.set_cons_zero, List.set_cons_succ]
      refine wpAnyT_done (by kernel_rfl) ?_ _
      go_wp2_with fail
      go_meet
      exact ⟨rfl, gx, gr, qr, cr, rfl, rfl, HG1.out, GX.out, HG2.out, by omega, HG3.out, KA.out, KB.out, B2.out⟩
    ·
      go_simp
      (with_reducible refine (CL.out _ B0.out).mono ?_)
      rintro e w2 ⟨qr, cr, rfl, own, hb2⟩
      try dsimp only
      refine hK.out _ _ (fun _ => trivial) ?_
      clear hK K
      try simp only [Act.put, List.setIfInBounds_toArray, List.set_cons_zero, List.set_cons_succ]
      have lb := KB.out.lt
      have s2 := hb2.size
      have KA := Lib.hid ((KA.out.step hb2).old (.cells (madeCells #[.int .i64 0] n) 3))
      have KB := Lib.hid ((KB.out.step hb2).old (.cells (madeCells #[.int .i64 0] n) 3))
      have B2 := Lib.hid ((B0.out.trans (hb2.mono B0.out.size)).alloc (by omega) (.cells (madeCells #[.int .i64 0] n) 3))
      have GX : Hid (Ints (w2.alloc (.cells (madeCells #[.int .i64 0] n) 3)) w2.heap.size (List.replicate n 0)) := Ints.made n rfl
      have OW := own.keep ((Below.refl _ _).alloc (Nat.le_refl _) (.cells (madeCells #[.int .i64 0] n) 3))
      obtain ⟨gr, hgr1, hgr2, hgr3⟩ := rest_of OW HBL.out GX.out (b0 := w.heap.size + 2) (by omega) (fun g hg e => ⟨by have := own.ltq e; omega, by omega⟩)
      have HG1 := Lib.hid hgr1
      have HG2 := Lib.hid hgr2
      have HG3 := Lib.hid hgr3
      clear hgr1 hgr2 hgr3 own hb2 OW
      refine wpAnyT_ready (rs := [2]) (by kernel_rfl) (by simp) ?_
      refine AllReadyT.cons (by simp only [List.getElem?_toArray, List.getElem?_cons_succ, List.getElem?_cons_zero]; rfl) (fun K hK => ?_) (AllReadyT.nil)
      go_simp
      try dsimp only
      refine hK.out _ _ (fun _ => trivial) ?_
      clear hK K
      try simp only [Act.put, List.setIfInBounds_toArray, List.set_cons_zero, List.set_cons_succ]
      refine wpAnyT_take (i := 5) (v := ?_) (by simp only [List.getElem?_toArray, List.getElem?_cons_succ, List.getElem?_cons_zero]; rfl) (by kernel_rfl) (by kernel_rfl) (by kernel_rfl) (by kernel_rfl) (fun _ h => by cases h) (by exact fun _ _ _ h => h) (Or.inl ⟨by rfl, ?_⟩) trivial ?_
      rotate_left
      · (intro wS hS; clear hS; go_simp; try rfl)
      try simp only [Act.put, List.setIfInBounds_toArray, List.set_cons_zero, List.set_cons_succ]
      refine wpAnyT_take (i := 6) (v := ?_) (by simp only [List.getElem?_toArray, List.getElem?_cons_succ, List.getElem?_cons_zero]; rfl) (by kernel_rfl) (by kernel_rfl) (by kernel_rfl) (by kernel_rfl) (fun _ h => by cases h) (by exact fun _ _ _ h => h) (Or.inl ⟨by rfl, ?_⟩) trivial ?_
      rotate_left
      · (intro wS hS; clear hS; go_simp; try rfl)
      try simp only [Act.put, List.setIfInBounds_toArray, List.set_cons_zero, List.set_cons_succ]
      refine wpAnyT_take (i := 7) (v := ?_) (by simp only [List.getElem?_toArray, List.getElem?_cons_succ, List.getElem?_cons_zero]; rfl) (by kernel_rfl) (by kernel_rfl) (by kernel_rfl) (by kernel_rfl) (fun _ h => by cases h) (by exact fun _ _ _ h => h) (Or.inl ⟨by rfl, ?_⟩) trivial ?_
      rotate_left
      · (intro wS hS; clear hS; go_simp; try rfl)
      try simp only [Act.put, List.setIfInBounds_toArray, List.set_cons_zero, List.set_cons_succ]
      refine wpAnyT_done (by kernel_rfl) ?_ _
      go_wp2_with fail
      go_meet
      exact ⟨rfl, w2.heap.size, gr, qr, cr, rfl, rfl, HG1.out, GX.out, HG2.out, by omega, HG3.out, KA.out, KB.out, B2.out⟩
  case rest =>
    clear KA KB B0 MKI CL
    obtain ⟨rfl, gx, gr, qr, cr, rfl, rfl, hg1, hx, hr, lx, lr, hKA, hKB, hB⟩ := hcut
    rename World => W
    have HG1 := Lib.hid hg1
    have GX : Hid (Ints W gx (lfS p n xs vs bs 0).1) := hx
    have GR : Hid (Ints W gr (lfS p n xs vs bs 0).2) := hr
    have KA := Lib.hid hKA
    have KB := Lib.hid hKB
    have B := Lib.hid hB
    clear hg1 hx hr hKA hKB hB
    have n0 : ((p : Int) == 0) = false := by simp; omega
    have np : ¬ p = 0 := by omega
    obtain ⟨K, hK⟩ : ∃ K, lfK p = K := ⟨_, rfl⟩
    have EK := Lib.hid hK
    clear hK
    go_wp2_with fail
    go_loopg [12, 13, 14, 15, 16, 17, 18] K (fun gk v12 _ _ _ _ _ _ wi => ∃ k : Nat, gk = K - k ∧ k ≤ K ∧ v12 = .int .i64 ((p : Int) ^ k) ∧ Ints wi gx (lfS p n xs vs bs k).1 ∧ Ints wi gr (lfS p n xs vs bs k).2 ∧ Blk3 wi w.heap.size 26 (.int .i64 n) (.int .i64 n) (.slice a N m) ∧ Blk3 wi (w.heap.size + 1) 26 (.int .i64 n) (.int .i64 n) (.slice q N cap) ∧ Below w.heap.size w wi)
    case atStart => exact ⟨0, rfl, Nat.zero_le _, by rw [Int.pow_zero], GX.out, GR.out, KA.out, KB.out, B.out⟩
    case round =>
      clear GX GR KA KB B
      obtain ⟨k, hgk, hk, rfl, hx, hr, hKA, hKB, hB⟩ := hrel
      have HG := Lib.hid hgk
      have GX := Lib.hid hx
      have GR := Lib.hid hr
      have KA := Lib.hid hKA
      have KB := Lib.hid hKB
      have B := Lib.hid hB
      clear hgk hx hr hKA hKB hB
      have PN := lfK_num (k := k) HH.out.lo HH.out.hi (by rw [EK.out]; exact hk)
      obtain ⟨P, hP⟩ : ∃ P : Int, (p : Int) ^ k = P := ⟨_, rfl⟩
      obtain ⟨D, hD⟩ : ∃ D : Int, Int.tdiv 400000000 p = D := ⟨_, rfl⟩
      have GOP := lf_goP (P := P) HH.out.lo HH.out.hi
      rw [hD] at GOP
      have EP := Lib.hid hP
      rw [hP] at PN ⊢
      obtain ⟨P1, P2⟩ := PN
      have d9 : Int.tdiv 400000000 p = D := hD
      have D1 : 0 ≤ D ∧ D ≤ 400000000 := by
        rw [← hD, Int.tdiv_eq_ediv_of_nonneg (by decide)]
        exact ⟨Int.ediv_nonneg (by decide) (by omega), Int.ediv_le_self _ (by decide)⟩
      obtain ⟨D1, D2⟩ := D1
      have wD : IntKind.i64.wrap D = D := IntWalk.i64_in _ (by omega)
      clear hP hD
      by_cases c2 : P ≤ D
      rotate_left
      · have hkK : Hid (k = K) := by
          refine Lib.hid ?_
          rw [← EK.out]
          refine lfK_end HH.out.lo HH.out.hi (by rw [EK.out]; exact hk) fun hg => c2 (GOP.2 ?_)
          rw [← EP.out]
          exact hg
        clear GOP
        go_wp2_with fail
        go_ret2
        refine ⟨_, by rw [EK.out, ← hkK.out, EP.out]; rfl, ?_, B.out⟩
        rw [EK.out, ← hkK.out]
        exact .inr ⟨gx, n, by rw [lfS_xl]; rfl, by omega, GX.out, by rw [lfS_xl]; exact Nat.le_refl _, by rw [lfS_xl]; omega⟩
      have hkl : k < lfK p := lfK_more HH.out.lo HH.out.hi (by rw [EK.out]; exact hk) (by rw [EP.out]; exact GOP.1 c2)
      have EX : Hid (∀ i, i < n → (lfS p n xs vs bs (k + 1)).1.getD i 0 = (lfS p n xs vs bs k).1.getD i 0 + P * (solL p n vs (lfS p n xs vs bs k).2).getD i 0 ∧ (0 ≤ (lfS p n xs vs bs k).1.getD i 0 ∧ (lfS p n xs vs bs k).1.getD i 0 ≤ 400000000) ∧ (0 ≤ P * (solL p n vs (lfS p n xs vs bs k).2).getD i 0 ∧ P * (solL p n vs (lfS p n xs vs bs k).2).getD i 0 ≤ 400000000) ∧ (lfS p n xs vs bs (k + 1)).1.getD i 0 ≤ 400000000) := fun i hi => by
        have := HH.out.next hkl hi
        rw [EP.out] at this
        exact this
      have EQ : Hid (∀ i, i < n → (sF n xs (solL p n vs (lfS p n xs vs bs k).2) (lfS p n xs vs bs k).2 i n).tdiv p = (lfS p n xs vs bs (k + 1)).2.getD i 0) := fun i hi => HH.out.quo k hi
      have ES : Hid (∀ i j, i < n → j ≤ n → -1000000000000 ≤ sF n xs (solL p n vs (lfS p n xs vs bs k).2) (lfS p n xs vs bs k).2 i j ∧ sF n xs (solL p n vs (lfS p n xs vs bs k).2) (lfS p n xs vs bs k).2 i j ≤ 1000000000000) := fun i j hi hj => HH.out.sums k hi hj
      have EM : Hid (∀ i j, i < n → j < n → -80000000000 ≤ xs.getD (i * n + j) 0 * (solL p n vs (lfS p n xs vs bs k).2).getD j 0 ∧ xs.getD (i * n + j) 0 * (solL p n vs (lfS p n xs vs bs k).2).getD j 0 ≤ 80000000000) := fun i j hi hj => HH.out.prod k hi hj
      have PW := Lib.hid (HH.out.pow hkl)
      have XL0 : Hid ((lfS p n xs vs bs k).1.length = n) := lfS_xl k
      have XL1 : Hid ((lfS p n xs vs bs (k + 1)).1.length = n) := lfS_xl (k + 1)
      have RL0 : Hid ((lfS p n xs vs bs k).2.length = n) := (HH.out.rest k).1
      have RL1 : Hid ((lfS p n xs vs bs (k + 1)).2.length = n) := (HH.out.rest (k + 1)).1
      have EB : Hid (∀ i, i < n → -2400000000 ≤ (lfS p n xs vs bs (k + 1)).2.getD i 0 ∧ (lfS p n xs vs bs (k + 1)).2.getD i 0 ≤ 2400000000) := (HH.out.rest (k + 1)).2
      have DL : Hid ((solL p n vs (lfS p n xs vs bs k).2).length = n) := solL_length p n vs _
      have RR : Hid (Rd wr qr (lfS p n xs vs bs k).2) := by
        refine Lib.hid ?_
        rcases Nat.eq_zero_or_pos n with e | e
        · rw [List.eq_nil_of_length_eq_zero (show (lfS p n xs vs bs k).2.length = 0 by rw [RL0.out, e])]
          exact Rd.nil _ _
        · rw [(HG1.out e).1]; exact GR.out.rd
      have TMk := Lib.hid (TM.out qr cr k wr B.out RR.out)
      obtain ⟨us, hus⟩ : ∃ us, (lfS p n xs vs bs k).1 = us := ⟨_, rfl⟩
      obtain ⟨rs, hrs⟩ : ∃ rs, (lfS p n xs vs bs k).2 = rs := ⟨_, rfl⟩
      obtain ⟨us', hus'⟩ : ∃ us', (lfS p n xs vs bs (k + 1)).1 = us' := ⟨_, rfl⟩
      obtain ⟨rs', hrs'⟩ : ∃ rs', (lfS p n xs vs bs (k + 1)).2 = rs' := ⟨_, rfl⟩
      obtain ⟨dg, hdg⟩ : ∃ dg, solL p n vs (lfS p n xs vs bs k).2 = dg := ⟨_, rfl⟩
      rw [hdg] at EX EQ ES EM DL TMk
      rw [hus] at EX XL0 GX
      rw [hrs] at EQ ES RL0 GR
      rw [hus'] at EX XL1
      rw [hrs'] at EQ RL1 EB
      have EU' := Lib.hid hus'
      have ER' := Lib.hid hrs'
      obtain ⟨z0, z1, z2, -, -, -⟩ := KB.out.all
      clear hus hrs hus' hrs' hdg GOP RR
      go_wp2_with fail
      refine TMk.out.mono ?_
      rintro e w7 ⟨vd, rfl, own, hb7⟩
      obtain ⟨qd, cd, rfl, hd, -⟩ := own.form
      rw [DL.out] at own ⊢
      have gxl := GX.out.lt
      have grl := GR.out.lt
      have DG : Hid (∀ wx, FrS (fun k => k = gx ∨ k = gr) w7 wx → Rd wx qd dg) := fun wx hf => by
        rcases own.cases with ⟨-, e⟩ | ⟨g, c, e, hB, -, -⟩
        · rw [e]; exact Rd.nil _ _
        · injection e with e1 e2 e3
          subst e1
          exact hd.frs hf (fun b o e => by injection e with e; injection e with e _; subst e; omega)
      have GX := Lib.hid (GX.out.keep hb7 gxl)
      have GR := Lib.hid (GR.out.keep hb7 grl)
      have KA := Lib.hid (KA.out.step hb7)
      have KB := Lib.hid (KB.out.step hb7)
      have B7 := Lib.hid (B.out.trans (hb7.mono B.out.size))
      have BF : Hid (∀ wx, FrS (fun k => k = gx ∨ k = gr) w7 wx → Below w.heap.size w wx) := fun wx hf => B7.out.trans (hf.below (fun k hk => by omega) B7.out.size)
      have SRC : Hid (∀ i q7, i < n → (∀ g0 o : Nat, a = some ⟨g0, o, none⟩ → 0 < n → q7 = some ⟨g0, o + i * n, none⟩) → ∀ wx, FrS (fun k => k = gx ∨ k = gr) w7 wx → Rd wx q7 (rwL n (mxC n xs i))) := fun i q7 hlt hq7 wx hf => (RA.out.below (BF.out wx hf)).row HXL.out hlt hq7
      clear z0 z1 z2 own hd hb7 gxl grl B TMk
      go_wp2_with fail
      go_loopw [14, 15, 34] (fun _ _ v34 wr => ∃ i : Nat, v34 = .int .i64 i ∧ i ≤ n ∧ Ints wr gx (twL n us' us i) ∧ Ints wr gr rs ∧ FrS (fun k => k = gx ∨ k = gr) w7 wr) (fun _ _ v34 _ => n - (intOf v34).toNat)
      case atStart => exact ⟨0, rfl, Nat.zero_le _, by rw [twL_zero XL0.out]; exact GX.out, GR.out, FrS.refl _ _⟩
      case round =>
        clear GX GR
        obtain ⟨i, rfl, hi, hx, hr, hf⟩ := hrel
        have GX := Lib.hid hx
        have GR := Lib.hid hr
        have FR := Lib.hid hf
        clear hx hr hf
        by_cases hlt : i < n
        · obtain ⟨rfl, xr⟩ := HG1.out (by omega)
          have hc1 := GX.out.cell (i := i) (by rw [twL_length]; exact hlt)
          have hf1 := GX.out.free i
          rw [twL_at hlt, if_neg (Nat.lt_irrefl _)] at hc1
          obtain ⟨b2, o2, rfl, hc2⟩ := DG.out _ FR.out i (by rw [DL.out]; exact hlt)
          obtain ⟨q1, ⟨q2, q3⟩, ⟨q4, q5⟩, q6⟩ := EX.out i hlt
          have TS := Lib.hid (twL_set (n := n) (f := us') (g := us) (i := i))
          rw [q1] at TS q6
          clear q1
          obtain ⟨x, hx⟩ : ∃ x, us.getD i 0 = x := ⟨_, rfl⟩
          obtain ⟨y, hy⟩ : ∃ y, dg.getD i 0 = y := ⟨_, rfl⟩
          rw [hx] at TS hc1 q2 q3 q6
          rw [hy] at TS hc2 q4 q5 q6
          obtain ⟨o, ho⟩ : ∃ o, P * y = o := ⟨_, rfl⟩
          rw [ho] at TS q4 q5 q6
          have v2 : IntKind.i64.wrap (y * P) = o := by rw [Int.mul_comm, ho]; exact IntWalk.i64_in _ (by omega)
          obtain ⟨f, hf⟩ : ∃ f, x + o = f := ⟨_, rfl⟩
          rw [hf] at TS q6
          have v3 : IntKind.i64.wrap (x + o) = f := by rw [hf]; exact IntWalk.i64_in _ (by omega)
          clear hx hy ho hf q6
          go_wp2_with fail
          go_roundw
          case rel =>
            refine ⟨i + 1, by go_num, by omega, ?_, GR.out.far (Ne.symm xr) _, FR.out.set (.inl (.inl rfl)) _⟩
            rw [← TS.out]
            exact GX.out.set i f
          case measure => simp [intOf]; omega
        · obtain rfl : i = n := by omega
          have GXn : Hid (Ints wr gx us') := by have := GX.out; rw [twL_all XL1.out] at this; exact this
          clear hlt GX
          have GX := GXn
          clear GXn
          go_wp2_with fail
          go_loopw [16, 17, 18, 51] (fun _ _ _ v51 wr => ∃ r : Nat, v51 = .int .i64 r ∧ r ≤ i ∧ Ints wr gx us' ∧ Ints wr gr (twL i rs' rs r) ∧ FrS (fun k => k = gx ∨ k = gr) w7 wr) (fun _ _ _ v51 _ => i - (intOf v51).toNat)
          case atStart => exact ⟨0, rfl, Nat.zero_le _, GX.out, by rw [twL_zero RL0.out]; exact GR.out, FR.out⟩
          case round =>
            clear GX GR FR
            obtain ⟨r, rfl, hr9, hx, hr, hf⟩ := hrel
            have GX := Lib.hid hx
            have GR := Lib.hid hr
            have FR := Lib.hid hf
            clear hx hr hf
            by_cases hlt : r < i
            · obtain ⟨rfl, xr⟩ := HG1.out (by omega)
              obtain ⟨z0, z1, z2, -, -, -⟩ := (KA.out.frs FR.out (by omega)).all
              go_wp2_with fail
              refine (RW.out r hlt _).mono ?_
              rintro e w8 ⟨q7, m7, rfl, hm7, hq7, -, hb8⟩
              have GX := Lib.hid (GX.out.keep hb8 GX.out.lt)
              have GR : Hid (Ints w8 gr (rtL i xs dg rs rs' r 0)) := by refine Lib.hid ?_; rw [rtL_zero]; exact GR.out.keep hb8 GR.out.lt
              have FR := Lib.hid (FR.out.trans (FrS.of_below hb8))
              have SRr := Lib.hid (SRC.out r q7 hlt hq7)
              clear z0 z1 z2 hb8 hq7
              go_wp2_with fail
              go_loopw [17, 18, 58] (fun _ _ v58 wr => ∃ j : Nat, v58 = .int .i64 j ∧ j ≤ i ∧ Ints wr gx us' ∧ Ints wr gr (rtL i xs dg rs rs' r j) ∧ FrS (fun k => k = gx ∨ k = gr) w7 wr) (fun _ _ v58 _ => i - (intOf v58).toNat)
              case atStart => exact ⟨0, rfl, Nat.zero_le _, GX.out, GR.out, FR.out⟩
              case round =>
                clear GX GR FR
                obtain ⟨j, rfl, hj, hx, hr, hf⟩ := hrel
                have GX := Lib.hid hx
                have GR := Lib.hid hr
                have FR := Lib.hid hf
                clear hx hr hf
                have hc3 := GR.out.cell (i := r) (by rw [rtL_length]; exact hlt)
                have hf3 := GR.out.free r
                rw [rtL_at hlt] at hc3
                obtain ⟨s1, s2⟩ := ES.out r j hlt hj
                by_cases hjl : j < i
                · obtain ⟨b1, o1, rfl, hc1⟩ := SRr.out _ FR.out j (by rw [rwL_length]; exact hjl)
                  rw [rwL_at hjl] at hc1
                  obtain ⟨b2, o2, rfl, hc2⟩ := DG.out _ FR.out j (by rw [DL.out]; exact hjl)
                  have SU := sF_succ i xs dg rs r j
                  have RS := Lib.hid (rtL_set (n := i) (xs := xs) (ds := dg) (rs := rs) (new := rs') (i := r) (j := j))
                  obtain ⟨m1, m2⟩ := EM.out r j hlt hjl
                  obtain ⟨s3, s4⟩ := ES.out r (j + 1) hlt (by omega)
                  obtain ⟨s, hs⟩ : ∃ s, sF i xs dg rs r j = s := ⟨_, rfl⟩
                  rw [show mxC i xs r j = xs.getD (r * i + j) 0 from rfl] at hc1
                  obtain ⟨x, hx⟩ : ∃ x, xs.getD (r * i + j) 0 = x := ⟨_, rfl⟩
                  obtain ⟨y, hy⟩ : ∃ y, dg.getD j 0 = y := ⟨_, rfl⟩
                  rw [hx, hy] at m1 m2 SU
                  rw [hs] at SU s1 s2 hc3
                  rw [SU] at s3 s4 RS
                  rw [hx] at hc1
                  rw [hy] at hc2
                  obtain ⟨o, ho⟩ : ∃ o, x * y = o := ⟨_, rfl⟩
                  rw [ho] at m1 m2 s3 s4 RS
                  have v2 : IntKind.i64.wrap (x * y) = o := by rw [ho]; exact IntWalk.i64_in _ (by omega)
                  obtain ⟨f, hf⟩ : ∃ f, s - o = f := ⟨_, rfl⟩
                  rw [hf] at s3 s4 RS
                  have v3 : IntKind.i64.wrap (s - o) = f := by rw [hf]; exact IntWalk.i64_in _ (by omega)
                  have IS : Hid (Ints (wr.drew.setCell ⟨gr, r, none⟩ (.int .i64 f)) gr (rtL i xs dg rs rs' r (j + 1))) := by
                    refine Lib.hid ?_
                    rw [← RS.out]
                    exact GR.out.drew.set r f
                  have IX : Hid (Ints (wr.drew.setCell ⟨gr, r, none⟩ (.int .i64 f)) gx us') := GX.out.drew.far (a := ⟨gr, r, none⟩) xr _
                  have IF : Hid (FrS (fun k => k = gx ∨ k = gr) w7 (wr.drew.setCell ⟨gr, r, none⟩ (.int .i64 f))) := FR.out.drew.set (.inl (.inr rfl)) _
                  clear hs hx hy ho hf SU m1 m2 s1 s2
                  go_wp2_with fail
                  go_still_tail 12, (by kernel_rfl)
                  go_wp2_with fail
                  go_roundw
                  case rel => exact ⟨j + 1, by go_num, by omega, IX.out, IS.out, IF.out⟩
                  case measure => simp [intOf]; omega
                · obtain rfl : j = i := by omega
                  have e9 := EQ.out r hlt
                  have eb := EB.out r hlt
                  have RE := Lib.hid (rtL_end (n := j) (xs := xs) (ds := dg) (rs := rs) (new := rs') (i := r) (j := j))
                  obtain ⟨s, hs⟩ : ∃ s, sF j xs dg rs r j = s := ⟨_, rfl⟩
                  obtain ⟨r1, hr1⟩ : ∃ r1, rs'.getD r 0 = r1 := ⟨_, rfl⟩
                  rw [hs] at e9 s1 s2 hc3
                  rw [hr1] at e9 eb RE
                  obtain ⟨eb1, eb2⟩ := eb
                  have v0 : IntKind.i64.wrap r1 = r1 := IntWalk.i64_in _ (by omega)
                  have GR9 : Hid (Ints (wr.setCell ⟨gr, r, none⟩ (.int .i64 r1)) gr (twL j rs' rs (r + 1))) := by
                    refine Lib.hid ?_
                    rw [← RE.out]
                    exact GR.out.set r r1
                  have GX9 : Hid (Ints (wr.setCell ⟨gr, r, none⟩ (.int .i64 r1)) gx us') := GX.out.far (a := ⟨gr, r, none⟩) xr _
                  have FR9 : Hid (FrS (fun k => k = gx ∨ k = gr) w7 (wr.setCell ⟨gr, r, none⟩ (.int .i64 r1))) := FR.out.set (.inl (.inr rfl)) _
                  clear hs hr1 hjl
                  go_wp2_with fail
                  go_roundw
                  case rel => exact ⟨r + 1, by go_num, by omega, GX9.out, GR9.out, FR9.out⟩
                  case measure => simp [intOf]; omega
            · obtain rfl : r = i := by omega
              have GRn : Hid (Ints wr gr rs') := by have := GR.out; rw [twL_all RL1.out] at this; exact this
              clear GR
              obtain ⟨w1', w2', w3'⟩ := PW.out
              obtain ⟨PP, hPP⟩ : ∃ PP : Int, (p : Int) ^ (k + 1) = PP := ⟨_, rfl⟩
              have EPP := Lib.hid hPP
              rw [hPP, EP.out] at w1'
              rw [hPP] at w2' w3'
              have v4 : IntKind.i64.wrap (P * p) = PP := by rw [w1']; exact IntWalk.i64_in _ (by omega)
              have KA := Lib.hid (KA.out.frs FR.out (by omega))
              have KB := Lib.hid (KB.out.frs FR.out (by omega))
              have B9 := Lib.hid (BF.out _ FR.out)
              clear hPP w1'
              go_wp2_with fail
              go_roundg (K - (k + 1))
              case measure => rw [HG.out]; have := EK.out; omega
              case rel => exact ⟨k + 1, rfl, by have := EK.out; omega, by rw [EPP.out], by rw [EU'.out]; exact GX.out, by rw [ER'.out]; exact GRn.out, KA.out, KB.out, B9.out⟩
end Go.Proofs.YtcapddcmnjeloaaGreatDoor
end

section
/-
  Chapter 11, in the program: partBound.
-/
namespace Go.Proofs.YtcapddcmnjeloaaGreatDoor
set_option maxRecDepth 100000
open Go.RowKit
set_option maxHeartbeats 1000000 in
theorem iBound (P : Int) (w : World) (h1 : 2 < P) (h2 : P ≤ 400000000) : Calls Tryz.prog 136 #[.int .i64 P] w fun e w' => e = .returned (.int .i64 (lfB P)) ∧ w = w' := by
  have EQ : Hid (∀ B : Int, 0 ≤ B → 2 * B * B < P → B ≤ 10000 → (B = 10000 ∨ P ≤ 2 * (B + 1) * (B + 1)) → lfB P = B) := fun B a b c d => lfB_eq a b c d
  generalize lfB P = R at EQ ⊢
  go_enter Tryz.func136, Tryz.ntmps136
  go_wp2_with fail
  go_loopw [3] (fun v3 wr => ∃ b : Int, v3 = .int .i64 b ∧ 1 ≤ b ∧ b ≤ 10000 ∧ (b = 10000 ∨ P ≤ 2 * (b + 1) * (b + 1)) ∧ w = wr) (fun v3 _ => (intOf v3).toNat)
  case atStart => exact ⟨10000, rfl, by omega, by omega, .inl rfl, rfl⟩
  case round =>
    obtain ⟨b, rfl, b1, b2, hb, rfl⟩ := hrel
    have HB := Lib.hid hb
    have w1 : IntKind.i64.wrap (2 * b) = 2 * b := IntWalk.i64_in _ (by omega)
    obtain ⟨s1, s2⟩ := mul_abs (A := 20000) (B := 10000) (show -20000 ≤ 2 * b ∧ 2 * b ≤ 20000 by omega) (show -10000 ≤ b ∧ b ≤ 10000 by omega)
    obtain ⟨y, hy⟩ : ∃ y, 2 * b * b = y := ⟨_, rfl⟩
    have w2 : IntKind.i64.wrap (2 * b * b) = y := by rw [hy]; exact IntWalk.i64_in _ (by omega)
    have HY := Lib.hid hy
    rw [hy] at s1 s2
    clear hb hy
    by_cases c : P ≤ y
    · have b3 : 2 ≤ b := by
        rcases Int.lt_or_le 1 b with h | h
        · omega
        · obtain rfl : b = 1 := by omega
          have := HY.out
          omega
      have NX : Hid (P ≤ 2 * (b - 1 + 1) * (b - 1 + 1)) := by
        show _ ≤ _
        rw [Int.sub_add_cancel, HY.out]; exact c
      clear s1 s2
      go_wp2_with fail
      go_roundw
      case rel => exact ⟨b - 1, by first | rfl | trivial, by omega, by omega, .inr NX.out, by first | rfl | trivial⟩
      case measure => simp [intOf]; omega
    · have V : Hid (R = b) := EQ.out b (by omega) (by rw [HY.out]; omega) b2 HB.out
      clear s1 s2
      go_wp2_with fail
      go_ret
      exact ⟨by rw [V.out]; rfl, rfl⟩
end Go.Proofs.YtcapddcmnjeloaaGreatDoor
end

section
/-
  Chapter 2, in the program: lowest terms, MakeRatio, IsRatio.
-/
namespace Go.Proofs.YtcapddcmnjeloaaGreatDoor
open Go.RowKit
set_option maxHeartbeats 400000 in
theorem iLow (n d : Int) (w : World) (hn : -2000000000000000000 ≤ n ∧ n ≤ 2000000000000000000) (hd : -2000000000000000000 ≤ d ∧ d ≤ 2000000000000000000) (hd0 : d ≠ 0) :
    Calls Tryz.prog 91 #[.agg #[.int .i64 n, .int .i64 d]] w (Gives (ratV (low n d)) w) := by
  have hz : (d == 0) = false := by simpa using hd0
  obtain ⟨G, hG, hG0⟩ : ∃ G : Nat, Int.gcd n d = G ∧ 0 < G := ⟨_, rfl, gcd_pos_of n d hd0⟩
  -- the divisor with the sign of d
  obtain ⟨k, hk, hk0, hk1, LN, LD⟩ : ∃ k : Int, (k = if d < 0 then -(G : Int) else G) ∧ (k == 0) = false ∧ (k ≠ 0) ∧ lowN n d = n.tdiv k ∧ lowD n d = d.tdiv k := by
    refine ⟨_, rfl, ?_, ?_, ?_, ?_⟩
    · split <;> (simp; omega)
    · split <;> omega
    · unfold lowN; rw [hG]; split <;> simp [Int.tdiv_neg]
    · unfold lowD; rw [hG]; split <;> simp [Int.tdiv_neg]
  obtain ⟨bn1, bn2⟩ := tdiv_bdw n k (by omega) (by omega)
  obtain ⟨bd1, bd2⟩ := tdiv_bdw d k (by omega) (by omega)
  have hG9 : (G : Int) ≤ 2000000000000000000 := by
    have := Int.le_of_dvd (show (0 : Int) < d.natAbs by omega) (Int.dvd_natAbs.2 (Int.gcd_dvd_right (a := n) (b := d)))
    rw [hG] at this; omega
  have HG := Lib.hid hG
  clear hG
  have L1 := Lib.hid LN
  have L2 := Lib.hid LD
  clear LN LD
  by_cases hs : d < 0
  · rw [if_pos hs] at hk
    have HK := Lib.hid hk
    have hs' : decide (d < 0) = true := by simpa using hs
    clear hk
    go_enter Tryz.func91, Tryz.ntmps91
    go_wp2_with fail
    refine (iGD n d _ (by omega) (by omega)).mono ?_
    rintro e w' ⟨rfl, m, rfl⟩
    rw [HG.out]
    go_wp2_with fail
    rw [← HK.out]
    go_quiet (fail)
    go_wp2_with fail
    by_cases h1 : -400000000 ≤ n.tdiv k ∧ n.tdiv k ≤ 400000000
    · refine (iIsNum_t _ _ h1.1 h1.2).mono ?_
      rintro e w' ⟨rfl, rfl⟩
      go_wp2_with fail
      by_cases h2 : -400000000 ≤ d.tdiv k ∧ d.tdiv k ≤ 400000000
      · have L : Hid (low n d = (n.tdiv k, d.tdiv k)) := by
          have := (low_fits (n := n) (d := d) hd0 (by rw [L1.out, L2.out]; exact ⟨h1.1, h1.2, h2.1, h2.2⟩)).1
          rw [L1.out, L2.out] at this; exact this
        refine (iIsNum_t _ _ h2.1 h2.2).mono ?_
        rintro e w' ⟨rfl, rfl⟩
        go_wp2_with fail
        refine bodyPost_ret (v := ratV (n.tdiv k, d.tdiv k)) (by simp [results, Tryz.results91, go_sem, ratV]) rfl ⟨by rw [L.out], ?_⟩
        repeat (first | exact Below.refl _ _ | refine below_drewN ?_ _ | refine Below.setCell ?_ (by simp) _ | refine Below.alloc ?_ (by simp) _ | (refine Below.alloc ?_ (by simp; omega) _))
      · have L : Hid (low n d = (0, 0)) := low_none (by rw [L1.out, L2.out]; exact fun k => h2 ⟨k.2.2.1, k.2.2.2⟩)
        refine (iIsNum_f _ _ (by omega)).mono ?_
        rintro e w' ⟨rfl, rfl⟩
        clear h2
        go_wp2_with fail
        refine bodyPost_ret (v := ratV (0, 0)) (by simp [results, Tryz.results91, go_sem, ratV]) rfl ⟨by rw [L.out], ?_⟩
        repeat (first | exact Below.refl _ _ | refine below_drewN ?_ _ | refine Below.setCell ?_ (by simp) _ | refine Below.alloc ?_ (by simp) _ | (refine Below.alloc ?_ (by simp; omega) _))
    · have L : Hid (low n d = (0, 0)) := low_none (by rw [L1.out, L2.out]; exact fun k => h1 ⟨k.1, k.2.1⟩)
      refine (iIsNum_f _ _ (by omega)).mono ?_
      rintro e w' ⟨rfl, rfl⟩
      clear h1
      go_wp2_with fail
      refine bodyPost_ret (v := ratV (0, 0)) (by simp [results, Tryz.results91, go_sem, ratV]) rfl ⟨by rw [L.out], ?_⟩
      repeat (first | exact Below.refl _ _ | refine below_drewN ?_ _ | refine Below.setCell ?_ (by simp) _ | refine Below.alloc ?_ (by simp) _ | (refine Below.alloc ?_ (by simp; omega) _))
  · rw [if_neg hs] at hk
    have HK := Lib.hid hk
    have hs' : decide (d < 0) = false := by simpa using hs
    clear hk
    go_enter Tryz.func91, Tryz.ntmps91
    go_wp2_with fail
    refine (iGD n d _ (by omega) (by omega)).mono ?_
    rintro e w' ⟨rfl, m, rfl⟩
    rw [HG.out]
    go_wp2_with fail
    rw [← HK.out]
    go_quiet (fail)
    go_wp2_with fail
    by_cases h1 : -400000000 ≤ n.tdiv k ∧ n.tdiv k ≤ 400000000
    · refine (iIsNum_t _ _ h1.1 h1.2).mono ?_
      rintro e w' ⟨rfl, rfl⟩
      go_wp2_with fail
      by_cases h2 : -400000000 ≤ d.tdiv k ∧ d.tdiv k ≤ 400000000
      · have L : Hid (low n d = (n.tdiv k, d.tdiv k)) := by
          have := (low_fits (n := n) (d := d) hd0 (by rw [L1.out, L2.out]; exact ⟨h1.1, h1.2, h2.1, h2.2⟩)).1
          rw [L1.out, L2.out] at this; exact this
        refine (iIsNum_t _ _ h2.1 h2.2).mono ?_
        rintro e w' ⟨rfl, rfl⟩
        go_wp2_with fail
        refine bodyPost_ret (v := ratV (n.tdiv k, d.tdiv k)) (by simp [results, Tryz.results91, go_sem, ratV]) rfl ⟨by rw [L.out], ?_⟩
        repeat (first | exact Below.refl _ _ | refine below_drewN ?_ _ | refine Below.setCell ?_ (by simp) _ | refine Below.alloc ?_ (by simp) _ | (refine Below.alloc ?_ (by simp; omega) _))
      · have L : Hid (low n d = (0, 0)) := low_none (by rw [L1.out, L2.out]; exact fun k => h2 ⟨k.2.2.1, k.2.2.2⟩)
        refine (iIsNum_f _ _ (by omega)).mono ?_
        rintro e w' ⟨rfl, rfl⟩
        clear h2
        go_wp2_with fail
        refine bodyPost_ret (v := ratV (0, 0)) (by simp [results, Tryz.results91, go_sem, ratV]) rfl ⟨by rw [L.out], ?_⟩
        repeat (first | exact Below.refl _ _ | refine below_drewN ?_ _ | refine Below.setCell ?_ (by simp) _ | refine Below.alloc ?_ (by simp) _ | (refine Below.alloc ?_ (by simp; omega) _))
    · have L : Hid (low n d = (0, 0)) := low_none (by rw [L1.out, L2.out]; exact fun k => h1 ⟨k.1, k.2.1⟩)
      refine (iIsNum_f _ _ (by omega)).mono ?_
      rintro e w' ⟨rfl, rfl⟩
      clear h1
      go_wp2_with fail
      refine bodyPost_ret (v := ratV (0, 0)) (by simp [results, Tryz.results91, go_sem, ratV]) rfl ⟨by rw [L.out], ?_⟩
      repeat (first | exact Below.refl _ _ | refine below_drewN ?_ _ | refine Below.setCell ?_ (by simp) _ | refine Below.alloc ?_ (by simp) _ | (refine Below.alloc ?_ (by simp; omega) _))
end Go.Proofs.YtcapddcmnjeloaaGreatDoor
end

section
/-
  Chapter 2, in the program: MakeRatio, IsRatio.
-/
namespace Go.Proofs.YtcapddcmnjeloaaGreatDoor
open Go.RowKit
theorem iLow0 (n : Int) (w : World) :
    Calls Tryz.prog 91 #[.agg #[.int .i64 n, .int .i64 0]] w (Gives (ratV (low n 0)) w) := by
  go_enter Tryz.func91, Tryz.ntmps91
  go_wp2_with fail
  refine bodyPost_ret (v := ratV (0, 0)) (by simp [results, Tryz.results91, go_sem, ratV]) rfl ⟨by rw [low_zero], ?_⟩
  exact ((Below.refl _ _).alloc (Nat.le_refl _) _).alloc (by simp) _
theorem iLowA (n d : Int) (w : World) (hn : -2000000000000000000 ≤ n ∧ n ≤ 2000000000000000000) (hd : -2000000000000000000 ≤ d ∧ d ≤ 2000000000000000000) :
    Calls Tryz.prog 91 #[.agg #[.int .i64 n, .int .i64 d]] w (Gives (ratV (low n d)) w) := by
  by_cases h : d = 0
  · subst h; exact iLow0 n w
  · exact iLow n d w hn hd h
theorem iMk (n d : Int) (w : World) : Calls Tryz.prog 77 #[.int .i64 n, .int .i64 d] w (Gives (ratV (mkRat n d)) w) := by
  by_cases hn : -400000000 ≤ n ∧ n ≤ 400000000
  · by_cases hd : -400000000 ≤ d ∧ d ≤ 400000000
    · rw [mkRat_in ⟨hn, hd⟩]
      go_enter Tryz.func77, Tryz.ntmps77
      go_wp2_with fail
      refine (iIsNum_t _ _ hn.1 hn.2).mono ?_
      rintro e w' ⟨rfl, rfl⟩
      go_wp2_with fail
      refine (iIsNum_t _ _ hd.1 hd.2).mono ?_
      rintro e w' ⟨rfl, rfl⟩
      go_wp2_with fail
      refine (iLowA n d _ (by omega) (by omega)).mono ?_
      rintro e w1 ⟨rfl, hb⟩
      have K0 : Hid (Blk2 w1 w.heap.size 40 (.int .i64 0) (.int .i64 0)) := (Blk2.at_ _ _ _ rfl).keep hb (by simp)
      obtain ⟨C0, C1, F0, F1⟩ := K0.out.all
      have B : Hid (Below w.heap.size w w1) := ((Below.refl _ _).alloc (Nat.le_refl _) _).trans (hb.mono (by simp))
      clear hb
      unfold ratV
      go_wp2_with fail
      obtain ⟨E0, E1, -, -⟩ := ((K0.out.set0 (.int .i64 (low n d).1)).set1 (.int .i64 (low n d).2)).all
      refine bodyPost_ret (v := ratV (low n d)) (by simp [results, Tryz.results77, go_sem, E0, E1, ratV]) rfl ⟨rfl, ?_⟩
      exact (B.out.setCell (Nat.le_refl _) _).setCell (Nat.le_refl _) _
    · rw [mkRat_out (fun k => hd k.2)]
      have hd' : d < -400000000 ∨ 400000000 < d := by omega
      clear hd
      go_enter Tryz.func77, Tryz.ntmps77
      go_wp2_with fail
      refine (iIsNum_t _ _ hn.1 hn.2).mono ?_
      rintro e w' ⟨rfl, rfl⟩
      go_wp2_with fail
      refine (iIsNum_f _ _ hd').mono ?_
      rintro e w' ⟨rfl, rfl⟩
      go_wp2_with fail
      refine bodyPost_ret (v := ratV (0, 0)) (by simp [results, Tryz.results77, go_sem, ratV]) rfl ⟨rfl, ?_⟩
      exact (Below.refl _ _).alloc (Nat.le_refl _) _
  · rw [mkRat_out (fun k => hn k.1)]
    have hn' : n < -400000000 ∨ 400000000 < n := by omega
    clear hn
    go_enter Tryz.func77, Tryz.ntmps77
    go_wp2_with fail
    refine (iIsNum_f _ _ hn').mono ?_
    rintro e w' ⟨rfl, rfl⟩
    go_wp2_with fail
    refine bodyPost_ret (v := ratV (0, 0)) (by simp [results, Tryz.results77, go_sem, ratV]) rfl ⟨rfl, ?_⟩
    exact (Below.refl _ _).alloc (Nat.le_refl _) _
theorem eqRat (n d a b : Int) (w : World) : (Op.equalIn 10000 40 (.agg #[.int .i64 n, .int .i64 d]) (.agg #[.int .i64 a, .int .i64 b])).run Tryz.prog w = .ok (n == a && d == b) w := by
  by_cases h1 : n = a
  · subst h1
    by_cases h2 : d = b
    · subst h2
      simp [go_sem]
    · have h2' : (d == b) = false := by simpa using h2
      simp [go_sem, h2']
  · have h1' : (n == a) = false := by simpa using h1
    simp [go_sem, h1']
theorem isRat_beq (n d : Int) (h : ¬ (n = 0 ∧ d = 0)) : (n == (mkRat n d).1 && d == (mkRat n d).2) = isRat n d := by
  rw [isRat_mk n d h]
  generalize mkRat n d = r
  obtain ⟨p, q⟩ := r
  rw [Bool.eq_iff_iff]
  simp only [Bool.and_eq_true, beq_iff_eq, decide_eq_true_eq, Prod.mk.injEq]
  exact ⟨fun h => ⟨h.1.symm, h.2.symm⟩, fun h => ⟨h.1.symm, h.2.symm⟩⟩
set_option maxHeartbeats 2000000 in
theorem iIsRat (n d : Int) (w : World) : Calls Tryz.prog 59 #[.agg #[.int .i64 n, .int .i64 d]] w (Gives (.bool (isRat n d)) w) := by
  by_cases h0 : n = 0 ∧ d = 0
  · obtain ⟨rfl, rfl⟩ := h0
    have E : Hid (isRat 0 0 = false) := decide_eq_false not_isRat_zero
    go_enter Tryz.func59, Tryz.ntmps59
    go_wp2_with fail
    go_quiet (fail)
    go_wp2_with fail
    go_ret
    exact ⟨by rw [E.out]; rfl, below_drewN ((Below.refl _ _).alloc (Nat.le_refl _) _) _⟩
  · have q1 : ∀ w : World, (Op.equalIn 10000 40 (.agg #[.int .i64 n, .int .i64 d]) (.agg #[.int .i64 0, .int .i64 0])).run Tryz.prog w = .ok false w := fun w => by
      rw [eqRat, show (n == 0 && d == 0) = false by simp; omega]
    have q2 : ∀ w : World, (Op.equalIn 10000 40 (.agg #[.int .i64 n, .int .i64 d]) (.agg #[.int .i64 (mkRat n d).1, .int .i64 (mkRat n d).2])).run Tryz.prog w = .ok (isRat n d) w := fun w => by
      rw [eqRat, isRat_beq n d h0]
    clear h0
    go_enter Tryz.func59, Tryz.ntmps59
    go_wp2_with fail
    go_region_with (go_at_call 77; refine (iMk _ _ _).mono ?_; rintro e w1 ⟨rfl, hb⟩; obtain ⟨C0, C1, -, -⟩ := (Blk2.keep (b := w.heap.size) (t := 40) (p := .int .i64 n) (q := .int .i64 d) (by first | exact Blk2.at_ _ _ _ rfl | exact (Blk2.at_ _ _ _ rfl).drewN _ | exact (Blk2.at_ _ _ _ rfl).drew) hb (by simp)).all; unfold ratV)
    all_goals
      go_wp2_with fail
      go_ret
      refine ⟨rfl, ?_⟩
      have B : Below w.heap.size w w1 := Below.trans (by repeat (first | exact Below.refl _ _ | refine below_drewN ?_ _ | refine Below.drew ?_ | refine Below.alloc ?_ (by simp) _)) (hb.mono (by simp))
      exact B
end Go.Proofs.YtcapddcmnjeloaaGreatDoor
end

section
/-
  Chapter 2, in the program: sums, products, quotients.
-/
namespace Go.Proofs.YtcapddcmnjeloaaGreatDoor
open Go.RowKit
set_option maxHeartbeats 800000 in
theorem iAdd (a b c d : Int) (w : World) : Calls Tryz.prog 45 #[.agg #[.int .i64 a, .int .i64 b], .agg #[.int .i64 c, .int .i64 d]] w (Gives (ratV (addR a b c d)) w) := by
  rcases Bool.eq_false_or_eq_true (isRat a b) with ha | ha
  · rcases Bool.eq_false_or_eq_true (isRat c d) with hc | hc
    · have L : Hid (addR a b c d = low (a * d + c * b) (b * d)) := by show addR a b c d = _; unfold addR; rw [ha, hc]; rfl
      have pa := isRat_in (of_decide_eq_true ha)
      have pc := isRat_in (of_decide_eq_true hc)
      obtain ⟨m1, m2⟩ := mul_sm a d pa.1 pc.2
      obtain ⟨m3, m4⟩ := mul_sm c b pc.1 pa.2
      obtain ⟨m5, m6⟩ := mul_sm b d pa.2 pc.2
      obtain ⟨m7, m8⟩ := mul_sm a c pa.1 pc.1
      obtain ⟨m9, m10⟩ := mul_sm b c pa.2 pc.1
      go_enter Tryz.func45, Tryz.ntmps45
      go_wp2_with fail
      refine (iIsRat a b _).mono ?_
      rintro e w1 ⟨rfl, hb⟩
      have K0 : Hid (Blk2 w1 w.heap.size 40 (.int .i64 a) (.int .i64 b)) := (((Blk2.at_ _ _ _ rfl).old _).old _).keep hb (by simp <;> omega)
      have K1 : Hid (Blk2 w1 (w.heap.size + 1) 40 (.int .i64 c) (.int .i64 d)) := ((Blk2.at_ _ _ _ (by simp)).old _).keep hb (by simp <;> omega)
      have K2 : Hid (Blk2 w1 (w.heap.size + 1 + 1) 40 (.int .i64 0) (.int .i64 0)) := (Blk2.at_ _ _ _ (by simp)).keep hb (by simp <;> omega)
      have B : Hid (Below w.heap.size w w1) := Below.trans (by repeat (first | exact Below.refl _ _ | refine Below.alloc ?_ (by simp <;> omega) _)) (hb.mono (by simp <;> omega))
      obtain ⟨K0a1, K0b1, K0c1, K0d1⟩ := K0.out.all
      obtain ⟨K1a1, K1b1, K1c1, K1d1⟩ := K1.out.all
      obtain ⟨K2a1, K2b1, K2c1, K2d1⟩ := K2.out.all
      clear hb
      rw [ha]
      go_wp2_with fail
      refine (iIsRat c d _).mono ?_
      rintro e w2 ⟨rfl, hb⟩
      have K0 : Hid (Blk2 w2 w.heap.size 40 (.int .i64 a) (.int .i64 b)) := K0.out.keep hb K0.out.lt
      have K1 : Hid (Blk2 w2 (w.heap.size + 1) 40 (.int .i64 c) (.int .i64 d)) := K1.out.keep hb K1.out.lt
      have K2 : Hid (Blk2 w2 (w.heap.size + 1 + 1) 40 (.int .i64 0) (.int .i64 0)) := K2.out.keep hb K2.out.lt
      have B := Lib.hid (B.out.trans (hb.mono B.out.size))
      obtain ⟨K0a2, K0b2, K0c2, K0d2⟩ := K0.out.all
      obtain ⟨K1a2, K1b2, K1c2, K1d2⟩ := K1.out.all
      obtain ⟨K2a2, K2b2, K2c2, K2d2⟩ := K2.out.all
      clear hb
      rw [hc]
      go_wp2_with fail
      refine (iLowA (a * d + c * b) (b * d) _ (by omega) (by omega)).mono ?_
      rintro e w3 ⟨rfl, hb⟩
      have K2 : Hid (Blk2 w3 (w.heap.size + 1 + 1) 40 (.int .i64 0) (.int .i64 0)) := K2.out.keep hb K2.out.lt
      have B := Lib.hid (B.out.trans (hb.mono B.out.size))
      obtain ⟨K2a3, K2b3, K2c3, K2d3⟩ := K2.out.all
      clear hb
      unfold ratV
      go_wp2_with fail
      obtain ⟨E0, E1, -, -⟩ := ((K2.out.set0 (.int .i64 (low (a * d + c * b) (b * d)).1)).set1 (.int .i64 (low (a * d + c * b) (b * d)).2)).all
      refine bodyPost_ret (v := ratV (low (a * d + c * b) (b * d))) (by simp [results, Tryz.results45, go_sem, E0, E1, ratV]) rfl ⟨by rw [L.out], ?_⟩
      exact (B.out.setCell (by show w.heap.size ≤ w.heap.size + 1 + 1; omega) _).setCell (by show w.heap.size ≤ w.heap.size + 1 + 1; omega) _
    · have L : Hid (addR a b c d = (0, 0)) := by show addR a b c d = _; unfold addR; rw [ha, hc]; rfl
      go_enter Tryz.func45, Tryz.ntmps45
      go_wp2_with fail
      refine (iIsRat a b _).mono ?_
      rintro e w1 ⟨rfl, hb⟩
      have K0 : Hid (Blk2 w1 w.heap.size 40 (.int .i64 a) (.int .i64 b)) := (((Blk2.at_ _ _ _ rfl).old _).old _).keep hb (by simp <;> omega)
      have K1 : Hid (Blk2 w1 (w.heap.size + 1) 40 (.int .i64 c) (.int .i64 d)) := ((Blk2.at_ _ _ _ (by simp)).old _).keep hb (by simp <;> omega)
      have K2 : Hid (Blk2 w1 (w.heap.size + 1 + 1) 40 (.int .i64 0) (.int .i64 0)) := (Blk2.at_ _ _ _ (by simp)).keep hb (by simp <;> omega)
      have B : Hid (Below w.heap.size w w1) := Below.trans (by repeat (first | exact Below.refl _ _ | refine Below.alloc ?_ (by simp <;> omega) _)) (hb.mono (by simp <;> omega))
      obtain ⟨K0a1, K0b1, K0c1, K0d1⟩ := K0.out.all
      obtain ⟨K1a1, K1b1, K1c1, K1d1⟩ := K1.out.all
      obtain ⟨K2a1, K2b1, K2c1, K2d1⟩ := K2.out.all
      clear hb
      rw [ha]
      go_wp2_with fail
      refine (iIsRat c d _).mono ?_
      rintro e w2 ⟨rfl, hb⟩
      have K0 : Hid (Blk2 w2 w.heap.size 40 (.int .i64 a) (.int .i64 b)) := K0.out.keep hb K0.out.lt
      have K1 : Hid (Blk2 w2 (w.heap.size + 1) 40 (.int .i64 c) (.int .i64 d)) := K1.out.keep hb K1.out.lt
      have K2 : Hid (Blk2 w2 (w.heap.size + 1 + 1) 40 (.int .i64 0) (.int .i64 0)) := K2.out.keep hb K2.out.lt
      have B := Lib.hid (B.out.trans (hb.mono B.out.size))
      obtain ⟨K0a2, K0b2, K0c2, K0d2⟩ := K0.out.all
      obtain ⟨K1a2, K1b2, K1c2, K1d2⟩ := K1.out.all
      obtain ⟨K2a2, K2b2, K2c2, K2d2⟩ := K2.out.all
      clear hb
      rw [hc]
      go_wp2_with fail
      obtain ⟨E0, E1, -, -⟩ := ((K2.out.set0 (.int .i64 0)).set1 (.int .i64 0)).all
      refine bodyPost_ret (v := ratV (0, 0)) (by simp [results, Tryz.results45, go_sem, E0, E1, ratV]) rfl ⟨by rw [L.out], ?_⟩
      exact (B.out.setCell (by show w.heap.size ≤ w.heap.size + 1 + 1; omega) _).setCell (by show w.heap.size ≤ w.heap.size + 1 + 1; omega) _
  · have L : Hid (addR a b c d = (0, 0)) := by show addR a b c d = _; unfold addR; rw [ha]; rfl
    go_enter Tryz.func45, Tryz.ntmps45
    go_wp2_with fail
    refine (iIsRat a b _).mono ?_
    rintro e w1 ⟨rfl, hb⟩
    have K0 : Hid (Blk2 w1 w.heap.size 40 (.int .i64 a) (.int .i64 b)) := (((Blk2.at_ _ _ _ rfl).old _).old _).keep hb (by simp <;> omega)
    have K1 : Hid (Blk2 w1 (w.heap.size + 1) 40 (.int .i64 c) (.int .i64 d)) := ((Blk2.at_ _ _ _ (by simp)).old _).keep hb (by simp <;> omega)
    have K2 : Hid (Blk2 w1 (w.heap.size + 1 + 1) 40 (.int .i64 0) (.int .i64 0)) := (Blk2.at_ _ _ _ (by simp)).keep hb (by simp <;> omega)
    have B : Hid (Below w.heap.size w w1) := Below.trans (by repeat (first | exact Below.refl _ _ | refine Below.alloc ?_ (by simp <;> omega) _)) (hb.mono (by simp <;> omega))
    obtain ⟨K0a1, K0b1, K0c1, K0d1⟩ := K0.out.all
    obtain ⟨K1a1, K1b1, K1c1, K1d1⟩ := K1.out.all
    obtain ⟨K2a1, K2b1, K2c1, K2d1⟩ := K2.out.all
    clear hb
    rw [ha]
    go_wp2_with fail
    obtain ⟨E0, E1, -, -⟩ := ((K2.out.set0 (.int .i64 0)).set1 (.int .i64 0)).all
    refine bodyPost_ret (v := ratV (0, 0)) (by simp [results, Tryz.results45, go_sem, E0, E1, ratV]) rfl ⟨by rw [L.out], ?_⟩
    exact (B.out.setCell (by show w.heap.size ≤ w.heap.size + 1 + 1; omega) _).setCell (by show w.heap.size ≤ w.heap.size + 1 + 1; omega) _
set_option maxHeartbeats 800000 in
theorem iMul (a b c d : Int) (w : World) : Calls Tryz.prog 46 #[.agg #[.int .i64 a, .int .i64 b], .agg #[.int .i64 c, .int .i64 d]] w (Gives (ratV (mulR a b c d)) w) := by
  rcases Bool.eq_false_or_eq_true (isRat a b) with ha | ha
  · rcases Bool.eq_false_or_eq_true (isRat c d) with hc | hc
    · have L : Hid (mulR a b c d = low (a * c) (b * d)) := by show mulR a b c d = _; unfold mulR; rw [ha, hc]; rfl
      have pa := isRat_in (of_decide_eq_true ha)
      have pc := isRat_in (of_decide_eq_true hc)
      obtain ⟨m1, m2⟩ := mul_sm a d pa.1 pc.2
      obtain ⟨m3, m4⟩ := mul_sm c b pc.1 pa.2
      obtain ⟨m5, m6⟩ := mul_sm b d pa.2 pc.2
      obtain ⟨m7, m8⟩ := mul_sm a c pa.1 pc.1
      obtain ⟨m9, m10⟩ := mul_sm b c pa.2 pc.1
      go_enter Tryz.func46, Tryz.ntmps46
      go_wp2_with fail
      refine (iIsRat a b _).mono ?_
      rintro e w1 ⟨rfl, hb⟩
      have K0 : Hid (Blk2 w1 w.heap.size 40 (.int .i64 a) (.int .i64 b)) := (((Blk2.at_ _ _ _ rfl).old _).old _).keep hb (by simp <;> omega)
      have K1 : Hid (Blk2 w1 (w.heap.size + 1) 40 (.int .i64 c) (.int .i64 d)) := ((Blk2.at_ _ _ _ (by simp)).old _).keep hb (by simp <;> omega)
      have K2 : Hid (Blk2 w1 (w.heap.size + 1 + 1) 40 (.int .i64 0) (.int .i64 0)) := (Blk2.at_ _ _ _ (by simp)).keep hb (by simp <;> omega)
      have B : Hid (Below w.heap.size w w1) := Below.trans (by repeat (first | exact Below.refl _ _ | refine Below.alloc ?_ (by simp <;> omega) _)) (hb.mono (by simp <;> omega))
      obtain ⟨K0a1, K0b1, K0c1, K0d1⟩ := K0.out.all
      obtain ⟨K1a1, K1b1, K1c1, K1d1⟩ := K1.out.all
      obtain ⟨K2a1, K2b1, K2c1, K2d1⟩ := K2.out.all
      clear hb
      rw [ha]
      go_wp2_with fail
      refine (iIsRat c d _).mono ?_
      rintro e w2 ⟨rfl, hb⟩
      have K0 : Hid (Blk2 w2 w.heap.size 40 (.int .i64 a) (.int .i64 b)) := K0.out.keep hb K0.out.lt
      have K1 : Hid (Blk2 w2 (w.heap.size + 1) 40 (.int .i64 c) (.int .i64 d)) := K1.out.keep hb K1.out.lt
      have K2 : Hid (Blk2 w2 (w.heap.size + 1 + 1) 40 (.int .i64 0) (.int .i64 0)) := K2.out.keep hb K2.out.lt
      have B := Lib.hid (B.out.trans (hb.mono B.out.size))
      obtain ⟨K0a2, K0b2, K0c2, K0d2⟩ := K0.out.all
      obtain ⟨K1a2, K1b2, K1c2, K1d2⟩ := K1.out.all
      obtain ⟨K2a2, K2b2, K2c2, K2d2⟩ := K2.out.all
      clear hb
      rw [hc]
      go_wp2_with fail
      refine (iLowA (a * c) (b * d) _ (by omega) (by omega)).mono ?_
      rintro e w3 ⟨rfl, hb⟩
      have K2 : Hid (Blk2 w3 (w.heap.size + 1 + 1) 40 (.int .i64 0) (.int .i64 0)) := K2.out.keep hb K2.out.lt
      have B := Lib.hid (B.out.trans (hb.mono B.out.size))
      obtain ⟨K2a3, K2b3, K2c3, K2d3⟩ := K2.out.all
      clear hb
      unfold ratV
      go_wp2_with fail
      obtain ⟨E0, E1, -, -⟩ := ((K2.out.set0 (.int .i64 (low (a * c) (b * d)).1)).set1 (.int .i64 (low (a * c) (b * d)).2)).all
      refine bodyPost_ret (v := ratV (low (a * c) (b * d))) (by simp [results, Tryz.results46, go_sem, E0, E1, ratV]) rfl ⟨by rw [L.out], ?_⟩
      exact (B.out.setCell (by show w.heap.size ≤ w.heap.size + 1 + 1; omega) _).setCell (by show w.heap.size ≤ w.heap.size + 1 + 1; omega) _
    · have L : Hid (mulR a b c d = (0, 0)) := by show mulR a b c d = _; unfold mulR; rw [ha, hc]; rfl
      go_enter Tryz.func46, Tryz.ntmps46
      go_wp2_with fail
      refine (iIsRat a b _).mono ?_
      rintro e w1 ⟨rfl, hb⟩
      have K0 : Hid (Blk2 w1 w.heap.size 40 (.int .i64 a) (.int .i64 b)) := (((Blk2.at_ _ _ _ rfl).old _).old _).keep hb (by simp <;> omega)
      have K1 : Hid (Blk2 w1 (w.heap.size + 1) 40 (.int .i64 c) (.int .i64 d)) := ((Blk2.at_ _ _ _ (by simp)).old _).keep hb (by simp <;> omega)
      have K2 : Hid (Blk2 w1 (w.heap.size + 1 + 1) 40 (.int .i64 0) (.int .i64 0)) := (Blk2.at_ _ _ _ (by simp)).keep hb (by simp <;> omega)
      have B : Hid (Below w.heap.size w w1) := Below.trans (by repeat (first | exact Below.refl _ _ | refine Below.alloc ?_ (by simp <;> omega) _)) (hb.mono (by simp <;> omega))
      obtain ⟨K0a1, K0b1, K0c1, K0d1⟩ := K0.out.all
      obtain ⟨K1a1, K1b1, K1c1, K1d1⟩ := K1.out.all
      obtain ⟨K2a1, K2b1, K2c1, K2d1⟩ := K2.out.all
      clear hb
      rw [ha]
      go_wp2_with fail
      refine (iIsRat c d _).mono ?_
      rintro e w2 ⟨rfl, hb⟩
      have K0 : Hid (Blk2 w2 w.heap.size 40 (.int .i64 a) (.int .i64 b)) := K0.out.keep hb K0.out.lt
      have K1 : Hid (Blk2 w2 (w.heap.size + 1) 40 (.int .i64 c) (.int .i64 d)) := K1.out.keep hb K1.out.lt
      have K2 : Hid (Blk2 w2 (w.heap.size + 1 + 1) 40 (.int .i64 0) (.int .i64 0)) := K2.out.keep hb K2.out.lt
      have B := Lib.hid (B.out.trans (hb.mono B.out.size))
      obtain ⟨K0a2, K0b2, K0c2, K0d2⟩ := K0.out.all
      obtain ⟨K1a2, K1b2, K1c2, K1d2⟩ := K1.out.all
      obtain ⟨K2a2, K2b2, K2c2, K2d2⟩ := K2.out.all
      clear hb
      rw [hc]
      go_wp2_with fail
      obtain ⟨E0, E1, -, -⟩ := ((K2.out.set0 (.int .i64 0)).set1 (.int .i64 0)).all
      refine bodyPost_ret (v := ratV (0, 0)) (by simp [results, Tryz.results46, go_sem, E0, E1, ratV]) rfl ⟨by rw [L.out], ?_⟩
      exact (B.out.setCell (by show w.heap.size ≤ w.heap.size + 1 + 1; omega) _).setCell (by show w.heap.size ≤ w.heap.size + 1 + 1; omega) _
  · have L : Hid (mulR a b c d = (0, 0)) := by show mulR a b c d = _; unfold mulR; rw [ha]; rfl
    go_enter Tryz.func46, Tryz.ntmps46
    go_wp2_with fail
    refine (iIsRat a b _).mono ?_
    rintro e w1 ⟨rfl, hb⟩
    have K0 : Hid (Blk2 w1 w.heap.size 40 (.int .i64 a) (.int .i64 b)) := (((Blk2.at_ _ _ _ rfl).old _).old _).keep hb (by simp <;> omega)
    have K1 : Hid (Blk2 w1 (w.heap.size + 1) 40 (.int .i64 c) (.int .i64 d)) := ((Blk2.at_ _ _ _ (by simp)).old _).keep hb (by simp <;> omega)
    have K2 : Hid (Blk2 w1 (w.heap.size + 1 + 1) 40 (.int .i64 0) (.int .i64 0)) := (Blk2.at_ _ _ _ (by simp)).keep hb (by simp <;> omega)
    have B : Hid (Below w.heap.size w w1) := Below.trans (by repeat (first | exact Below.refl _ _ | refine Below.alloc ?_ (by simp <;> omega) _)) (hb.mono (by simp <;> omega))
    obtain ⟨K0a1, K0b1, K0c1, K0d1⟩ := K0.out.all
    obtain ⟨K1a1, K1b1, K1c1, K1d1⟩ := K1.out.all
    obtain ⟨K2a1, K2b1, K2c1, K2d1⟩ := K2.out.all
    clear hb
    rw [ha]
    go_wp2_with fail
    obtain ⟨E0, E1, -, -⟩ := ((K2.out.set0 (.int .i64 0)).set1 (.int .i64 0)).all
    refine bodyPost_ret (v := ratV (0, 0)) (by simp [results, Tryz.results46, go_sem, E0, E1, ratV]) rfl ⟨by rw [L.out], ?_⟩
    exact (B.out.setCell (by show w.heap.size ≤ w.heap.size + 1 + 1; omega) _).setCell (by show w.heap.size ≤ w.heap.size + 1 + 1; omega) _
end Go.Proofs.YtcapddcmnjeloaaGreatDoor
end
