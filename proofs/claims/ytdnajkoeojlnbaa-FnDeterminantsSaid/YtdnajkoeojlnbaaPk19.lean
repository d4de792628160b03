/-
  Texts of this seat, joined: StepS · LawSt · MatI7 · MatI8 · PivI · StpI · StepsI
-/
import Derived.StillTailTactics
import Derived.Deep.DeepCutAuto
import Derived.Deep.RegionHeld3
import Derived.BigQuiet
import Derived.IntWalk
import Derived.Test.YtdnajkoeojlnbaaPk2
import Derived.Test.YtdnajkoeojlnbaaPk3
import Derived.Test.YtdnajkoeojlnbaaPk4
import Derived.Test.YtdnajkoeojlnbaaPk7

section
/-
  Chapter 6, in the model: DeterminantBySteps.
-/
namespace Go.Proofs.Ytdnajkoeojlnbaa
set_option maxRecDepth 100000
open Go.RowKit

def stepsOf (r c : Int) (xs : List Int) : Int × Bool := if isSq r c xs = true then stepsM r.toNat xs else (0, false)
set_option maxRecDepth 100000 in
set_option maxHeartbeats 4000000 in
theorem sSteps_t (n : Nat) (a : Option Addr) (m : Nat) (xs : List Int) (w : World) (h : Rd w a xs) (ha : Spot a) (hx : xs.length = n * n) (h6 : n ≤ 6) (nx : nums xs = true) (hs : isSq n n xs = true) :
    Calls Try.prog 26 #[.agg #[.int .i64 n, .int .i64 n, .slice a xs.length m]] w (Gives (.tuple #[.int .i64 (stepsM n xs).1, .bool (stepsM n xs).2]) w) := by
  have hle : n * n ≤ 6 * 6 := Nat.mul_le_mul h6 h6
  have B0 : Hid (∀ o1, Below w.heap.size w (w.alloc o1)) := fun o1 => (Below.refl _ _).alloc (Nat.le_refl _) _
  obtain ⟨N, hN⟩ : ∃ N, n * n = N := ⟨_, rfl⟩
  have SQ : Hid (∀ w', Below w.heap.size w w' → Calls Try.prog 16 #[.agg #[.int .i64 n, .int .i64 n, .slice a N m]] w' (Gives (.bool true) w')) := fun w' hb => by
    have := sIsSq n n a m xs w' (h.below hb) (by omega)
    rw [hx, hN, hs] at this
    exact this
  have CP : Hid (∀ w', Below w.heap.size w w' → Calls Try.prog 70 #[.agg #[.int .i64 n, .int .i64 n, .slice a N m]] w' (fun e w2 => ∃ g cap : Nat, e = .returned (.agg #[.int .i64 n, .int .i64 n, .slice (some ⟨g, 0, none⟩) N cap]) ∧ w'.heap.size ≤ g ∧ IntsC w2 g cap xs ∧ Below w'.heap.size w' w2)) := fun w' hb => sCopyA n n a m N xs w' (h.below hb) ha (by omega) (by omega)
  have ST : Hid (stR2 n n 0 xs 1 1 = stepsM n xs) := rfl
  rw [hx, hN]
  rw [hN] at hle hx
  have HN := Lib.hid hN
  have HX := Lib.hid hx
  have NX := Lib.hid nx
  generalize stepsM n xs = RES at ST ⊢
  clear h hx nx hs hN ha
  go_enter Try.func26, Try.ntmps26
  go_wp2_with fail
  refine (SQ.out _ (B0.out _)).mono ?_
  rintro e w0 ⟨rfl, hb⟩
  have K0 : Hid (Blk3 w0 w.heap.size 27 (.int .i64 n) (.int .i64 n) (.slice a N m)) := (Blk3.at_ _ _ _ _ rfl).keep hb (by simp)
  have B : Hid (Below w.heap.size w w0) := (B0.out _).trans (hb.mono (by simp))
  clear hb
  obtain ⟨p0, p1, p2, -, -, -⟩ := K0.out.all
  go_wp2_with fail
  refine (CP.out _ B.out).mono ?_
  rintro e w1 ⟨g, cap, rfl, hg, hi, hb⟩
  have l0 := K0.out.lt
  have K0 := Lib.hid (K0.out.step hb)
  have B := Lib.hid (stepB B.out hb)
  have gl := hi.lt
  have I := Lib.hid (hi.ints.old (.cells #[.int .i64 n, .int .i64 n, .slice (some ⟨g, 0, none⟩) N cap] 27))
  have l1 : w.heap.size < g := by omega
  have BA := Lib.hid (B.out.alloc B.out.size (.cells #[.int .i64 n, .int .i64 n, .slice (some ⟨g, 0, none⟩) N cap] 27))
  have K0 := Lib.hid (K0.out.old (.cells #[.int .i64 n, .int .i64 n, .slice (some ⟨g, 0, none⟩) N cap] 27))
  have K3 : Hid (Blk3 (w1.alloc (.cells #[.int .i64 n, .int .i64 n, .slice (some ⟨g, 0, none⟩) N cap] 27)) w1.heap.size 27 (.int .i64 n) (.int .i64 n) (.slice (some ⟨g, 0, none⟩) N cap)) := Blk3.at_ _ _ _ _ rfl
  clear hb hi hg p0 p1 p2
  go_upto_region 4 with fail
  generalize w1.alloc (.cells #[.int .i64 n, .int .i64 n, .slice (some ⟨g, 0, none⟩) N cap] 27) = W at I BA K0 K3 ⊢
  obtain ⟨ob, hob⟩ : ∃ ob, w1.heap.size = ob := ⟨_, rfl⟩
  rw [hob] at K3 gl ⊢
  clear hob
  obtain ⟨p0, p1, p2, -, -, -⟩ := K0.out.all
  go_wp2_with fail
  clear p0 p1 p2
  go_loopw [2, 3, 6, 7, 8, 9, 10, 11, 12] (fun _ _ v6 v7 v8 _ _ _ _ wr => ∃ (t k : Nat) (zs : List Int) (last s : Int), v8 = .int .i64 t ∧ t + k = n ∧ v6 = .int .i64 last ∧ v7 = .int .i64 s ∧ (s = 1 ∨ s = -1) ∧ last ≠ 0 ∧ NumP last ∧ zs.length = N ∧ nums zs = true ∧ stR2 n k t zs last s = RES ∧ Ints wr g zs ∧ W.grownBy wr (some g)) (fun _ _ _ _ v8 _ _ _ _ _ => n - (intOf v8).toNat)
  case atStart => exact ⟨0, n, xs, 1, 1, rfl, by omega, rfl, rfl, .inl rfl, by decide, by decide, HX.out, NX.out, ST.out, I.out, World.grownBy.refl _ _⟩
  case round =>
    obtain ⟨t, k, zs, last, s, rfl, htk, rfl, rfl, hs, hl0, hln, hz, nz, hR, hi, hgr⟩ := hrel
    have I := Lib.hid hi
    have G := Lib.hid hgr
    have HZ := Lib.hid hz
    have NZ := Lib.hid nz
    have HR := Lib.hid hR
    have S := Lib.hid hs
    have LL := Lib.hid hln
    have L0 := Lib.hid hl0
    clear hi hgr hz nz hR hs hln hl0
    have R3 := Lib.hid (K3.out.keepOne G.out (by omega))
    have BW := Lib.hid (BA.out.trans (below_of_one G.out (by omega) BA.out.size))
    obtain ⟨r0, r1, r2, -, -, -⟩ := R3.out.all
    by_cases hlt : t < n
    · obtain ⟨k, rfl⟩ : ∃ q, k = q + 1 := ⟨k - 1, by omega⟩
      go_wp2_with fail
      go_loopw [9] (fun v9 wq => ∃ p : Nat, v9 = .int .i64 p ∧ t ≤ p ∧ p ≤ n ∧ (∀ r, t ≤ r → r < p → zs.getD (r * n + t) 0 = 0) ∧ wq = wr) (fun v9 _ => n - (intOf v9).toNat)
      case atStart => exact ⟨t, rfl, Nat.le_refl _, by omega, fun r h1 h2 => by omega, rfl⟩
      case round =>
        obtain ⟨p, rfl, hp1, hp2, hp0, rfl⟩ := hrel
        have P0 := Lib.hid hp0
        clear hp0
        by_cases hpn : p < n
        · have cp : (p : Int) * (n : Int) = ((p * n : Nat) : Int) := (Int.natCast_mul _ _).symm
          have jp : p * n + t < N := by rw [← HN.out]; exact idx_lt (by omega) (by omega)
          have dp : 0 ≤ (p : Int) * (n : Int) ∧ (p : Int) * (n : Int) ≤ 600 := by rw [cp]; omega
          have ep0 : 0 ≤ (p : Int) * (n : Int) + (t : Int) := by omega
          have ep1 : (p : Int) * (n : Int) + (t : Int) < (N : Int) := by rw [cp]; omega
          have ep2 : ((p : Int) * (n : Int) + (t : Int)).toNat = p * n + t := by rw [cp]; omega
          obtain ⟨dp0, dp1⟩ := dp
          have vp0 : IntKind.i64.wrap ((p : Int) * (n : Int)) = (p : Int) * (n : Int) := IntWalk.i64_in _ (by omega)
          have vp1 : IntKind.i64.wrap ((p : Int) * (n : Int) + (t : Int)) = (p : Int) * (n : Int) + (t : Int) := IntWalk.i64_in _ (by omega)
          clear cp
          have hc := I.out.cell (i := p * n + t) (by rw [HZ.out]; exact jp)
          obtain ⟨x, hxx⟩ : ∃ x, zs.getD (p * n + t) 0 = x := ⟨_, rfl⟩
          have X := Lib.hid hxx
          rw [hxx] at hc
          clear hxx
          by_cases h0 : x = 0
          · have n1 : (x == 0) = true := by simp [h0]
            have P1 : Hid (∀ r, t ≤ r → r < p + 1 → zs.getD (r * n + t) 0 = 0) := fun r h1 h2 => by
              rcases Nat.lt_or_ge r p with h3 | h3
              · exact P0.out r h1 h3
              · obtain rfl : r = p := by omega
                rw [X.out, h0]
            clear h0
            go_wp2_with fail
            go_roundw
            case rel => exact ⟨p + 1, by go_num, by omega, by omega, P1.out, trivial⟩
            case measure => simp [intOf]; omega
          · have n1 : (x == 0) = false := by simpa using h0
            have PV : Hid (pivP n t zs = p) := pivP_eq hp1 hp2 P0.out fun _ => by rw [X.out]; exact h0
            have hpv : pivP n t zs < n := by rw [PV.out]; exact hpn
            have HY : Hid ((pvL n t zs).length = N) := by show _ = _; rw [pvL_length, HZ.out]
            have NY : Hid (nums (pvL n t zs) = true) := pvL_nums (by rw [HZ.out, HN.out]) hpv hlt NZ.out
            have TT : Hid ((pvL n t zs).getD (t * n + t) 0 ≠ 0) := by show _ ≠ _; rw [pvL_at (by rw [HZ.out, HN.out]) hlt hlt, if_pos rfl, PV.out, X.out]; exact h0
            have RB : Hid (nums (elL n t last (pvL n t zs)) ≠ true → RES = (0, false)) := fun hb => by rw [← HR.out]; exact stR2_bad (by rw [PV.out]; omega) hb
            have RO : Hid (nums (elL n t last (pvL n t zs)) = true → stR2 n k (t + 1) (elL n t last (pvL n t zs)) ((pvL n t zs).getD (t * n + t) 0) (if p = t then s else -s) = RES) := fun hb => by
              have := stR2_on (k := k) (s := s) (show pivP n t zs ≠ n by rw [PV.out]; omega) hb
              rw [HR.out, PV.out] at this
              exact this.symm
            have SW : Hid (p ≠ t → opL 0 p t 0 n zs = pvL n t zs) := fun hpt => by unfold pvL; rw [PV.out, if_neg hpt]
            have SN : Hid (p = t → zs = pvL n t zs) := fun hpt => by unfold pvL; rw [PV.out, if_pos hpt]
            clear h0 hpv
            generalize pvL n t zs = ys at HY NY TT RB RO SW SN
            obtain ⟨s2, hs2⟩ : ∃ s2, (if p = t then s else -s) = s2 := ⟨_, rfl⟩
            have SP : Hid (p = t → s2 = s) := fun h => by rw [← hs2, if_pos h]
            have SM : Hid (p ≠ t → s2 = -s) := fun h => by rw [← hs2, if_neg h]
            have S2 : Hid (s2 = 1 ∨ s2 = -1) := by have := S.out; show _ ∨ _; by_cases h : p = t; rw [SP.out h]; exact this; rw [SM.out h]; omega
            rw [hs2] at RO
            clear hs2
            have n0 : decide ((p : Int) < (n : Int)) = true := by simpa using hpn
            have n3 : ((p : Int) == (n : Int)) = false := by simp; omega
            go_upto_if 48 with fail
            go_cut [7] (fun s7 wx => s7 = .int .i64 s2 ∧ Ints wx g ys ∧ W.grownBy wx (some g))
            case first =>
              by_cases hpt : p = t
              · have n2 : ((p : Int) != (t : Int)) = false := by simp [hpt]
                have e2 := SP.out hpt
                have I2 : Hid (Ints wr g ys) := by rw [← SN.out hpt]; exact I.out
                go_wp2_with fail
                go_meet
                exact ⟨by rw [e2], I2.out, G.out⟩
              · have n2 : ((p : Int) != (t : Int)) = true := by simp; omega
                have sv : IntKind.i64.wrap (-s) = -s := IntWalk.i64_in _ (by have := S.out; omega)
                go_wp2_with fail
                refine (sDo n n p t g N cap 0 0 zs _ I.out HZ.out HN.out.symm (by omega) (by omega) hpn hlt (.inl rfl) (fun _ => hpt)).mono ?_
                rintro e w4 ⟨rfl, hi4, hg4⟩
                have G2 := Lib.hid (G.out.trans hg4)
                have I2 : Hid (Ints w4 g ys) := by rw [← SW.out hpt]; exact hi4
                have e2 := Lib.hid (SM.out hpt)
                clear hi4 hg4
                go_wp2_with fail
                go_meet
                exact ⟨by rw [e2.out], I2.out, G2.out⟩
            case rest =>
              obtain ⟨rfl, hi2, hg2⟩ := hcut
              have I2 := Lib.hid hi2
              have G2 := Lib.hid hg2
              clear hi2 hg2
              go_wp2_with fail
              go_loopw [2, 3, 10, 11, 12] (fun _ _ v10 _ _ wu => ∃ i : Nat, v10 = .int .i64 i ∧ t + 1 ≤ i ∧ i ≤ n ∧ nums (elTo n t last ys i (t + 1)) = true ∧ Ints wu g (elTo n t last ys i (t + 1)) ∧ W.grownBy wu (some g)) (fun _ _ v10 _ _ _ => n - (intOf v10).toNat)
              case atStart => exact ⟨t + 1, by go_num, Nat.le_refl _, by omega, by rw [elTo_start (by rw [HY.out, HN.out])]; exact NY.out, by rw [elTo_start (by rw [HY.out, HN.out])]; exact I2.out, G2.out⟩
              case round =>
                obtain ⟨i, rfl, hi1, hi2, hni, hii, hgi⟩ := hrel
                have NI := Lib.hid hni
                have II := Lib.hid hii
                have GI := Lib.hid hgi
                clear hni hii hgi
                by_cases hin : i < n
                · go_wp2_with fail
                  go_loopw [2, 3, 11, 12] (fun _ _ v11 _ wv => ∃ j : Nat, v11 = .int .i64 j ∧ t + 1 ≤ j ∧ j ≤ n ∧ nums (elTo n t last ys i j) = true ∧ Ints wv g (elTo n t last ys i j) ∧ W.grownBy wv (some g)) (fun _ _ v11 _ _ => n - (intOf v11).toNat)
                  case atStart => exact ⟨t + 1, by go_num, Nat.le_refl _, by omega, NI.out, II.out, GI.out⟩
                  case round =>
                    obtain ⟨j, rfl, hj1, hj2, hnj, hij, hgj⟩ := hrel
                    have NJ := Lib.hid hnj
                    have IJ := Lib.hid hij
                    have GJ := Lib.hid hgj
                    clear hnj hij hgj
                    have R3 := Lib.hid (K3.out.keepOne GJ.out (by omega))
                    have BV := Lib.hid (BA.out.trans (below_of_one GJ.out (by omega) BA.out.size))
                    clear r0 r1 r2
                    obtain ⟨r0, r1, r2, -, -, -⟩ := R3.out.all
                    by_cases hjn : j < n
                    · have ti : t < i := by omega
                      have tj : t < j := by omega
                      have ca : (i : Int) * (n : Int) = ((i * n : Nat) : Int) := (Int.natCast_mul _ _).symm
                      have ja : i * n + j < N := by rw [← HN.out]; exact idx_lt (by omega) (by omega)
                      have da : 0 ≤ (i : Int) * (n : Int) ∧ (i : Int) * (n : Int) ≤ 600 := by rw [ca]; omega
                      have ea0 : 0 ≤ (i : Int) * (n : Int) + (j : Int) := by omega
                      have ea1 : (i : Int) * (n : Int) + (j : Int) < (N : Int) := by rw [ca]; omega
                      have ea2 : ((i : Int) * (n : Int) + (j : Int)).toNat = i * n + j := by rw [ca]; omega
                      obtain ⟨da0, da1⟩ := da
                      have va0 : IntKind.i64.wrap ((i : Int) * (n : Int)) = (i : Int) * (n : Int) := IntWalk.i64_in _ (by omega)
                      have va1 : IntKind.i64.wrap ((i : Int) * (n : Int) + (j : Int)) = (i : Int) * (n : Int) + (j : Int) := IntWalk.i64_in _ (by omega)
                      clear ca
                      have cb : (t : Int) * (n : Int) = ((t * n : Nat) : Int) := (Int.natCast_mul _ _).symm
                      have jb : t * n + t < N := by rw [← HN.out]; exact idx_lt (by omega) (by omega)
                      have db : 0 ≤ (t : Int) * (n : Int) ∧ (t : Int) * (n : Int) ≤ 600 := by rw [cb]; omega
                      have eb0 : 0 ≤ (t : Int) * (n : Int) + (t : Int) := by omega
                      have eb1 : (t : Int) * (n : Int) + (t : Int) < (N : Int) := by rw [cb]; omega
                      have eb2 : ((t : Int) * (n : Int) + (t : Int)).toNat = t * n + t := by rw [cb]; omega
                      obtain ⟨db0, db1⟩ := db
                      have vb0 : IntKind.i64.wrap ((t : Int) * (n : Int)) = (t : Int) * (n : Int) := IntWalk.i64_in _ (by omega)
                      have vb1 : IntKind.i64.wrap ((t : Int) * (n : Int) + (t : Int)) = (t : Int) * (n : Int) + (t : Int) := IntWalk.i64_in _ (by omega)
                      clear cb
                      have cc : (i : Int) * (n : Int) = ((i * n : Nat) : Int) := (Int.natCast_mul _ _).symm
                      have jc : i * n + t < N := by rw [← HN.out]; exact idx_lt (by omega) (by omega)
                      have dc : 0 ≤ (i : Int) * (n : Int) ∧ (i : Int) * (n : Int) ≤ 600 := by rw [cc]; omega
                      have ec0 : 0 ≤ (i : Int) * (n : Int) + (t : Int) := by omega
                      have ec1 : (i : Int) * (n : Int) + (t : Int) < (N : Int) := by rw [cc]; omega
                      have ec2 : ((i : Int) * (n : Int) + (t : Int)).toNat = i * n + t := by rw [cc]; omega
                      obtain ⟨dc0, dc1⟩ := dc
                      have vc0 : IntKind.i64.wrap ((i : Int) * (n : Int)) = (i : Int) * (n : Int) := IntWalk.i64_in _ (by omega)
                      have vc1 : IntKind.i64.wrap ((i : Int) * (n : Int) + (t : Int)) = (i : Int) * (n : Int) + (t : Int) := IntWalk.i64_in _ (by omega)
                      clear cc
                      have cd : (t : Int) * (n : Int) = ((t * n : Nat) : Int) := (Int.natCast_mul _ _).symm
                      have jd : t * n + j < N := by rw [← HN.out]; exact idx_lt (by omega) (by omega)
                      have dd : 0 ≤ (t : Int) * (n : Int) ∧ (t : Int) * (n : Int) ≤ 600 := by rw [cd]; omega
                      have ed0 : 0 ≤ (t : Int) * (n : Int) + (j : Int) := by omega
                      have ed1 : (t : Int) * (n : Int) + (j : Int) < (N : Int) := by rw [cd]; omega
                      have ed2 : ((t : Int) * (n : Int) + (j : Int)).toNat = t * n + j := by rw [cd]; omega
                      obtain ⟨dd0, dd1⟩ := dd
                      have vd0 : IntKind.i64.wrap ((t : Int) * (n : Int)) = (t : Int) * (n : Int) := IntWalk.i64_in _ (by omega)
                      have vd1 : IntKind.i64.wrap ((t : Int) * (n : Int) + (j : Int)) = (t : Int) * (n : Int) + (j : Int) := IntWalk.i64_in _ (by omega)
                      clear cd
                      have hla : (elTo n t last ys i j).length = N := by rw [elTo_length, HN.out]
                      have ha := IJ.out.cell (i := i * n + j) (by rw [hla]; exact ja)
                      have hb := IJ.out.cell (i := t * n + t) (by rw [hla]; exact jb)
                      have hc := IJ.out.cell (i := i * n + t) (by rw [hla]; exact jc)
                      have hd := IJ.out.cell (i := t * n + j) (by rw [hla]; exact jd)
                      rw [elTo_old hin hjn (by omega)] at ha
                      rw [elTo_old hlt hlt (by omega)] at hb
                      rw [elTo_old hin hlt (by omega)] at hc
                      rw [elTo_old hlt hjn (by omega)] at hd
                      have EA : Hid (elAt n t last ys i j = (ys.getD (i * n + j) 0 * ys.getD (t * n + t) 0 - ys.getD (i * n + t) 0 * ys.getD (t * n + j) 0).tdiv last) := rfl
                      have na := nums_at NY.out (j := i * n + j) (by rw [HY.out]; exact ja)
                      have nb := nums_at NY.out (j := t * n + t) (by rw [HY.out]; exact jb)
                      have nc := nums_at NY.out (j := i * n + t) (by rw [HY.out]; exact jc)
                      have nd := nums_at NY.out (j := t * n + j) (by rw [HY.out]; exact jd)
                      generalize ys.getD (i * n + j) 0 = xa at ha na EA
                      generalize hxb : ys.getD (t * n + t) 0 = xb at hb nb EA
                      generalize ys.getD (i * n + t) 0 = xc at hc nc EA
                      generalize ys.getD (t * n + j) 0 = xd at hd nd EA
                      have XB := Lib.hid hxb
                      clear hxb hla
                      have m1 := mul_num _ _ na nb
                      have m2 := mul_num _ _ nc nd
                      have v1 : IntKind.i64.wrap (xa * xb) = xa * xb := IntWalk.i64_in _ (by omega)
                      have v2 : IntKind.i64.wrap (xc * xd) = xc * xd := IntWalk.i64_in _ (by omega)
                      have v3 : IntKind.i64.wrap (xa * xb - xc * xd) = xa * xb - xc * xd := IntWalk.i64_in _ (by omega)
                      have m3 := tdiv_in (x := xa * xb - xc * xd) (y := last) (b := 320000000000000000) (by omega) (by omega)
                      have v4 : IntKind.i64.wrap ((xa * xb - xc * xd).tdiv last) = (xa * xb - xc * xd).tdiv last := IntWalk.i64_in _ (by omega)
                      obtain ⟨y, hy⟩ : ∃ y, elAt n t last ys i j = y := ⟨_, rfl⟩
                      have Y := Lib.hid hy
                      rw [hy] at EA
                      rw [← EA.out] at v4
                      have EB := Lib.hid EA.out.symm
                      have q0 : (xa * xb - xc * xd).tdiv last = y := EB.out
                      have l0 := L0.out
                      have l00 : (last == 0) = false := by simpa using l0
                      clear na nb nc nd m1 m2 m3 hy
                      go_wp2_with fail
                      go_still_tail 41, (by kernel_rfl)
                      go_wp2_with fail
                      refine (sFit y _).mono ?_
                      rintro e w5 ⟨rfl, rfl⟩
                      clear ha hb hc hd r0 r1 r2
                      have ID := Lib.hid IJ.out.drew
                      have GD := Lib.hid (grown_drew_one GJ.out)
                      have RD := Lib.hid R3.out.drew
                      have BD := Lib.hid BV.out.drew
                      have ES := Lib.hid (elTo_step (last := last) (xs := ys) hin hjn ti tj)
                      have hla : (elTo n t last ys i j).length = N := by rw [elTo_length, HN.out]
                      have hold := ID.out.cell (i := i * n + j) (by rw [hla]; exact ja)
                      have hfr := ID.out.free (i * n + j)
                      obtain ⟨r0, r1, r2, -, -, -⟩ := RD.out.all
                      clear hla
                      by_cases hy : NumP y
                      · have NS : Hid (nums (elTo n t last ys i (j + 1)) = true) := by show nums _ = true; rw [← ES.out, Y.out]; exact nums_set NJ.out hy
                        have n4 : (y == -4611686018427387904) = false := by have h := hy; unfold NumP at h; simp; omega
                        rw [show fitB y = y from if_pos hy]
                        clear hy
                        go_wp2_with fail
                        go_roundw
                        case rel =>
                          refine ⟨j + 1, by go_num, by omega, by omega, NS.out, ?_, grown_set_one GD.out rfl _⟩
                          rw [← ES.out, Y.out]
                          exact ID.out.set (i * n + j) y
                        case measure => simp [intOf]; omega
                      · have RZ : Hid (RES = (0, false)) := RB.out (elL_bad hin hjn ti tj (by rw [Y.out]; exact hy))
                        rw [show fitB y = -4611686018427387904 from if_neg hy]
                        clear hy
                        go_wp2_with fail
                        exact bodyPost_ret (v := .tuple #[.int .i64 0, .bool false]) (by simp [results, Try.results26, go_sem]) rfl ⟨by rw [RZ.out], BD.out⟩
                    · have hjn : j = n := by omega
                      rw [hjn] at NJ IJ
                      go_wp2_with fail
                      go_roundw
                      case rel => exact ⟨i + 1, by go_num, by omega, by omega, by rw [← elTo_row]; exact NJ.out, by rw [← elTo_row]; exact IJ.out, GJ.out⟩
                      case measure => simp [intOf]; omega
                · have hie : i = n := by omega
                  rw [hie] at NI II
                  rw [elTo_all] at NI II
                  have RN : Hid (stR2 n k (t + 1) (elL n t last ys) (ys.getD (t * n + t) 0) (s2) = RES) := RO.out NI.out
                  have R3 := Lib.hid (K3.out.keepOne GI.out (by omega))
                  clear r0 r1 r2
                  obtain ⟨r0, r1, r2, -, -, -⟩ := R3.out.all
                  have ce : (t : Int) * (n : Int) = ((t * n : Nat) : Int) := (Int.natCast_mul _ _).symm
                  have je : t * n + t < N := by rw [← HN.out]; exact idx_lt (by omega) (by omega)
                  have de : 0 ≤ (t : Int) * (n : Int) ∧ (t : Int) * (n : Int) ≤ 600 := by rw [ce]; omega
                  have ee0 : 0 ≤ (t : Int) * (n : Int) + (t : Int) := by omega
                  have ee1 : (t : Int) * (n : Int) + (t : Int) < (N : Int) := by rw [ce]; omega
                  have ee2 : ((t : Int) * (n : Int) + (t : Int)).toNat = t * n + t := by rw [ce]; omega
                  obtain ⟨de0, de1⟩ := de
                  have ve0 : IntKind.i64.wrap ((t : Int) * (n : Int)) = (t : Int) * (n : Int) := IntWalk.i64_in _ (by omega)
                  have ve1 : IntKind.i64.wrap ((t : Int) * (n : Int) + (t : Int)) = (t : Int) * (n : Int) + (t : Int) := IntWalk.i64_in _ (by omega)
                  clear ce
                  have ha := II.out.cell (i := t * n + t) (by rw [show (elL n t last ys).length = n * n from tab_length _ _ _, HN.out]; exact je)
                  rw [elL_tt hlt] at ha
                  have nt := nums_at NY.out (j := t * n + t) (by rw [HY.out]; exact je)
                  have NT := Lib.hid nt
                  have t0 := TT.out
                  have T0 := Lib.hid t0
                  clear nt t0
                  go_wp2_with fail
                  go_roundw
                  case rel => exact ⟨t + 1, k, elL n t last ys, ys.getD (t * n + t) 0, s2, by go_num, by omega, rfl, rfl, S2.out, T0.out, NT.out, by rw [show (elL n t last ys).length = n * n from tab_length _ _ _, HN.out], NI.out, RN.out, II.out, GI.out⟩
                  case measure => simp [intOf]; omega
        · have hpe : p = n := by omega
          have R0 : Hid (RES = (0, true)) := by show RES = _; rw [← HR.out]; exact stR2_none ((pivP_eq hp1 hp2 P0.out fun h => absurd h hpn).trans hpe)
          have n1 : decide ((p : Int) < (n : Int)) = false := by simpa using hpn
          have n2 : ((p : Int) == (n : Int)) = true := by simp [hpe]
          clear hpe
          go_wp2_with fail
          exact bodyPost_ret (v := .tuple #[.int .i64 0, .bool true]) (by simp [results, Try.results26, go_sem]) rfl ⟨by rw [R0.out], BW.out⟩
    · have hte : t = n := by omega
      obtain rfl : k = 0 := by omega
      have RF : Hid (RES = (s * last, true)) := HR.out.symm
      have ls := LL.out
      have ss := S.out
      unfold NumP at ls
      have vm : IntKind.i64.wrap (s * last) = s * last := IntWalk.i64_in _ (by rcases ss with rfl | rfl <;> omega)
      clear ls ss hte
      go_wp2_with fail
      exact bodyPost_ret (v := .tuple #[.int .i64 (s * last), .bool true]) (by simp [results, Try.results26, go_sem]) rfl ⟨by rw [RF.out], BW.out⟩
set_option maxHeartbeats 1000000 in
theorem sSteps (r c : Int) (a : Option Addr) (m : Nat) (xs : List Int) (w : World) (h : Rd w a xs) (hn : xs.length ≤ 16777216) (ha : Spot a) :
    Calls Try.prog 26 #[.agg #[.int .i64 r, .int .i64 c, .slice a xs.length m]] w (Gives (.tuple #[.int .i64 (stepsOf r c xs).1, .bool (stepsOf r c xs).2]) w) := by
  rcases Bool.eq_false_or_eq_true (isSq r c xs) with hs | hs
  · obtain ⟨n, rfl, rfl, h6, hl, nx⟩ := isSq_says hs
    have V : stepsOf n n xs = stepsM n xs := by unfold stepsOf; rw [if_pos hs]; rfl
    rw [V]
    exact sSteps_t n a m xs w h ha hl h6 nx hs
  · have V : Hid (stepsOf r c xs = (0, false)) := by show stepsOf r c xs = _; unfold stepsOf; rw [if_neg (by rw [hs]; decide)]
    have H := Lib.hid h
    have HN := Lib.hid hn
    have B0 : Hid (∀ o1, Below w.heap.size w (w.alloc o1)) := fun o1 => (Below.refl _ _).alloc (Nat.le_refl _) _
    have SQ : Hid (∀ w', Below w.heap.size w w' → Calls Try.prog 16 #[.agg #[.int .i64 r, .int .i64 c, .slice a xs.length m]] w' (Gives (.bool false) w')) := fun w' hb => by
      have := sIsSq r c a m xs w' (H.out.below hb) HN.out
      rw [hs] at this
      exact this
    clear hs h hn
    generalize xs.length = l at SQ ⊢
    go_enter Try.func26, Try.ntmps26
    go_wp2_with fail
    refine (SQ.out _ (B0.out _)).mono ?_
    rintro e w1 ⟨rfl, hb⟩
    have B : Hid (Below w.heap.size w w1) := (B0.out _).trans (hb.mono (by simp))
    clear hb
    go_wp2_with fail
    exact bodyPost_ret (v := .tuple #[.int .i64 0, .bool false]) (by simp [results, Try.results26, go_sem]) rfl ⟨by rw [V.out], B.out⟩
end Go.Proofs.Ytdnajkoeojlnbaa
end

section
/-
  Plain mathematics of chapter 6: what FnDeterminants asks. Nothing of a program is used.
-/
namespace Go.Proofs.Ytdnajkoeojlnbaa

/-- The product with a matrix of determinant 1. -/
theorem mix_det {r c rM cM d g : Int} {xs zM : List Int} {m : MR} (hp : MixP r rM cM zM) (hm : mulM rM cM zM r c xs = m) (ho : m.ok = true) (h1 : (detOf r c xs).1 = d) (h2 : (detOf r c xs).2 = true) (c1 : (detOf m.r m.c m.zs).1 = g) (c2 : (detOf m.r m.c m.zs).2 = true) : d = g := by
  obtain ⟨n, rfl, rfl, -, -, -, -, -, ed⟩ := detOf_says h1 h2
  obtain ⟨R, K, C, e1, e2, e3, e4, -, -, e⟩ := mulM_says (by rw [hm]; exact ho)
  obtain rfl : n = K := by omega
  obtain rfl : n = C := by omega
  rcases hp with ⟨p1, -, -, -, -, pd⟩ | ⟨p1, p2, -, p3⟩
  · obtain rfl : n = R := by omega
    rw [hm] at e
    subst e
    obtain ⟨p, q1, -, -, -, -, -, -, ec⟩ := detOf_says c1 c2
    have q1 : rM = (p : Int) := q1
    obtain rfl : n = p := by omega
    have pd : det n (mxL n zM) = 1 := pd
    rw [ed, ec]
    show _ = det n (mxL n (mulL n n n zM xs))
    rw [det_congr (mxL_mul n zM xs), det_mul, pd, Int.one_mul]
  · omega
theorem steps_law {r c d e : Int} {xs : List Int} (h1 : (detOf r c xs).1 = d) (h2 : (detOf r c xs).2 = true) (s1 : (stepsOf r c xs).1 = e) (s2 : (stepsOf r c xs).2 = true) : d = e :=
  steps_says h1 h2 (by show stepsOf r c xs = (e, true); exact Prod.ext s1 s2)
theorem sq_no {r c : Int} {xs : List Int} (h : isSq r c xs = false) : detOf r c xs = (0, false) ∧ stepsOf r c xs = (0, false) := by
  unfold detOf stepsOf
  rw [if_neg (by rw [h]; decide), if_neg (by rw [h]; decide)]
  exact ⟨rfl, rfl⟩
theorem sq_range {r c : Int} {xs : List Int} (h : isSq r c xs = true) : 0 ≤ r ∧ r ≤ 6 := by
  obtain ⟨n, rfl, -, h6, -, -⟩ := isSq_says h
  omega
end Go.Proofs.Ytdnajkoeojlnbaa
end

section
/-
  Chapter 3, in the program: a fold whose closure writes into its value (TransposeOf).
-/
namespace Go.Proofs.Ytdnajkoeojlnbaa
set_option maxRecDepth 100000
open Go.RowKit

set_option maxRecDepth 100000 in
set_option maxHeartbeats 1000000 in
theorem iFoldT (pb R C n : Nat) (a : Option Addr) (cap : Nat) (zs : List Int) (g m mc : Nat) (L : Nat → List Int) (w : World) (hx : zs.length = n) (h : Rd w a zs) (hn : n = R * C) (hR : R ≤ 24) (hC : C ≤ 24) (hg : Ints w g (L 0)) (hz : ∀ b o : Nat, a = some ⟨b, o, none⟩ → 0 < n → b ≠ g)
    (step : ∀ (k : Nat) (w1 : World), k < n → w.grownBy w1 (some g) → Ints w1 g (L k) → Calls Try.prog 95 #[.slice (some ⟨g, 0, none⟩) m mc, .int .i64 ((k : Int) / (C : Int)), .int .i64 ((k : Int) % (C : Int)), .int .i64 (zs.getD k 0), .pointer (some ⟨pb, 0, none⟩)] w1
      (fun e w2 => e = .returned (.slice (some ⟨g, 0, none⟩) m mc) ∧ Ints w2 g (L (k + 1)) ∧ w1.grownBy w2 (some g))) :
    Calls Try.prog 62 #[.agg #[.int .i64 R, .int .i64 C, .slice a n cap], .slice (some ⟨g, 0, none⟩) m mc, .func (.func 95) #[] #[.pointer (some ⟨pb, 0, none⟩)]] w
      (fun e w' => e = .returned (.slice (some ⟨g, 0, none⟩) m mc) ∧ Ints w' g (L n) ∧ w.grownBy w' (some g)) := by
  have H := Lib.hid h
  have ST := Lib.hid step
  have HZ := Lib.hid hz
  have hle : R * C ≤ 24 * 24 := Nat.mul_le_mul hR hC
  have HN := Lib.hid hx
  rw [← hn] at hle
  have HM := Lib.hid hn
  have gw : w.grownBy (w.alloc (.cells #[.int .i64 R, .int .i64 C, .slice a n cap] 27)) (some g) := World.grownBy_alloc w _ _
  have G0 := Lib.hid gw
  have I0 := Lib.hid (hg.old (.cells #[.int .i64 R, .int .i64 C, .slice a n cap] 27))
  have K0 : Hid (Blk3 (w.alloc (.cells #[.int .i64 R, .int .i64 C, .slice a n cap] 27)) w.heap.size 27 (.int .i64 R) (.int .i64 C) (.slice a n cap)) := Blk3.at_ _ _ _ _ rfl
  have lg := hg.lt
  clear h step hz hx hn gw hg
  go_enter Try.func62, Try.ntmps62
  go_wp2_with fail
  go_loopw [7, 8, 9, 14] (fun v _ _ i wr => ∃ k : Nat, i = .int .i64 k ∧ k ≤ n ∧ v = .slice (some ⟨g, 0, none⟩) m mc ∧ Ints wr g (L k) ∧ (w.alloc (.cells #[.int .i64 R, .int .i64 C, .slice a n cap] 27)).grownBy wr (some g)) (fun _ _ _ i _ => n - (intOf i).toNat)
  case atStart => exact ⟨0, rfl, by omega, rfl, I0.out, World.grownBy.refl _ _⟩
  case round =>
    obtain ⟨k, rfl, hk, rfl, hi, hgr⟩ := hrel
    have I := Lib.hid hi
    have G := Lib.hid hgr
    have GW := Lib.hid (G0.out.trans hgr)
    clear hi hgr
    have R0 := Lib.hid (K0.out.keepOne G.out (by omega))
    by_cases hlt : k < n
    · have hC0 : 0 < C := by
        rcases Nat.eq_zero_or_pos C with e | e
        · have := HM.out; rw [e, Nat.mul_zero] at this; omega
        · exact e
      have c0 : ((C : Int) == 0) = false := by simp; omega
      obtain ⟨b, o, rfl, hcell⟩ := H.out k (by rw [HN.out]; exact hlt)
      have u1 := World.block_lt_of_cell? w _ hcell
      have hb : b ≠ g := HZ.out b o rfl (by omega)
      have hcell := GW.out.cell hcell (by simpa using hb)
      have d1 : (k : Int) / (C : Int) = ((k / C : Nat) : Int) := (Int.natCast_ediv k C).symm
      have d2 : (k : Int) % (C : Int) = ((k % C : Nat) : Int) := (Int.natCast_emod k C).symm
      have d3 : k / C ≤ k := Nat.div_le_self k C
      have d4 : k % C ≤ k := Nat.mod_le k C
      have d5 : 0 ≤ (k : Int) / (C : Int) := by rw [d1]; exact Int.natCast_nonneg _
      have d6 : (k : Int) / (C : Int) ≤ 600 := by rw [d1]; exact Int.ofNat_le.mpr (show k / C ≤ 600 by omega)
      have c1 : ¬ C = 0 := by omega
      have w1 : IntKind.i64.wrap ((k : Int) / (C : Int)) = (k : Int) / (C : Int) := IntWalk.i64_in _ (by omega)
      have e2 : Int.tmod (k : Int) (C : Int) = (k : Int) % (C : Int) := Int.tmod_eq_emod_of_nonneg (by omega)
      have e3 : Int.tdiv (k : Int) (C : Int) = (k : Int) / (C : Int) := Int.tdiv_eq_ediv_of_nonneg (by omega)
      clear d1 d2
      obtain ⟨z, hz⟩ : ∃ z, zs.getD k 0 = z := ⟨_, rfl⟩
      rw [hz] at hcell
      have Z := Lib.hid hz
      clear hz u1
      obtain ⟨r0, r1, r2, -, -, -⟩ := R0.out.all
      go_wp2_with fail
      go_still_tail 11, (by kernel_rfl)
      go_wp2_with fail
      rw [← Z.out]
      refine (ST.out k _ hlt (grown_drew_one GW.out) I.out.drew).mono ?_
      rintro e w2 ⟨rfl, hi2, hg2⟩
      have I2 := Lib.hid hi2
      have G2 := Lib.hid ((grown_drew_one G.out).trans hg2)
      clear hi2 hg2
      go_wp2_with fail
      go_roundw
      case rel => exact ⟨k + 1, by go_num, by omega, rfl, I2.out, G2.out⟩
      case measure => simp [intOf]; omega
    · obtain rfl : n = k := by omega
      go_wp2_with fail
      go_ret
      exact ⟨rfl, I.out, GW.out⟩
end Go.Proofs.Ytdnajkoeojlnbaa
end

section
/-
  Chapter 3, in the program: TransposeOf.
-/
namespace Go.Proofs.Ytdnajkoeojlnbaa
set_option maxRecDepth 100000
open Go.RowKit

/-- What the first k cells give of the matrix turned over. -/
def turnTo (R C : Nat) (xs : List Int) (k : Nat) : List Int := tab C R fun j i => if i * C + j < k then xs.getD (i * C + j) 0 else 0
theorem turnTo_length (R C : Nat) (xs : List Int) (k : Nat) : (turnTo R C xs k).length = C * R := tab_length _ _ _
theorem turnTo_zero (R C : Nat) (xs : List Int) : turnTo R C xs 0 = List.replicate (C * R) 0 := by
  apply List.ext_getElem (by simp [turnTo, tab])
  intro i h1 h2
  simp [turnTo, tab]
theorem turnTo_all (R C : Nat) (xs : List Int) : turnTo R C xs (R * C) = turnL R C xs := by
  refine tab_ext (turnTo_length _ _ _ _) fun j i hj hi => ?_
  unfold turnTo
  rw [tab_at C R _ hj hi, if_pos (idx_lt hi hj)]
theorem turnTo_step (R C : Nat) (xs : List Int) {i j : Nat} (hi : i < R) (hj : j < C) : (turnTo R C xs (i * C + j)).set (j * R + i) (xs.getD (i * C + j) 0) = turnTo R C xs (i * C + j + 1) := by
  refine (tab_ext (by rw [List.length_set, turnTo_length]) fun j' i' hj' hi' => ?_)
  rw [getD_set _ _ _ _ (by rw [turnTo_length]; exact idx_lt hj hi)]
  by_cases e : j' * R + i' = j * R + i
  · obtain ⟨rfl, rfl⟩ := idx_inj hi' hi e
    rw [if_pos e, if_pos (by omega)]
  · rw [if_neg e]
    unfold turnTo
    rw [tab_at C R _ hj' hi']
    by_cases h1 : i' * C + j' < i * C + j
    · rw [if_pos h1, if_pos (by omega)]
    · rw [if_neg h1]
      by_cases h2 : i' * C + j' < i * C + j + 1
      · exfalso
        have h3 : i' * C + j' = i * C + j := by omega
        obtain ⟨rfl, rfl⟩ := idx_inj hj' hj h3
        exact e rfl
      · rw [if_neg h2]

set_option maxHeartbeats 400000 in
theorem iTurnStep (pb R : Nat) (c v : Value) (g m mc i j : Nat) (z : Int) (L : List Int) (w : World) (hp : Blk3 w pb 27 (.int .i64 R) c v) (hI : Ints w g L) (hm : j * R + i < m) (hl : m = L.length) (hb : m ≤ 600) :
    Calls Try.prog 95 #[.slice (some ⟨g, 0, none⟩) m mc, .int .i64 (i : Int), .int .i64 (j : Int), .int .i64 z, .pointer (some ⟨pb, 0, none⟩)] w
      (fun e w2 => e = .returned (.slice (some ⟨g, 0, none⟩) m mc) ∧ Ints w2 g (L.set (j * R + i) z) ∧ w.grownBy w2 (some g)) := by
  have c1 : (j : Int) * (R : Int) = ((j * R : Nat) : Int) := (Int.natCast_mul _ _).symm
  have d1 : 0 ≤ (j : Int) * (R : Int) ∧ (j : Int) * (R : Int) ≤ 600 := by rw [c1]; omega
  have e1 : 0 ≤ (j : Int) * (R : Int) + (i : Int) := by omega
  have e2 : (j : Int) * (R : Int) + (i : Int) < (m : Int) := by rw [c1]; omega
  have e3 : ((j : Int) * (R : Int) + (i : Int)).toNat = j * R + i := by rw [c1]; omega
  obtain ⟨d11, d12⟩ := d1
  have e4 : (j : Int) * (R : Int) + (i : Int) ≤ 600 := by omega
  have v1 : IntKind.i64.wrap ((j : Int) * (R : Int)) = (j : Int) * (R : Int) := IntWalk.i64_in _ (by omega)
  have v2 : IntKind.i64.wrap ((j : Int) * (R : Int) + (i : Int)) = (j : Int) * (R : Int) + (i : Int) := IntWalk.i64_in _ (by omega)
  have hold := hI.cell (i := j * R + i) (by omega)
  have hfr := hI.free (j * R + i)
  obtain ⟨p0, p1, p2, -, -, -⟩ := hp.all
  have I := Lib.hid hI
  clear c1 hI hp
  go_enter Try.func95, Try.ntmps95
  go_wp2_with fail
  go_ret
  refine ⟨rfl, ?_, ?_⟩
  · first | exact I.out.set _ _ | exact I.out.drew.set _ _
  · first | exact grown_set_one (World.grownBy.refl _ _) rfl _ | exact grown_drew_one (grown_set_one (World.grownBy.refl _ _) rfl _)

theorem turnStepOf (pb R C n g : Nat) (xs : List Int) (w : World) {c v : Value} (hp : Blk3 w pb 27 (.int .i64 R) c v) (hn : n = R * C) (hne : pb ≠ g) (hle : n ≤ 576) :
    ∀ (k : Nat) (w1 : World), k < n → w.grownBy w1 (some g) → Ints w1 g (turnTo R C xs k) → Calls Try.prog 95 #[.slice (some ⟨g, 0, none⟩) n n, .int .i64 ((k : Int) / (C : Int)), .int .i64 ((k : Int) % (C : Int)), .int .i64 (xs.getD k 0), .pointer (some ⟨pb, 0, none⟩)] w1
      (fun e w2 => e = .returned (.slice (some ⟨g, 0, none⟩) n n) ∧ Ints w2 g (turnTo R C xs (k + 1)) ∧ w1.grownBy w2 (some g)) := by
  intro k w1 hk hg hI
  have hC : 0 < C := by
    rcases Nat.eq_zero_or_pos C with e | e
    · rw [e, Nat.mul_zero] at hn; omega
    · exact e
  have e1 : k / C * C + k % C = k := by rw [Nat.mul_comm]; exact Nat.div_add_mod k C
  have hj : k % C < C := Nat.mod_lt k hC
  have hi : k / C < R := Nat.div_lt_of_lt_mul (by rw [Nat.mul_comm, ← hn]; exact hk)
  have st := turnTo_step R C xs hi hj
  rw [e1] at st
  rw [← Int.natCast_ediv, ← Int.natCast_emod]
  refine (iTurnStep pb R c v g n n (k / C) (k % C) (xs.getD k 0) _ w1 (hp.keepOne hg hne) hI (by rw [hn, Nat.mul_comm R C]; exact idx_lt hj hi) (by rw [turnTo_length, hn, Nat.mul_comm]) (by omega)).mono ?_
  rintro e w2 ⟨h1, h2, h3⟩
  rw [st] at h2
  exact ⟨h1, h2, h3⟩

set_option maxHeartbeats 1000000 in
theorem iTurn_t (R C : Nat) (a : Option Addr) (m : Nat) (xs : List Int) (w : World) (h : Rd w a xs) (hn : xs.length ≤ 16777216) (hm : isMat R C xs = true) :
    Calls Try.prog 45 #[.agg #[.int .i64 R, .int .i64 C, .slice a xs.length m]] w (MatRes ⟨true, C, R, turnL R C xs⟩ w) := by
  obtain ⟨⟨r1, r2⟩, ⟨c1, c2⟩, l1, -⟩ := isMat_says hm
  rw [← Int.natCast_mul] at l1
  have hle : C * R ≤ 24 * 24 := Nat.mul_le_mul (by omega) (by omega)
  have hCR : C * R = R * C := Nat.mul_comm _ _
  have hl1 : xs.length = R * C := by omega
  obtain ⟨N, hN⟩ : ∃ N, xs.length = N := ⟨_, rfl⟩
  have hle2 : N ≤ 576 := by omega
  have HX := Lib.hid hN
  have HRC : Hid (N = R * C) := hN.symm.trans hl1
  have hmk := makeInts N (by omega)
  have M := Lib.hid hm
  have hR : R ≤ 24 := by omega
  have hC : C ≤ 24 := by omega
  rw [hN] at hn ⊢
  clear l1 hl1 hm hle hCR hN
  have B0 : ∀ o1 o2, Below w.heap.size w ((w.alloc o1).alloc o2) := fun o1 o2 => ((Below.refl _ _).alloc (Nat.le_refl _) _).alloc (by simp) _
  have BH := Lib.hid B0
  have H := Lib.hid h
  clear B0 h
  go_enter Try.func45, Try.ntmps45
  go_wp2_with fail
  have ST := iIsMat R C a m xs _ (H.out.below (BH.out (.cells #[.int .i64 R, .int .i64 C, .slice a N m] 27) (.cells #[.int .i64 0, .int .i64 0, .slice none 0 0] 27))) (by rw [HX.out]; omega)
  rw [HX.out] at ST
  refine ST.mono ?_
  clear ST
  rintro e w1 ⟨rfl, hb⟩
  have K0 : Hid (Blk3 w1 w.heap.size 27 (.int .i64 R) (.int .i64 C) (.slice a N m)) := ((Blk3.at_ _ _ _ _ rfl).old _).keep hb (by simp <;> omega)
  have K2 : Hid (Blk3 w1 (w.heap.size + 1) 27 (.int .i64 0) (.int .i64 0) (.slice none 0 0)) := (Blk3.at_ _ _ _ _ (by simp)).keep hb (by simp)
  have B : Hid (Below w.heap.size w w1) := (BH.out _ _).trans (hb.mono (by simp <;> omega))
  clear hb
  obtain ⟨ca0, ca1, ca2, -, -, -⟩ := K0.out.all
  obtain ⟨cc0, cc1, cc2, ff0, ff1, ff2⟩ := K2.out.all
  rw [M.out]
  go_upto_region 3 with fail
  refine wp_region_held_drew (S := fun w' => Below w1.heap.size w1 w') (by kernel_rfl) (Below.refl _ _).drew (fun hH => ?_)
  refine wpAnyH_take (i := 0) (v := ?_) (by simp only [List.getElem?_toArray, List.getElem?_cons_zero]; rfl) (by kernel_rfl) (by kernel_rfl) (by kernel_rfl) (by exact fun _ _ _ h => h) (Or.inl ⟨by rfl, ?_⟩) hH ?_
  rotate_left
  · (intro wS hS; (try dsimp only at hS); obtain ⟨k1, k2, k3⟩ := seven K0.out hS; go_simp; try rfl)
  try simp only [Act.put, List.setIfInBounds_toArray, List.set_cons_zero, List.set_cons_succ]
  refine wpAnyH_take (i := 1) (v := ?_) (by simp only [List.getElem?_toArray, List.getElem?_cons_succ, List.getElem?_cons_zero]; rfl) (by kernel_rfl) (by kernel_rfl) (by kernel_rfl) (by exact fun _ _ _ h => h) (Or.inl ⟨by rfl, ?_⟩) hH ?_
  rotate_left
  · (intro wS hS; (try dsimp only at hS); obtain ⟨k1, k2, k3⟩ := seven K0.out hS; go_simp; try rfl)
  try simp only [Act.put, List.setIfInBounds_toArray, List.set_cons_zero, List.set_cons_succ]
  refine wpAnyH_take (i := 2) (v := ?_) (by simp only [List.getElem?_toArray, List.getElem?_cons_succ, List.getElem?_cons_zero]; rfl) (by kernel_rfl) (by kernel_rfl) (by kernel_rfl) (by exact fun _ _ _ h => h) (Or.inl ⟨by rfl, ?_⟩) hH ?_
  rotate_left
  · (intro wS hS; (try dsimp only at hS); obtain ⟨k1, k2, k3⟩ := seven K0.out hS; go_simp; try rfl)
  try simp only [Act.put, List.setIfInBounds_toArray, List.set_cons_zero, List.set_cons_succ]
  refine wpAnyH_take (i := 3) (v := ?_) (by simp only [List.getElem?_toArray, List.getElem?_cons_succ, List.getElem?_cons_zero]; rfl) (by kernel_rfl) (by kernel_rfl) (by kernel_rfl) (by exact fun _ _ _ h => h) (Or.inl ⟨by rfl, ?_⟩) hH ?_
  rotate_left
  · (intro wS hS; clear hS; go_simp; try rfl)
  try simp only [Act.put, List.setIfInBounds_toArray, List.set_cons_zero, List.set_cons_succ]
  refine wpAnyH_take (i := 5) (v := ?_) (by simp only [List.getElem?_toArray, List.getElem?_cons_succ, List.getElem?_cons_zero]; rfl) (by kernel_rfl) (by kernel_rfl) (by kernel_rfl) (by exact fun _ _ _ h => h) (Or.inl ⟨by rfl, ?_⟩) hH ?_
  rotate_left
  · (intro wS hS; clear hS; go_simp; try rfl)
  try simp only [Act.put, List.setIfInBounds_toArray, List.set_cons_zero, List.set_cons_succ]
  refine wpAnyH_ready (rs := [4]) (by kernel_rfl) (by simp) ?_
  refine AllReadyH.cons (by simp only [List.getElem?_toArray, List.getElem?_cons_succ, List.getElem?_cons_zero]; rfl) (fun K hK => ?_) AllReadyH.nil
  go_simp
  have I0 : Hid (Ints (w1.alloc (.cells (madeCells #[.int .i64 0] N) 3)) w1.heap.size (List.replicate N 0)) := Ints.made N rfl
  try dsimp only
  refine hK.out _ _ ?_ (fun hH2 => ?_)
  · exact hH.alloc hH.size _
  clear hK K
  have hO := hH
  clear hH
  have hH := hH2
  clear hH2
  try simp only [Act.put, List.setIfInBounds_toArray, List.set_cons_zero, List.set_cons_succ]
  refine wpAnyH_ready (rs := [6]) (by kernel_rfl) (by simp) ?_
  refine AllReadyH.cons (by simp only [List.getElem?_toArray, List.getElem?_cons_succ, List.getElem?_cons_zero]; rfl) (fun K hK => ?_) AllReadyH.nil
  go_simp
  refine (iFoldT w.heap.size R C N a m xs w1.heap.size N N (turnTo R C xs) _ HX.out (H.out.below (B.out.trans (hH.mono B.out.size))) HRC.out hR hC (by rw [turnTo_zero, Nat.mul_comm, ← HRC.out]; first | exact I0.out | exact I0.out.drew) (far_of (H.out.below B.out) HX.out) (turnStepOf w.heap.size R C N w1.heap.size xs _ (K0.out.keep hH K0.out.lt) HRC.out (Nat.ne_of_lt K0.out.lt) hle2)).mono ?_
  rintro e v1 ⟨rfl, hi, hg⟩
  have I2 := Lib.hid hi
  clear hi
  try dsimp only
  refine hK.out _ _ ?_ (fun hH2 => ?_)
  · exact hH.trans (below_of_one hg (Nat.le_refl _) hH.size)
  clear hK K
  have hO := hH
  clear hH
  have hH := hH2
  clear hH2
  try simp only [Act.put, List.setIfInBounds_toArray, List.set_cons_zero, List.set_cons_succ]
  refine wpAnyH_take (i := 7) (v := ?_) (by simp only [List.getElem?_toArray, List.getElem?_cons_succ, List.getElem?_cons_zero]; rfl) (by kernel_rfl) (by kernel_rfl) (by kernel_rfl) (by exact fun _ _ _ h => h) (Or.inl ⟨by rfl, ?_⟩) hH ?_
  rotate_left
  · (intro wS hS; clear hS; go_simp; try rfl)
  try simp only [Act.put, List.setIfInBounds_toArray, List.set_cons_zero, List.set_cons_succ]
  refine wpAnyH_done (by kernel_rfl) ?_ _
  have hb := hH
  clear hH hO hg
  have EQ : turnTo R C xs N = turnL R C xs := by rw [HRC.out]; exact turnTo_all R C xs
  rw [EQ] at I2
  have HL : Hid ((turnL R C xs).length = N) := by show (turnL R C xs).length = N; unfold turnL; rw [tab_length, HRC.out, Nat.mul_comm]
  have gl := K2.out.lt
  have K0 := Lib.hid (K0.out.step hb)
  have K2 := Lib.hid (K2.out.step hb)
  have B := Lib.hid (stepB B.out hb)
  clear hb EQ
  obtain ⟨r0, r1, r2, -, -, -⟩ := K0.out.all
  obtain ⟨s0, s1, s2, t0, t1, t2⟩ := K2.out.all
  go_wp2_with fail
  obtain ⟨E0, E1, E2, -, -, -⟩ := (((K2.out.set0 (.int .i64 C)).set1 (.int .i64 R)).set2 (.slice (some ⟨w1.heap.size, 0, none⟩) N N)).all
  refine bodyPost_ret (v := .tuple #[.agg #[.int .i64 C, .int .i64 R, .slice (some ⟨w1.heap.size, 0, none⟩) N N], .bool true]) (by simp [results, Try.results45, go_sem, E0, E1, E2]) rfl ⟨_, rfl, ?_, ?_⟩
  · refine .inr ⟨w1.heap.size, N, by rw [HL.out], by omega, ?_, by rw [HL.out]; omega, by rw [HL.out]; omega⟩
    exact ((I2.out.far (by show w1.heap.size ≠ w.heap.size + 1; omega) _).far (by show w1.heap.size ≠ w.heap.size + 1; omega) _).far (by show w1.heap.size ≠ w.heap.size + 1; omega) _
  · exact ((B.out.setCell (Nat.le_succ _) _).setCell (Nat.le_succ _) _).setCell (Nat.le_succ _) _
theorem iTransp (r c : Int) (a : Option Addr) (m : Nat) (xs : List Int) (w : World) (h : Rd w a xs) (hn : xs.length ≤ 16777216) :
    Calls Try.prog 45 #[.agg #[.int .i64 r, .int .i64 c, .slice a xs.length m]] w (MatRes (turnM r c xs) w) := by
  rcases Bool.eq_false_or_eq_true (isMat r c xs) with hm | hm
  · obtain ⟨⟨r1, r2⟩, ⟨c1, c2⟩, -, -⟩ := isMat_says hm
    obtain ⟨R, rfl⟩ := Int.eq_ofNat_of_zero_le r1
    obtain ⟨C, rfl⟩ := Int.eq_ofNat_of_zero_le c1
    have E : turnM R C xs = ⟨true, C, R, turnL R C xs⟩ := by unfold turnM; rw [hm]; simp
    rw [E]
    exact iTurn_t R C a m xs w h hn hm
  · have E : Hid (turnM r c xs = MR.no) := by show turnM r c xs = _; unfold turnM; rw [hm]; rfl
    have M := Lib.hid hm
    clear hm
    have B0 : ∀ o1 o2, Below w.heap.size w ((w.alloc o1).alloc o2) := fun o1 o2 => ((Below.refl _ _).alloc (Nat.le_refl _) _).alloc (by simp) _
    have BH := Lib.hid B0
    have H := Lib.hid h
    clear B0 h
    go_enter Try.func45, Try.ntmps45
    go_wp2_with fail
    refine (iIsMat r c a m xs _ (H.out.below (BH.out (.cells #[.int .i64 r, .int .i64 c, .slice a xs.length m] 27) (.cells #[.int .i64 0, .int .i64 0, .slice none 0 0] 27))) hn).mono ?_
    rintro e w1 ⟨rfl, hb⟩
    have K0 : Hid (Blk3 w1 w.heap.size 27 (.int .i64 r) (.int .i64 c) (.slice a xs.length m)) := ((Blk3.at_ _ _ _ _ rfl).old _).keep hb (by simp <;> omega)
    have K2 : Hid (Blk3 w1 (w.heap.size + 1) 27 (.int .i64 0) (.int .i64 0) (.slice none 0 0)) := (Blk3.at_ _ _ _ _ (by simp)).keep hb (by simp)
    have B : Hid (Below w.heap.size w w1) := (BH.out _ _).trans (hb.mono (by simp <;> omega))
    clear hb
    obtain ⟨ca0, ca1, ca2, -, -, -⟩ := K0.out.all
    obtain ⟨cc0, cc1, cc2, ff0, ff1, ff2⟩ := K2.out.all
    rw [M.out]
    go_wp2_with fail
    obtain ⟨E0, E1, E2, -, -, -⟩ := (((K2.out.set0 (.int .i64 0)).set1 (.int .i64 0)).set2 (.slice none 0 0)).all
    rw [E.out]
    exact bodyPost_ret (v := .tuple #[.agg #[.int .i64 0, .int .i64 0, .slice none 0 0], .bool false]) (by simp [results, Try.results45, go_sem, E0, E1, E2]) rfl ⟨_, rfl, .inl ⟨rfl, rfl⟩, ((B.out.setCell (Nat.le_succ _) _).setCell (Nat.le_succ _) _).setCell (Nat.le_succ _) _⟩

end Go.Proofs.Ytdnajkoeojlnbaa
end

section
/-
  Chapter 6, in the program: the pivot's row, rows swapped in place.
-/
namespace Go.Proofs.Ytdnajkoeojlnbaa
set_option maxRecDepth 100000
open Go.RowKit

/-- What pivotRow answers. -/
def pvI (n t : Nat) (zs : List Int) : Int := if pivP n t zs = n then -1 else (pivP n t zs : Int)
set_option maxHeartbeats 1000000 in
theorem iPivot (n t N cap g : Nat) (zs : List Int) (w : World) (hN : n * n = N) (hz : zs.length = N) (ht : t < n) (h6 : n ≤ 6) (hi : Ints w g zs) :
    Calls Try.prog 74 #[.agg #[.int .i64 n, .int .i64 n, .slice (some ⟨g, 0, none⟩) N cap], .int .i64 t, .int .i64 t] w (Gives (.int .i64 (pvI n t zs)) w) := by
  have hle : n * n ≤ 6 * 6 := Nat.mul_le_mul h6 h6
  rw [hN] at hle
  have HN := Lib.hid hN
  have HZ := Lib.hid hz
  have BW : Hid (Below w.heap.size w (w.alloc (.cells #[.int .i64 n, .int .i64 n, .slice (some ⟨g, 0, none⟩) N cap] 27))) := (Below.refl _ _).alloc (Nat.le_refl _) _
  have K0 : Hid (Blk3 (w.alloc (.cells #[.int .i64 n, .int .i64 n, .slice (some ⟨g, 0, none⟩) N cap] 27)) w.heap.size 27 (.int .i64 n) (.int .i64 n) (.slice (some ⟨g, 0, none⟩) N cap)) := Blk3.at_ _ _ _ _ rfl
  have I := Lib.hid (hi.old (.cells #[.int .i64 n, .int .i64 n, .slice (some ⟨g, 0, none⟩) N cap] 27))
  clear hN hz hi
  go_enter Try.func74, Try.ntmps74
  go_wp2_with fail
  generalize w.alloc (.cells #[.int .i64 n, .int .i64 n, .slice (some ⟨g, 0, none⟩) N cap] 27) = W at BW K0 I
  obtain ⟨p0, p1, p2, -, -, -⟩ := K0.out.all
  go_loopw [6, 7] (fun _ v7 wq => ∃ p : Nat, v7 = .int .i64 p ∧ t ≤ p ∧ p ≤ n ∧ (∀ r, t ≤ r → r < p → zs.getD (r * n + t) 0 = 0) ∧ wq = W) (fun _ v7 _ => n - (intOf v7).toNat)
  case atStart => exact ⟨t, rfl, Nat.le_refl _, by omega, fun r h1 h2 => by omega, rfl⟩
  case round =>
    obtain ⟨p, rfl, hp1, hp2, hp0, rfl⟩ := hrel
    have P0 := Lib.hid hp0
    clear hp0
    by_cases hpn : p < n
    · have cp : (p : Int) * (n : Int) = ((p * n : Nat) : Int) := (Int.natCast_mul _ _).symm
      have jp : p * n + t < N := by rw [← HN.out]; exact idx_lt (by omega) (by omega)
      have dp : 0 ≤ (p : Int) * (n : Int) ∧ (p : Int) * (n : Int) ≤ 600 := by rw [cp]; omega
      have ep0 : 0 ≤ (p : Int) * (n : Int) + (t : Int) := by omega
      have ep1 : (p : Int) * (n : Int) + (t : Int) < (N : Int) := by rw [cp]; omega
      have ep2 : ((p : Int) * (n : Int) + (t : Int)).toNat = p * n + t := by rw [cp]; omega
      obtain ⟨dp0, dp1⟩ := dp
      have vp0 : IntKind.i64.wrap ((p : Int) * (n : Int)) = (p : Int) * (n : Int) := IntWalk.i64_in _ (by omega)
      have vp1 : IntKind.i64.wrap ((p : Int) * (n : Int) + (t : Int)) = (p : Int) * (n : Int) + (t : Int) := IntWalk.i64_in _ (by omega)
      clear cp
      have hc := I.out.cell (i := p * n + t) (by rw [HZ.out]; exact jp)
      obtain ⟨x, hxx⟩ : ∃ x, zs.getD (p * n + t) 0 = x := ⟨_, rfl⟩
      have X := Lib.hid hxx
      rw [hxx] at hc
      clear hxx
      by_cases h0 : x = 0
      · have n1 : (x != 0) = false := by simp [h0]
        have n2 : (x == 0) = true := by simp [h0]
        have P1 : Hid (∀ r, t ≤ r → r < p + 1 → zs.getD (r * n + t) 0 = 0) := fun r h1 h2 => by
          rcases Nat.lt_or_ge r p with h3 | h3
          · exact P0.out r h1 h3
          · obtain rfl : r = p := by omega
            rw [X.out, h0]
        clear h0
        go_wp2_with fail
        go_roundw
        case rel => exact ⟨p + 1, by go_num, by omega, by omega, P1.out, trivial⟩
        case measure => simp [intOf]; omega
      · have n1 : (x != 0) = true := by simpa using h0
        have n2 : (x == 0) = false := by simpa using h0
        have PV : Hid (pvI n t zs = p) := by
          have e : pivP n t zs = p := pivP_eq hp1 hp2 P0.out fun _ => by rw [X.out]; exact h0
          show pvI n t zs = p
          unfold pvI
          rw [e, if_neg (by omega)]
        clear h0
        go_wp2_with fail
        go_ret
        exact ⟨by rw [PV.out]; rfl, BW.out⟩
    · have hpe : p = n := by omega
      have PV : Hid (pvI n t zs = -1) := by
        show pvI n t zs = -1
        unfold pvI
        rw [if_pos ((pivP_eq hp1 hp2 P0.out fun h => absurd h hpn).trans hpe)]
      clear hpe
      go_wp2_with fail
      go_ret
      exact ⟨by rw [PV.out]; rfl, BW.out⟩
theorem keepC {W : World} {b g : Nat} {p q v : Value} (h : W.cell? ⟨b, 0, none⟩ = some p ∧ W.cell? ⟨b, 1, none⟩ = some q ∧ W.cell? ⟨b, 2, none⟩ = some v) (hne : b ≠ g) (o : Nat) (u : Value) :
    (W.setCell ⟨g, o, none⟩ u).cell? ⟨b, 0, none⟩ = some p ∧ (W.setCell ⟨g, o, none⟩ u).cell? ⟨b, 1, none⟩ = some q ∧ (W.setCell ⟨g, o, none⟩ u).cell? ⟨b, 2, none⟩ = some v := by
  have e : ∀ k, (W.setCell ⟨g, o, none⟩ u).cell? ⟨b, k, none⟩ = W.cell? ⟨b, k, none⟩ := fun k => World.cell?_setCell_other W _ _ _ (fun e => hne (by injection e with e; exact e.symm))
  exact ⟨(e 0).trans h.1, (e 1).trans h.2.1, (e 2).trans h.2.2⟩
set_option maxHeartbeats 2000000 in
theorem iSwap (n p t N cap g : Nat) (xs : List Int) (w : World) (hN : n * n = N) (hx : xs.length = N) (hp : p < n) (ht : t < n) (hpt : p ≠ t) (h6 : n ≤ 6) (hi : Ints w g xs) :
    Calls Try.prog 75 #[.agg #[.int .i64 n, .int .i64 n, .slice (some ⟨g, 0, none⟩) N cap], .int .i64 p, .int .i64 t] w (fun e w' => Void e ∧ Ints w' g (opL 0 p t 0 n xs) ∧ w.grownBy w' (some g)) := by
  have hle : n * n ≤ 6 * 6 := Nat.mul_le_mul h6 h6
  rw [hN] at hle
  have HN := Lib.hid hN
  have HX := Lib.hid hx
  have HPT := Lib.hid hpt
  have lg := hi.lt
  have GW : Hid (w.grownBy (w.alloc (.cells #[.int .i64 n, .int .i64 n, .slice (some ⟨g, 0, none⟩) N cap] 27)) (some g)) := World.grownBy_alloc _ _ _
  have K0 : Hid (Blk3 (w.alloc (.cells #[.int .i64 n, .int .i64 n, .slice (some ⟨g, 0, none⟩) N cap] 27)) w.heap.size 27 (.int .i64 n) (.int .i64 n) (.slice (some ⟨g, 0, none⟩) N cap)) := Blk3.at_ _ _ _ _ rfl
  have I := Lib.hid (hi.old (.cells #[.int .i64 n, .int .i64 n, .slice (some ⟨g, 0, none⟩) N cap] 27))
  clear hN hx hi hpt
  go_enter Try.func75, Try.ntmps75
  go_wp2_with fail
  generalize w.alloc (.cells #[.int .i64 n, .int .i64 n, .slice (some ⟨g, 0, none⟩) N cap] 27) = W at GW K0 I
  go_loopw [6, 7, 8, 11] (fun _ _ _ v11 wr => ∃ q : Nat, v11 = .int .i64 q ∧ q ≤ n ∧ Ints wr g (opTo 0 p t 0 n xs q) ∧ W.grownBy wr (some g)) (fun _ _ _ v11 _ => n - (intOf v11).toNat)
  case atStart => exact ⟨0, rfl, by omega, by rw [opTo_zero]; exact I.out, World.grownBy.refl _ _⟩
  case round =>
    obtain ⟨q, rfl, hq, hi, hgr⟩ := hrel
    have I := Lib.hid hi
    have G := Lib.hid hgr
    clear hi hgr
    have R0 := Lib.hid (K0.out.keepOne G.out (by omega))
    obtain ⟨r0, r1, r2, -, -, -⟩ := R0.out.all
    by_cases hlt : q < n
    · have ja : p * n + q < N := by rw [← HN.out]; exact idx_lt hp hlt
      have jb : t * n + q < N := by rw [← HN.out]; exact idx_lt ht hlt
      have ca : (p : Int) * (n : Int) = ((p * n : Nat) : Int) := (Int.natCast_mul _ _).symm
      have cb : (t : Int) * (n : Int) = ((t * n : Nat) : Int) := (Int.natCast_mul _ _).symm
      obtain ⟨A, hA⟩ : ∃ A, p * n + q = A := ⟨_, rfl⟩
      obtain ⟨C, hC⟩ : ∃ C, t * n + q = C := ⟨_, rfl⟩
      have va0 : IntKind.i64.wrap ((p : Int) * (n : Int)) = (p : Int) * (n : Int) := IntWalk.i64_in _ (by rw [ca]; omega)
      have va1 : IntKind.i64.wrap ((p : Int) * (n : Int) + (q : Int)) = (A : Int) := by
        rw [show (p : Int) * (n : Int) + (q : Int) = (A : Int) by rw [ca, ← hA]; omega]
        exact IntWalk.i64_in _ (by omega)
      have vb0 : IntKind.i64.wrap ((t : Int) * (n : Int)) = (t : Int) * (n : Int) := IntWalk.i64_in _ (by rw [cb]; omega)
      have vb1 : IntKind.i64.wrap ((t : Int) * (n : Int) + (q : Int)) = (C : Int) := by
        rw [show (t : Int) * (n : Int) + (q : Int) = (C : Int) by rw [cb, ← hC]; omega]
        exact IntWalk.i64_in _ (by omega)
      have a0 : (0 : Int) ≤ (A : Int) := by omega
      have a1 : (A : Int) < (N : Int) := by omega
      have b0 : (0 : Int) ≤ (C : Int) := by omega
      have b1 : (C : Int) < (N : Int) := by omega
      have hlen : xs.length = n * n := by rw [HX.out, HN.out]
      have s0 := (op_swap p t 0 n n xs q hlen hp ht hlt).resolve_right HPT.out
      have oa : (opTo 0 p t 0 n xs q).getD A 0 = xs.getD A 0 := by
        rw [opTo_getD _ _ _ _ _ _ _ _ (by rw [HX.out, ← hA]; exact ja), if_neg (by rw [← hA, idx_mod hlt]; omega)]
      have ob : (opTo 0 p t 0 n xs q).getD C 0 = xs.getD C 0 := by
        rw [opTo_getD _ _ _ _ _ _ _ _ (by rw [HX.out, ← hC]; exact jb), if_neg (by rw [← hC, idx_mod hlt]; omega)]
      rw [hA, hC] at s0
      have h1 := I.out.cell (i := A) (by rw [opTo_length, HX.out]; omega)
      have h2 := I.out.cell (i := C) (by rw [opTo_length, HX.out]; omega)
      rw [oa] at h1
      rw [ob] at h2
      obtain ⟨x, hxx⟩ : ∃ x, xs.getD A 0 = x := ⟨_, rfl⟩
      obtain ⟨y, hyy⟩ : ∃ y, xs.getD C 0 = y := ⟨_, rfl⟩
      rw [hxx, hyy] at s0
      rw [hxx] at h1
      rw [hyy] at h2
      have S0 := Lib.hid s0
      have f1 := I.out.free A
      have C36 : C < N := by omega
      clear ca cb hA hC hlen s0 oa ob hxx hyy ja jb
      go_wp2_with fail
      go_quiet (fail)
      have I := Lib.hid (I.out.drewN nq)
      have G := Lib.hid (grown_drewN_one G.out nq)
      have ng : w.heap.size ≠ g := by omega
      replace h1 : (wr.drewN nq).cell? ⟨g, A, none⟩ = some (.int .i64 x) := h1
      replace h2 : (wr.drewN nq).cell? ⟨g, C, none⟩ = some (.int .i64 y) := h2
      replace f1 : (wr.drewN nq).frozen? ⟨g, A, none⟩ = false := f1
      replace r0 : (wr.drewN nq).cell? ⟨w.heap.size, 0, none⟩ = some (.int .i64 n) := r0
      replace r1 : (wr.drewN nq).cell? ⟨w.heap.size, 1, none⟩ = some (.int .i64 n) := r1
      replace r2 : (wr.drewN nq).cell? ⟨w.heap.size, 2, none⟩ = some (.slice (some ⟨g, 0, none⟩) N cap) := r2
      generalize wr.drewN nq = wd at I G h1 h2 f1 r0 r1 r2
      go_upto_region 5 with fail
      have hS := Lib.hid (show wd.drew.cell? ⟨w.heap.size, 0, none⟩ = some (.int .i64 n) ∧ wd.drew.cell? ⟨w.heap.size, 1, none⟩ = some (.int .i64 n) ∧ wd.drew.cell? ⟨w.heap.size, 2, none⟩ = some (.slice (some ⟨g, 0, none⟩) N cap) from ⟨r0, r1, r2⟩)
      have G := Lib.hid (grown_drew_one G.out)
      have ID := I.out.drew
      have IS := ID.set A y
      have f2 := IS.free C
      have h3 := IS.cell (i := C) (by rw [List.length_set, opTo_length, HX.out]; omega)
      have IS2 := Lib.hid (IS.set C x)
      replace h1 : wd.drew.cell? ⟨g, A, none⟩ = some (.int .i64 x) := h1
      replace h2 : wd.drew.cell? ⟨g, C, none⟩ = some (.int .i64 y) := h2
      replace f1 : wd.drew.frozen? ⟨g, A, none⟩ = false := f1
      clear r0 r1 r2 I ID IS

      refine wp_region_held_drew (S := fun w' => w'.cell? ⟨w.heap.size, 0, none⟩ = some (.int .i64 n) ∧ w'.cell? ⟨w.heap.size, 1, none⟩ = some (.int .i64 n) ∧ w'.cell? ⟨w.heap.size, 2, none⟩ = some (.slice (some ⟨g, 0, none⟩) N cap)) (by kernel_rfl) hS.out (fun hH => ?_)
      (try dsimp only at hH)
      generalize wd.drew = we at hS G f2 h3 IS2 h1 h2 f1 hH ⊢
      refine wpAnyH_take (i := 0) (v := ?_) (by simp only [List.getElem?_toArray, List.getElem?_cons_zero]; rfl) (by kernel_rfl) (by kernel_rfl) (by kernel_rfl) (by exact fun _ _ _ h => h) (Or.inl ⟨by rfl, ?_⟩) hH ?_
      rotate_left
      · (intro wS hS; clear hS; go_simp; try rfl)
      try simp only [Act.put, List.setIfInBounds_toArray, List.set_cons_zero, List.set_cons_succ]
      refine wpAnyH_take (i := 1) (v := ?_) (by simp only [List.getElem?_toArray, List.getElem?_cons_succ, List.getElem?_cons_zero]; rfl) (by kernel_rfl) (by kernel_rfl) (by kernel_rfl) (by exact fun _ _ _ h => h) (Or.inl ⟨by rfl, ?_⟩) hH ?_
      rotate_left
      · (intro wS hS; (try dsimp only at hS); obtain ⟨k0, k1, k2⟩ := hS; go_simp; try rfl)
      try simp only [Act.put, List.setIfInBounds_toArray, List.set_cons_zero, List.set_cons_succ]
      refine wpAnyH_take (i := 2) (v := ?_) (by simp only [List.getElem?_toArray, List.getElem?_cons_succ, List.getElem?_cons_zero]; rfl) (by kernel_rfl) (by kernel_rfl) (by kernel_rfl) (by exact fun _ _ _ h => h) (Or.inl ⟨by rfl, ?_⟩) hH ?_
      rotate_left
      · (intro wS hS; clear hS; go_simp; try rfl)
      try simp only [Act.put, List.setIfInBounds_toArray, List.set_cons_zero, List.set_cons_succ]
      refine wpAnyH_take (i := 3) (v := ?_) (by simp only [List.getElem?_toArray, List.getElem?_cons_succ, List.getElem?_cons_zero]; rfl) (by kernel_rfl) (by kernel_rfl) (by kernel_rfl) (by exact fun _ _ _ h => h) (Or.inl ⟨by rfl, ?_⟩) hH ?_
      rotate_left
      · (intro wS hS; clear hS; go_simp; try rfl)
      try simp only [Act.put, List.setIfInBounds_toArray, List.set_cons_zero, List.set_cons_succ]
      refine wpAnyH_take (i := 4) (v := ?_) (by simp only [List.getElem?_toArray, List.getElem?_cons_succ, List.getElem?_cons_zero]; rfl) (by kernel_rfl) (by kernel_rfl) (by kernel_rfl) (by exact fun _ _ _ h => h) (Or.inl ⟨by rfl, ?_⟩) hH ?_
      rotate_left
      · (intro wS hS; (try dsimp only at hS); obtain ⟨k0, k1, k2⟩ := hS; go_simp; try rfl)
      try simp only [Act.put, List.setIfInBounds_toArray, List.set_cons_zero, List.set_cons_succ]
      refine wpAnyH_take (i := 5) (v := ?_) (by simp only [List.getElem?_toArray, List.getElem?_cons_succ, List.getElem?_cons_zero]; rfl) (by kernel_rfl) (by kernel_rfl) (by kernel_rfl) (by exact fun _ _ _ h => h) (Or.inl ⟨by rfl, ?_⟩) hH ?_
      rotate_left
      · (intro wS hS; clear hS; go_simp; try rfl)
      try simp only [Act.put, List.setIfInBounds_toArray, List.set_cons_zero, List.set_cons_succ]
      refine wpAnyH_take (i := 6) (v := ?_) (by simp only [List.getElem?_toArray, List.getElem?_cons_succ, List.getElem?_cons_zero]; rfl) (by kernel_rfl) (by kernel_rfl) (by kernel_rfl) (by exact fun _ _ _ h => h) (Or.inl ⟨by rfl, ?_⟩) hH ?_
      rotate_left
      · (intro wS hS; clear hS; go_simp; try rfl)
      try simp only [Act.put, List.setIfInBounds_toArray, List.set_cons_zero, List.set_cons_succ]
      refine wpAnyH_take (i := 7) (v := ?_) (by simp only [List.getElem?_toArray, List.getElem?_cons_succ, List.getElem?_cons_zero]; rfl) (by kernel_rfl) (by kernel_rfl) (by kernel_rfl) (by exact fun _ _ _ h => h) (Or.inl ⟨by rfl, ?_⟩) hH ?_
      rotate_left
      · (intro wS hS; (try dsimp only at hS); obtain ⟨k0, k1, k2⟩ := hS; go_simp; try rfl)
      try simp only [Act.put, List.setIfInBounds_toArray, List.set_cons_zero, List.set_cons_succ]
      refine wpAnyH_take (i := 8) (v := ?_) (by simp only [List.getElem?_toArray, List.getElem?_cons_succ, List.getElem?_cons_zero]; rfl) (by kernel_rfl) (by kernel_rfl) (by kernel_rfl) (by exact fun _ _ _ h => h) (Or.inl ⟨by rfl, ?_⟩) hH ?_
      rotate_left
      · (intro wS hS; clear hS; go_simp; try rfl)
      try simp only [Act.put, List.setIfInBounds_toArray, List.set_cons_zero, List.set_cons_succ]
      refine wpAnyH_take (i := 9) (v := ?_) (by simp only [List.getElem?_toArray, List.getElem?_cons_succ, List.getElem?_cons_zero]; rfl) (by kernel_rfl) (by kernel_rfl) (by kernel_rfl) (by exact fun _ _ _ h => h) (Or.inl ⟨by rfl, ?_⟩) hH ?_
      rotate_left
      · (intro wS hS; (try dsimp only at hS); obtain ⟨k0, k1, k2⟩ := hS; go_simp; try rfl)
      try simp only [Act.put, List.setIfInBounds_toArray, List.set_cons_zero, List.set_cons_succ]
      refine wpAnyH_take (i := 11) (v := ?_) (by simp only [List.getElem?_toArray, List.getElem?_cons_succ, List.getElem?_cons_zero]; rfl) (by kernel_rfl) (by kernel_rfl) (by kernel_rfl) (by exact fun _ _ _ h => h) (Or.inl ⟨by rfl, ?_⟩) hH ?_
      rotate_left
      · (intro wS hS; clear hS; go_simp; try rfl)
      try simp only [Act.put, List.setIfInBounds_toArray, List.set_cons_zero, List.set_cons_succ]
      refine wpAnyH_take (i := 12) (v := ?_) (by simp only [List.getElem?_toArray, List.getElem?_cons_succ, List.getElem?_cons_zero]; rfl) (by kernel_rfl) (by kernel_rfl) (by kernel_rfl) (by exact fun _ _ _ h => h) (Or.inl ⟨by rfl, ?_⟩) hH ?_
      rotate_left
      · (intro wS hS; (try dsimp only at hS); obtain ⟨k0, k1, k2⟩ := hS; go_simp; try rfl)
      try simp only [Act.put, List.setIfInBounds_toArray, List.set_cons_zero, List.set_cons_succ]
      refine wpAnyH_take (i := 13) (v := ?_) (by simp only [List.getElem?_toArray, List.getElem?_cons_succ, List.getElem?_cons_zero]; rfl) (by kernel_rfl) (by kernel_rfl) (by kernel_rfl) (by exact fun _ _ _ h => h) (Or.inl ⟨by rfl, ?_⟩) hH ?_
      rotate_left
      · (intro wS hS; clear hS; go_simp; try rfl)
      try simp only [Act.put, List.setIfInBounds_toArray, List.set_cons_zero, List.set_cons_succ]
      refine wpAnyH_take (i := 14) (v := ?_) (by simp only [List.getElem?_toArray, List.getElem?_cons_succ, List.getElem?_cons_zero]; rfl) (by kernel_rfl) (by kernel_rfl) (by kernel_rfl) (by exact fun _ _ _ h => h) (Or.inl ⟨by rfl, ?_⟩) hH ?_
      rotate_left
      · (intro wS hS; (try dsimp only at hS); obtain ⟨k0, k1, k2⟩ := hS; go_simp; try rfl)
      try simp only [Act.put, List.setIfInBounds_toArray, List.set_cons_zero, List.set_cons_succ]
      refine wpAnyH_ready (rs := [10, 15]) (by kernel_rfl) (by simp) ?_
      refine AllReadyH.cons (by simp only [List.getElem?_toArray, List.getElem?_cons_succ, List.getElem?_cons_zero]; rfl) (fun KK hKK => ?_) (AllReadyH.cons (by simp only [List.getElem?_toArray, List.getElem?_cons_succ, List.getElem?_cons_zero]; rfl) (fun KK hKK => ?_) AllReadyH.nil)
      · go_simp
        try dsimp only
        refine hKK.out _ _ ?_ (fun hH2 => ?_)
        · exact hH
        clear hKK KK
        have hO := hH
        clear hH
        have hH := hH2
        clear hH2
        try simp only [Act.put, List.setIfInBounds_toArray, List.set_cons_zero, List.set_cons_succ]
        refine wpAnyH_ready (rs := [15]) (by kernel_rfl) (by simp) ?_
        refine AllReadyH.cons (by simp only [List.getElem?_toArray, List.getElem?_cons_succ, List.getElem?_cons_zero]; rfl) (fun KK hKK => ?_) AllReadyH.nil
        go_simp
        try dsimp only
        refine hKK.out _ _ ?_ (fun hH2 => ?_)
        · exact hH
        clear hKK KK
        have hO := hH
        clear hH
        have hH := hH2
        clear hH2
        try simp only [Act.put, List.setIfInBounds_toArray, List.set_cons_zero, List.set_cons_succ]
        refine wpAnyH_take (i := 16) (v := ?_) (by simp only [List.getElem?_toArray, List.getElem?_cons_succ, List.getElem?_cons_zero]; rfl) (by kernel_rfl) (by kernel_rfl) (by kernel_rfl) (by exact fun _ _ _ h => h) (Or.inl ⟨by rfl, ?_⟩) hH ?_
        rotate_left
        · (intro wS hS; (try dsimp only at hS); obtain ⟨k0, k1, k2⟩ := hS; go_simp; try rfl)
        try simp only [Act.put, List.setIfInBounds_toArray, List.set_cons_zero, List.set_cons_succ]
        refine wpAnyH_ready (rs := [17]) (by kernel_rfl) (by simp) ?_
        refine AllReadyH.cons (by simp only [List.getElem?_toArray, List.getElem?_cons_succ, List.getElem?_cons_zero]; rfl) (fun KK hKK => ?_) AllReadyH.nil
        go_simp
        try dsimp only
        refine hKK.out _ _ ?_ (fun hH2 => ?_)
        · exact keepC hH ng _ _
        clear hKK KK
        have hO := hH
        clear hH
        have hH := hH2
        clear hH2
        try simp only [Act.put, List.setIfInBounds_toArray, List.set_cons_zero, List.set_cons_succ]
        refine wpAnyH_take (i := 18) (v := ?_) (by simp only [List.getElem?_toArray, List.getElem?_cons_succ, List.getElem?_cons_zero]; rfl) (by kernel_rfl) (by kernel_rfl) (by kernel_rfl) (by exact fun _ _ _ h => h) (Or.inl ⟨by rfl, ?_⟩) hH ?_
        rotate_left
        · (intro wS hS; (try dsimp only at hS); obtain ⟨k0, k1, k2⟩ := hS; go_simp; try rfl)
        try simp only [Act.put, List.setIfInBounds_toArray, List.set_cons_zero, List.set_cons_succ]
        refine wpAnyH_ready (rs := [19]) (by kernel_rfl) (by simp) ?_
        refine AllReadyH.cons (by simp only [List.getElem?_toArray, List.getElem?_cons_succ, List.getElem?_cons_zero]; rfl) (fun KK hKK => ?_) AllReadyH.nil
        go_simp
        try dsimp only
        refine hKK.out _ _ ?_ (fun hH2 => ?_)
        · exact keepC hH ng _ _
        clear hKK KK
        have hO := hH
        clear hH
        have hH := hH2
        clear hH2
        try simp only [Act.put, List.setIfInBounds_toArray, List.set_cons_zero, List.set_cons_succ]
        refine wpAnyH_done (by kernel_rfl) ?_ _
        go_wp2_with fail
        go_roundw
        case rel => exact ⟨q + 1, by go_num, by omega, by rw [← S0.out]; exact IS2.out, grown_set_one (a := ⟨g, C, none⟩) (grown_set_one (a := ⟨g, A, none⟩) G.out rfl _) rfl _⟩
        case measure => simp [intOf]; omega
      · go_simp
        try dsimp only
        refine hKK.out _ _ ?_ (fun hH2 => ?_)
        · exact hH
        clear hKK KK
        have hO := hH
        clear hH
        have hH := hH2
        clear hH2
        try simp only [Act.put, List.setIfInBounds_toArray, List.set_cons_zero, List.set_cons_succ]
        refine wpAnyH_ready (rs := [10]) (by kernel_rfl) (by simp) ?_
        refine AllReadyH.cons (by simp only [List.getElem?_toArray, List.getElem?_cons_succ, List.getElem?_cons_zero]; rfl) (fun KK hKK => ?_) AllReadyH.nil
        go_simp
        try dsimp only
        refine hKK.out _ _ ?_ (fun hH2 => ?_)
        · exact hH
        clear hKK KK
        have hO := hH
        clear hH
        have hH := hH2
        clear hH2
        try simp only [Act.put, List.setIfInBounds_toArray, List.set_cons_zero, List.set_cons_succ]
        refine wpAnyH_take (i := 16) (v := ?_) (by simp only [List.getElem?_toArray, List.getElem?_cons_succ, List.getElem?_cons_zero]; rfl) (by kernel_rfl) (by kernel_rfl) (by kernel_rfl) (by exact fun _ _ _ h => h) (Or.inl ⟨by rfl, ?_⟩) hH ?_
        rotate_left
        · (intro wS hS; (try dsimp only at hS); obtain ⟨k0, k1, k2⟩ := hS; go_simp; try rfl)
        try simp only [Act.put, List.setIfInBounds_toArray, List.set_cons_zero, List.set_cons_succ]
        refine wpAnyH_ready (rs := [17]) (by kernel_rfl) (by simp) ?_
        refine AllReadyH.cons (by simp only [List.getElem?_toArray, List.getElem?_cons_succ, List.getElem?_cons_zero]; rfl) (fun KK hKK => ?_) AllReadyH.nil
        go_simp
        try dsimp only
        refine hKK.out _ _ ?_ (fun hH2 => ?_)
        · exact keepC hH ng _ _
        clear hKK KK
        have hO := hH
        clear hH
        have hH := hH2
        clear hH2
        try simp only [Act.put, List.setIfInBounds_toArray, List.set_cons_zero, List.set_cons_succ]
        refine wpAnyH_take (i := 18) (v := ?_) (by simp only [List.getElem?_toArray, List.getElem?_cons_succ, List.getElem?_cons_zero]; rfl) (by kernel_rfl) (by kernel_rfl) (by kernel_rfl) (by exact fun _ _ _ h => h) (Or.inl ⟨by rfl, ?_⟩) hH ?_
        rotate_left
        · (intro wS hS; (try dsimp only at hS); obtain ⟨k0, k1, k2⟩ := hS; go_simp; try rfl)
        try simp only [Act.put, List.setIfInBounds_toArray, List.set_cons_zero, List.set_cons_succ]
        refine wpAnyH_ready (rs := [19]) (by kernel_rfl) (by simp) ?_
        refine AllReadyH.cons (by simp only [List.getElem?_toArray, List.getElem?_cons_succ, List.getElem?_cons_zero]; rfl) (fun KK hKK => ?_) AllReadyH.nil
        go_simp
        try dsimp only
        refine hKK.out _ _ ?_ (fun hH2 => ?_)
        · exact keepC hH ng _ _
        clear hKK KK
        have hO := hH
        clear hH
        have hH := hH2
        clear hH2
        try simp only [Act.put, List.setIfInBounds_toArray, List.set_cons_zero, List.set_cons_succ]
        refine wpAnyH_done (by kernel_rfl) ?_ _
        go_wp2_with fail
        go_roundw
        case rel => exact ⟨q + 1, by go_num, by omega, by rw [← S0.out]; exact IS2.out, grown_set_one (a := ⟨g, C, none⟩) (grown_set_one (a := ⟨g, A, none⟩) G.out rfl _) rfl _⟩
        case measure => simp [intOf]; omega
    · have hqn : q = n := by omega
      have EQ : Hid (opTo 0 p t 0 n xs q = opL 0 p t 0 n xs) := by
        show opTo 0 p t 0 n xs q = _
        rw [hqn]
        exact opTo_all _ _ _ _ _ _ (.inr (by omega))
      clear hqn
      go_wp2_with fail
      go_end0
      exact ⟨rfl, by rw [← EQ.out]; exact I.out, GW.out.trans G.out⟩
end Go.Proofs.Ytdnajkoeojlnbaa
end

section
/-
  Chapter 6, in the program: one step without fractions, in place.
-/
namespace Go.Proofs.Ytdnajkoeojlnbaa
set_option maxRecDepth 100000
open Go.RowKit

set_option maxHeartbeats 2000000 in
theorem iStepIn (n t N cap g : Nat) (ys : List Int) (last : Int) (w : World) (hN : n * n = N) (hx : ys.length = N) (ht : t < n) (h6 : n ≤ 6) (hc : N ≤ cap) (nx : nums ys = true) (hl : NumP last) (hl0 : last ≠ 0) (hi : Ints w g ys) :
    Calls Try.prog 76 #[.agg #[.int .i64 n, .int .i64 n, .slice (some ⟨g, 0, none⟩) N cap], .int .i64 t, .int .i64 last] w (fun e w' => ((e = .returned (.bool true) ∧ nums (elL n t last ys) = true ∧ Ints w' g (elL n t last ys)) ∨ (e = .returned (.bool false) ∧ nums (elL n t last ys) ≠ true)) ∧ w.grownBy w' (some g)) := by
  have hle : n * n ≤ 6 * 6 := Nat.mul_le_mul h6 h6
  rw [hN] at hle
  have HN := Lib.hid hN
  have HY := Lib.hid hx
  have NY := Lib.hid nx
  have L0 := Lib.hid hl0
  have LL := Lib.hid hl
  have lg := hi.lt
  have GW : Hid (w.grownBy (w.alloc (.cells #[.int .i64 n, .int .i64 n, .slice (some ⟨g, 0, none⟩) N cap] 27)) (some g)) := World.grownBy_alloc _ _ _
  have K0 : Hid (Blk3 (w.alloc (.cells #[.int .i64 n, .int .i64 n, .slice (some ⟨g, 0, none⟩) N cap] 27)) w.heap.size 27 (.int .i64 n) (.int .i64 n) (.slice (some ⟨g, 0, none⟩) N cap)) := Blk3.at_ _ _ _ _ rfl
  have I := Lib.hid (hi.old (.cells #[.int .i64 n, .int .i64 n, .slice (some ⟨g, 0, none⟩) N cap] 27))
  have CUT : Hid (∀ k : Nat, k < n → ∃ D : Nat, k * n = D ∧ D + n ≤ N ∧ IntKind.i64.wrap ((k : Int) * (n : Int)) = (D : Int) ∧ IntKind.i64.wrap ((k : Int) + 1) = (k : Int) + 1 ∧ IntKind.i64.wrap (((k : Int) + 1) * (n : Int)) = ((D + n : Nat) : Int)) := fun k hk => by
    have c1 : (k : Int) * (n : Int) = ((k * n : Nat) : Int) := (Int.natCast_mul _ _).symm
    have q1 : k * n + n ≤ n * n := by rw [← Nat.succ_mul]; exact Nat.mul_le_mul_right _ hk
    have c2 : ((k : Int) + 1) * (n : Int) = ((k * n + n : Nat) : Int) := by rw [Int.add_mul, Int.one_mul, c1]; rfl
    refine ⟨k * n, rfl, by omega, ?_, IntWalk.i64_in _ (by omega), ?_⟩
    · rw [c1]; exact IntWalk.i64_in _ (by omega)
    · rw [c2]; exact IntWalk.i64_in _ (by omega)
  clear hN hx hi nx hl hl0
  obtain ⟨Dt, hDt, hDt2, vt1, vt2, vt3⟩ := CUT.out t ht
  have HDt := Lib.hid hDt
  clear hDt
  have dt1 : Dt < cap := by omega
  have dt2 : Dt + n ≤ cap := by omega
  obtain ⟨p0, p1, p2, -, -, -⟩ := K0.out.all
  go_enter Try.func76, Try.ntmps76
  go_wp2_with fail
  generalize w.alloc (.cells #[.int .i64 n, .int .i64 n, .slice (some ⟨g, 0, none⟩) N cap] 27) = W at GW K0 I p0 p1 p2
  rw [show Dt + n - Dt = n by omega]
  clear p0 p1 p2 vt1 vt2 vt3
  go_loopw [6, 8, 9, 10] (fun _ v8 _ _ wu => ∃ i : Nat, v8 = .int .i64 i ∧ t + 1 ≤ i ∧ i ≤ n ∧ nums (elTo n t last ys i (t + 1)) = true ∧ Ints wu g (elTo n t last ys i (t + 1)) ∧ W.grownBy wu (some g)) (fun _ v8 _ _ _ => n - (intOf v8).toNat)
  case atStart => exact ⟨t + 1, by go_num, Nat.le_refl _, by omega, by rw [elTo_start (by rw [HY.out, HN.out])]; exact NY.out, by rw [elTo_start (by rw [HY.out, HN.out])]; exact I.out, World.grownBy.refl _ _⟩
  case round =>
    obtain ⟨i, rfl, hi1, hi2, hni, hii, hgi⟩ := hrel
    have NI := Lib.hid hni
    have II := Lib.hid hii
    have GI := Lib.hid hgi
    have R3 := Lib.hid (K0.out.keepOne hgi (by omega))
    clear hni hii hgi
    obtain ⟨r0, r1, r2, -, -, -⟩ := R3.out.all
    by_cases hin : i < n
    · obtain ⟨Di, hDi, hDi2, vi1, vi2, vi3⟩ := CUT.out i hin
      have HDi := Lib.hid hDi
      clear hDi
      have di1 : Di < cap := by omega
      have di2 : Di + n ≤ cap := by omega
      go_wp2_with fail
      rw [show Di + n - Di = n by omega]
      clear r0 r1 r2 vi1 vi3
      go_loopw [6, 10] (fun _ v10 wv => ∃ j : Nat, v10 = .int .i64 j ∧ t + 1 ≤ j ∧ j ≤ n ∧ nums (elTo n t last ys i j) = true ∧ Ints wv g (elTo n t last ys i j) ∧ W.grownBy wv (some g)) (fun _ v10 _ => n - (intOf v10).toNat)
      case atStart => exact ⟨t + 1, by go_num, Nat.le_refl _, by omega, NI.out, II.out, GI.out⟩
      case round =>
        obtain ⟨j, rfl, hj1, hj2, hnj, hij, hgj⟩ := hrel
        have NJ := Lib.hid hnj
        have IJ := Lib.hid hij
        have GJ := Lib.hid hgj
        have R3 := Lib.hid (K0.out.keepOne hgj (by omega))
        clear hnj hij hgj
        obtain ⟨r0, r1, r2, -, -, -⟩ := R3.out.all
        by_cases hjn : j < n
        · have ti : t < i := by omega
          have tj : t < j := by omega
          have jt : (t : Int) < (n : Int) := by omega
          have jj : (j : Int) < (n : Int) := by omega
          have hla : (elTo n t last ys i j).length = N := by rw [elTo_length, HN.out]
          have ja : i * n + j < N := by rw [← HN.out]; exact idx_lt (by omega) (by omega)
          have jb : t * n + t < N := by rw [← HN.out]; exact idx_lt (by omega) (by omega)
          have jc : i * n + t < N := by rw [← HN.out]; exact idx_lt (by omega) (by omega)
          have jd : t * n + j < N := by rw [← HN.out]; exact idx_lt (by omega) (by omega)
          have ha := IJ.out.cell (i := i * n + j) (by rw [hla]; exact ja)
          have hb := IJ.out.cell (i := t * n + t) (by rw [hla]; exact jb)
          have hc := IJ.out.cell (i := i * n + t) (by rw [hla]; exact jc)
          have hd := IJ.out.cell (i := t * n + j) (by rw [hla]; exact jd)
          rw [elTo_old hin hjn (by omega)] at ha
          rw [elTo_old ht ht (by omega)] at hb
          rw [elTo_old hin ht (by omega)] at hc
          rw [elTo_old ht hjn (by omega)] at hd
          have hfr := IJ.out.free (i * n + j)
          have EA : Hid (elAt n t last ys i j = (ys.getD (i * n + j) 0 * ys.getD (t * n + t) 0 - ys.getD (i * n + t) 0 * ys.getD (t * n + j) 0).tdiv last) := rfl
          have na := nums_at NY.out (j := i * n + j) (by rw [HY.out]; exact ja)
          have nb := nums_at NY.out (j := t * n + t) (by rw [HY.out]; exact jb)
          have nc := nums_at NY.out (j := i * n + t) (by rw [HY.out]; exact jc)
          have nd := nums_at NY.out (j := t * n + j) (by rw [HY.out]; exact jd)
          generalize ys.getD (i * n + j) 0 = xa at ha na EA
          generalize ys.getD (t * n + t) 0 = xb at hb nb EA
          generalize ys.getD (i * n + t) 0 = xc at hc nc EA
          generalize ys.getD (t * n + j) 0 = xd at hd nd EA
          have SETC : Hid (∀ y, elAt n t last ys i j = y → Ints (wr.setCell ⟨g, Di + j, none⟩ (.int .i64 y)) g (elTo n t last ys i (j + 1))) := fun y hy => by
            have e2 := IJ.out.set (i * n + j) y
            rw [← hy, elTo_step hin hjn ti tj, hy, HDi.out] at e2
            exact e2
          have GS : Hid (∀ y, W.grownBy (wr.setCell ⟨g, Di + j, none⟩ (.int .i64 y)) (some g)) := fun y => grown_set_one (a := ⟨g, Di + j, none⟩) GJ.out rfl _
          have ES := Lib.hid (elTo_step (last := last) (xs := ys) hin hjn ti tj)
          rw [HDi.out] at ha hc hfr
          rw [HDt.out] at hb hd
          have m1 := mul_num _ _ na nb
          have m2 := mul_num _ _ nc nd
          have v1 : IntKind.i64.wrap (xa * xb) = xa * xb := IntWalk.i64_in _ (by omega)
          have v2 : IntKind.i64.wrap (xc * xd) = xc * xd := IntWalk.i64_in _ (by omega)
          have v3 : IntKind.i64.wrap (xa * xb - xc * xd) = xa * xb - xc * xd := IntWalk.i64_in _ (by omega)
          have m3 := tdiv_in (x := xa * xb - xc * xd) (y := last) (b := 320000000000000000) (by omega) (by omega)
          have v4 : IntKind.i64.wrap ((xa * xb - xc * xd).tdiv last) = (xa * xb - xc * xd).tdiv last := IntWalk.i64_in _ (by omega)
          obtain ⟨y, hy⟩ : ∃ y, elAt n t last ys i j = y := ⟨_, rfl⟩
          have Y := Lib.hid hy
          rw [hy] at EA
          rw [← EA.out] at v4
          have q0 : (xa * xb - xc * xd).tdiv last = y := EA.out.symm
          have l0 := L0.out
          have l00 : (last == 0) = false := by simpa using l0
          clear na nb nc nd m1 m2 m3 hy ja jb jc jd hla
          go_wp2_with fail
          go_still_tail 24, (by kernel_rfl)
          go_wp2_with fail
          have G2 := Lib.hid (grown_drew_one (GS.out y))
          have I2 := Lib.hid (SETC.out y Y.out).drew
          refine (iIsNum y _).mono ?_
          rintro e w5 ⟨rfl, rfl⟩
          clear ha hb hc hd r0 r1 r2 hfr
          by_cases hy : NumP y
          · have NS : Hid (nums (elTo n t last ys i (j + 1)) = true) := by show nums _ = true; rw [← ES.out, Y.out]; exact nums_set NJ.out hy
            rw [decide_eq_true hy]
            clear hy
            go_wp2_with fail
            go_roundw
            case rel => exact ⟨j + 1, by go_num, by omega, by omega, NS.out, I2.out, G2.out⟩
            case measure => simp [intOf]; omega
          · have RZ : Hid (nums (elL n t last ys) ≠ true) := elL_bad hin hjn ti tj (by rw [Y.out]; exact hy)
            rw [decide_eq_false hy]
            clear hy
            go_wp2_with fail
            go_ret
            exact ⟨.inr ⟨rfl, RZ.out⟩, GW.out.trans G2.out⟩
        · have hjn : j = n := by omega
          rw [hjn] at NJ IJ
          go_wp2_with fail
          go_roundw
          case rel => exact ⟨i + 1, by go_num, by omega, by omega, by rw [← elTo_row]; exact NJ.out, by rw [← elTo_row]; exact IJ.out, GJ.out⟩
          case measure => simp [intOf]; omega
    · have hie : i = n := by omega
      rw [hie] at NI II
      rw [elTo_all] at NI II
      go_wp2_with fail
      go_ret
      exact ⟨.inl ⟨rfl, NI.out, II.out⟩, GW.out.trans GI.out⟩
end Go.Proofs.Ytdnajkoeojlnbaa
end

section
/-
  Chapter 6, in the program: DeterminantBySteps.
-/
namespace Go.Proofs.Ytdnajkoeojlnbaa
set_option maxRecDepth 100000
open Go.RowKit

set_option maxHeartbeats 2000000 in
theorem iSteps_t (n : Nat) (a : Option Addr) (m : Nat) (xs : List Int) (w : World) (h : Rd w a xs) (hx : xs.length = n * n) (h6 : n ≤ 6) (nx : nums xs = true) (hs : isSq n n xs = true) :
    Calls Try.prog 27 #[.agg #[.int .i64 n, .int .i64 n, .slice a xs.length m]] w (Gives (.tuple #[.int .i64 (stepsM n xs).1, .bool (stepsM n xs).2]) w) := by
  have hle : n * n ≤ 6 * 6 := Nat.mul_le_mul h6 h6
  have B0 : Hid (∀ o1, Below w.heap.size w (w.alloc o1)) := fun o1 => (Below.refl _ _).alloc (Nat.le_refl _) _
  obtain ⟨N, hN⟩ : ∃ N, n * n = N := ⟨_, rfl⟩
  have SQ : Hid (∀ w', Below w.heap.size w w' → Calls Try.prog 18 #[.agg #[.int .i64 n, .int .i64 n, .slice a N m]] w' (Gives (.bool true) w')) := fun w' hb => by
    have := iIsSq n n a m xs w' (h.below hb) (by omega)
    rw [hx, hN, hs] at this
    exact this
  have CP : Hid (∀ w', Below w.heap.size w w' → Calls Try.prog 73 #[.agg #[.int .i64 n, .int .i64 n, .slice a N m]] w' (CopyM n n N xs w')) := fun w' hb => iCopyOf n n a m N xs (by omega) w' (h.below hb) (by omega)
  have ST : Hid (stR2 n n 0 xs 1 1 = stepsM n xs) := rfl
  rw [hx, hN]
  rw [hN] at hle hx
  have HN := Lib.hid hN
  have HX := Lib.hid hx
  have NX := Lib.hid nx
  generalize stepsM n xs = RES at ST ⊢
  clear h hx nx hs hN
  go_enter Try.func27, Try.ntmps27
  go_wp2_with fail
  refine (SQ.out _ (B0.out _)).mono ?_
  rintro e w0 ⟨rfl, hb⟩
  have K0 : Hid (Blk3 w0 w.heap.size 27 (.int .i64 n) (.int .i64 n) (.slice a N m)) := (Blk3.at_ _ _ _ _ rfl).keep hb (by simp)
  have B : Hid (Below w.heap.size w w0) := (B0.out _).trans (hb.mono (by simp))
  clear hb
  obtain ⟨p0, p1, p2, -, -, -⟩ := K0.out.all
  go_wp2_with fail
  refine (CP.out _ B.out).mono ?_
  rintro e w1 ⟨q, cap, rfl, own, hb⟩
  have B1 := Lib.hid (stepB B.out hb)
  have l0 : w.heap.size < w0.heap.size := K0.out.lt
  obtain ⟨g, hg, gl, HQ⟩ : ∃ g, w0.heap.size ≤ g ∧ g ≤ w1.heap.size ∧ (0 < n → q = some ⟨g, 0, none⟩ ∧ N ≤ cap ∧ Ints w1 g xs) := by
    rcases own with ⟨e, -⟩ | ⟨g, c, e, hB, hi, hl, -⟩
    · injection e with _ e _
      exact ⟨w1.heap.size, hb.size, Nat.le_refl _, fun hp => by
        have : 0 < n * n := Nat.mul_pos hp hp
        rw [HN.out] at this
        omega⟩
    · injection e with e1 e2 e3
      subst e1
      exact ⟨g, hB, Nat.le_of_lt hi.lt, fun _ => ⟨rfl, by omega, hi⟩⟩
  have HQ := Lib.hid HQ
  have l1 : w.heap.size < g := by omega
  have BA := Lib.hid (B1.out.alloc B1.out.size (.cells #[.int .i64 n, .int .i64 n, .slice q N cap] 27))
  have K3 : Hid (Blk3 (w1.alloc (.cells #[.int .i64 n, .int .i64 n, .slice q N cap] 27)) w1.heap.size 27 (.int .i64 n) (.int .i64 n) (.slice q N cap)) := Blk3.at_ _ _ _ _ rfl
  have II : Hid (0 < n → Ints (w1.alloc (.cells #[.int .i64 n, .int .i64 n, .slice q N cap] 27)) g xs) := fun hp => (HQ.out hp).2.2.old _
  have QQ : Hid (0 < n → q = some ⟨g, 0, none⟩ ∧ N ≤ cap ∧ g < w1.heap.size) := fun hp => ⟨(HQ.out hp).1, (HQ.out hp).2.1, (HQ.out hp).2.2.lt⟩
  clear hb own p0 p1 p2 HQ
  go_upto_region 4 with fail
  generalize w1.alloc (.cells #[.int .i64 n, .int .i64 n, .slice q N cap] 27) = W at BA K3 II ⊢
  obtain ⟨ob, hob⟩ : ∃ ob, w1.heap.size = ob := ⟨_, rfl⟩
  rw [hob] at K3 gl QQ ⊢
  clear hob
  obtain ⟨p0, p1, p2, -, -, -⟩ := K3.out.all
  go_wp2_with fail
  clear p0 p1 p2
  go_loopw [2, 3, 5, 6, 7, 8, 16] (fun _ _ v5 v6 _ _ v16 wr => ∃ (t k : Nat) (zs : List Int) (last s : Int), v16 = .int .i64 t ∧ t + k = n ∧ v6 = .int .i64 last ∧ v5 = .int .i64 s ∧ (s = 1 ∨ s = -1) ∧ last ≠ 0 ∧ NumP last ∧ zs.length = N ∧ nums zs = true ∧ stR2 n k t zs last s = RES ∧ (0 < n → Ints wr g zs) ∧ W.grownBy wr (some g)) (fun _ _ _ _ _ _ v16 _ => n - (intOf v16).toNat)
  case atStart => exact ⟨0, n, xs, 1, 1, rfl, by omega, rfl, rfl, .inl rfl, by decide, by decide, HX.out, NX.out, ST.out, II.out, World.grownBy.refl _ _⟩
  case round =>
    obtain ⟨t, k, zs, last, s, rfl, htk, rfl, rfl, hs, hl0, hln, hz, nz, hR, hi, hgr⟩ := hrel
    have G := Lib.hid hgr
    have HZ := Lib.hid hz
    have NZ := Lib.hid nz
    have HR := Lib.hid hR
    have S := Lib.hid hs
    have LL := Lib.hid hln
    have L0 := Lib.hid hl0
    have BW := Lib.hid (BA.out.trans (below_of_one hgr (by omega) BA.out.size))
    by_cases hlt : t < n
    · obtain ⟨rfl, hcap, glt⟩ := QQ.out (by omega)
      have ng : ob ≠ g := by omega
      have I := Lib.hid (hi (by omega))
      have R3 := Lib.hid (K3.out.keepOne G.out ng)
      have BG : Hid (∀ w', W.grownBy w' (some g) → Below w.heap.size w w') := fun w' h => BA.out.trans (below_of_one h (by omega) BA.out.size)
      clear hi hgr hz nz hR hs hln hl0 II QQ
      obtain ⟨r0, r1, r2, -, -, -⟩ := R3.out.all
      obtain ⟨k, rfl⟩ : ∃ q, k = q + 1 := ⟨k - 1, by omega⟩
      obtain ⟨z0, z1, z2, z3⟩ := pivP_says (n := n) (t := t) (xs := zs) (by omega)
      have Z2 := Lib.hid z2
      have Z3 := Lib.hid z3
      clear z2 z3
      go_wp2_with fail
      refine (iPivot n t N cap g zs _ HN.out HZ.out hlt h6 I.out).mono ?_
      rintro e w2 ⟨rfl, hb2⟩
      have I2 := Lib.hid (I.out.keep hb2 I.out.lt)
      have G2 := Lib.hid (G.out.trans (grown_of_below hb2 (some g)))
      have R3 := Lib.hid (K3.out.keepOne G2.out ng)
      clear hb2 r0 r1 r2
      by_cases hpn : pivP n t zs = n
      · have PV : pvI n t zs = -1 := if_pos hpn
        have R0 : Hid (RES = (0, true)) := by show RES = _; rw [← HR.out]; exact stR2_none hpn
        rw [PV]
        clear PV hpn
        go_wp2_with fail
        exact bodyPost_ret (v := .tuple #[.int .i64 0, .bool true]) (by simp [results, Try.results27, go_sem]) rfl ⟨by rw [R0.out], BG.out _ G2.out⟩
      · have PV : pvI n t zs = (pivP n t zs : Int) := if_neg hpn
        obtain ⟨p, hp⟩ : ∃ p, pivP n t zs = p := ⟨_, rfl⟩
        have HP := Lib.hid hp
        have hpl : p < n := by omega
        have HY : Hid ((pvL n t zs).length = N) := by show _ = _; rw [pvL_length, HZ.out]
        have NY : Hid (nums (pvL n t zs) = true) := pvL_nums (by rw [HZ.out, HN.out]) (by rw [hp]; exact hpl) hlt NZ.out
        have TT : Hid ((pvL n t zs).getD (t * n + t) 0 ≠ 0) := by show _ ≠ _; rw [pvL_at (by rw [HZ.out, HN.out]) hlt hlt, if_pos rfl]; exact Z3.out (by rw [hp]; exact hpl)
        have RB : Hid (nums (elL n t last (pvL n t zs)) ≠ true → RES = (0, false)) := fun hb => by rw [← HR.out]; exact stR2_bad hpn hb
        have RO : Hid (nums (elL n t last (pvL n t zs)) = true → stR2 n k (t + 1) (elL n t last (pvL n t zs)) ((pvL n t zs).getD (t * n + t) 0) (if p = t then s else -s) = RES) := fun hb => by
          have := stR2_on (k := k) (s := s) hpn hb
          rw [HR.out, hp] at this
          exact this.symm
        have SW : Hid (p ≠ t → opL 0 p t 0 n zs = pvL n t zs) := fun hpt => by unfold pvL; rw [hp, if_neg hpt]
        have SN : Hid (p = t → zs = pvL n t zs) := fun hpt => by unfold pvL; rw [hp, if_pos hpt]
        rw [PV, hp]
        rw [hp] at z1 z0
        clear hpn PV hp
        generalize pvL n t zs = ys at HY NY TT RB RO SW SN
        obtain ⟨s2, hs2⟩ : ∃ s2, (if p = t then s else -s) = s2 := ⟨_, rfl⟩
        have SP : Hid (p = t → s2 = s) := fun h => by rw [← hs2, if_pos h]
        have SM : Hid (p ≠ t → s2 = -s) := fun h => by rw [← hs2, if_neg h]
        have S2 : Hid (s2 = 1 ∨ s2 = -1) := by have := S.out; show _ ∨ _; by_cases h : p = t; rw [SP.out h]; exact this; rw [SM.out h]; omega
        rw [hs2] at RO
        clear hs2
        obtain ⟨r0, r1, r2, -, -, -⟩ := R3.out.all
        have np : decide ((p : Int) < 0) = false := by simp
        go_upto_if 27 with fail
        go_cut [5] (fun s5 wx => s5 = .int .i64 s2 ∧ Ints wx g ys ∧ W.grownBy wx (some g))
        case first =>
          by_cases hpt : p = t
          · have n2 : ((p : Int) != (t : Int)) = false := by simp [hpt]
            have n3 : ((p : Int) == (t : Int)) = true := by simp [hpt]
            have e2 := SP.out hpt
            have I3 : Hid (Ints w2 g ys) := by rw [← SN.out hpt]; exact I2.out
            clear hpt
            go_wp2_with fail
            go_meet
            exact ⟨by rw [e2], I3.out, G2.out⟩
          · have n2 : ((p : Int) != (t : Int)) = true := by simp; omega
            have n3 : ((p : Int) == (t : Int)) = false := by simp; omega
            have sv : IntKind.i64.wrap (-s) = -s := IntWalk.i64_in _ (by have := S.out; omega)
            go_wp2_with fail
            refine (iSwap n p t N cap g zs _ HN.out HZ.out hpl hlt hpt h6 I2.out).mono ?_
            rintro e w4 ⟨rfl, hi4, hg4⟩
            have G4 := Lib.hid (G2.out.trans hg4)
            have I4 : Hid (Ints w4 g ys) := by rw [← SW.out hpt]; exact hi4
            have e2 := Lib.hid (SM.out hpt)
            clear hi4 hg4
            go_wp2_with fail
            go_meet
            exact ⟨by rw [e2.out], I4.out, G4.out⟩
        case rest =>
          obtain ⟨rfl, hi2, hg2⟩ := hcut
          have I5 := Lib.hid hi2
          have G5 := Lib.hid hg2
          have R5 := Lib.hid (K3.out.keepOne hg2 ng)
          clear hi2 hg2 r0 r1 r2
          obtain ⟨r0, r1, r2, -, -, -⟩ := R5.out.all
          go_wp2_with fail
          refine (iStepIn n t N cap g ys last _ HN.out HY.out hlt h6 hcap NY.out LL.out L0.out I5.out).mono ?_
          rintro e w6 ⟨hcase, hg6⟩
          have G6 := Lib.hid (G5.out.trans hg6)
          have R6 := Lib.hid (K3.out.keepOne G6.out ng)
          clear hg6 r0 r1 r2
          rcases hcase with ⟨rfl, hn6, hi6⟩ | ⟨rfl, hn6⟩
          · obtain ⟨r0, r1, r2, -, -, -⟩ := R6.out.all
            have RN : Hid (stR2 n k (t + 1) (elL n t last ys) (ys.getD (t * n + t) 0) s2 = RES) := RO.out hn6
            have NI := Lib.hid hn6
            have I6 := Lib.hid hi6
            have ce : (t : Int) * (n : Int) = ((t * n : Nat) : Int) := (Int.natCast_mul _ _).symm
            have je : t * n + t < N := by rw [← HN.out]; exact idx_lt (by omega) (by omega)
            have de : 0 ≤ (t : Int) * (n : Int) ∧ (t : Int) * (n : Int) ≤ 600 := by rw [ce]; omega
            have ee0 : 0 ≤ (t : Int) * (n : Int) + (t : Int) := by omega
            have ee1 : (t : Int) * (n : Int) + (t : Int) < (N : Int) := by rw [ce]; omega
            have ee2 : ((t : Int) * (n : Int) + (t : Int)).toNat = t * n + t := by rw [ce]; omega
            obtain ⟨de0, de1⟩ := de
            have ve0 : IntKind.i64.wrap ((t : Int) * (n : Int)) = (t : Int) * (n : Int) := IntWalk.i64_in _ (by omega)
            have ve1 : IntKind.i64.wrap ((t : Int) * (n : Int) + (t : Int)) = (t : Int) * (n : Int) + (t : Int) := IntWalk.i64_in _ (by omega)
            clear ce
            have ha := hi6.cell (i := t * n + t) (by rw [show (elL n t last ys).length = n * n from tab_length _ _ _, HN.out]; exact je)
            rw [elL_tt hlt] at ha
            have nt := nums_at NY.out (j := t * n + t) (by rw [HY.out]; exact je)
            have NT := Lib.hid nt
            have t0 := TT.out
            have T0 := Lib.hid t0
            clear nt t0 hn6 hi6
            go_wp2_with fail
            go_roundw
            case rel => exact ⟨t + 1, k, elL n t last ys, ys.getD (t * n + t) 0, s2, by go_num, by omega, rfl, rfl, S2.out, T0.out, NT.out, by rw [show (elL n t last ys).length = n * n from tab_length _ _ _, HN.out], NI.out, RN.out, fun _ => I6.out, G6.out⟩
            case measure => simp [intOf]; omega
          · have RZ := Lib.hid (RB.out hn6)
            clear hn6
            go_wp2_with fail
            exact bodyPost_ret (v := .tuple #[.int .i64 0, .bool false]) (by simp [results, Try.results27, go_sem]) rfl ⟨by rw [RZ.out], BG.out _ G6.out⟩
    · have hte : t = n := by omega
      obtain rfl : k = 0 := by omega
      have RF : Hid (RES = (s * last, true)) := HR.out.symm
      have ls := LL.out
      have ss := S.out
      unfold NumP at ls
      have vm : IntKind.i64.wrap (s * last) = s * last := IntWalk.i64_in _ (by rcases ss with rfl | rfl <;> omega)
      clear ls ss hte hi hgr hz nz hR hs hln hl0
      go_wp2_with fail
      exact bodyPost_ret (v := .tuple #[.int .i64 (s * last), .bool true]) (by simp [results, Try.results27, go_sem]) rfl ⟨by rw [RF.out], BW.out⟩
set_option maxHeartbeats 1000000 in
theorem iSteps (r c : Int) (a : Option Addr) (m : Nat) (xs : List Int) (w : World) (h : Rd w a xs) (hn : xs.length ≤ 16777216) (_ : Spot a) :
    Calls Try.prog 27 #[.agg #[.int .i64 r, .int .i64 c, .slice a xs.length m]] w (Gives (.tuple #[.int .i64 (stepsOf r c xs).1, .bool (stepsOf r c xs).2]) w) := by
  rcases Bool.eq_false_or_eq_true (isSq r c xs) with hs | hs
  · obtain ⟨n, rfl, rfl, h6, hl, nx⟩ := isSq_says hs
    have V : stepsOf n n xs = stepsM n xs := by unfold stepsOf; rw [if_pos hs]; rfl
    rw [V]
    exact iSteps_t n a m xs w h hl h6 nx hs
  · have V : Hid (stepsOf r c xs = (0, false)) := by show stepsOf r c xs = _; unfold stepsOf; rw [if_neg (by rw [hs]; decide)]
    have H := Lib.hid h
    have HN := Lib.hid hn
    have B0 : Hid (∀ o1, Below w.heap.size w (w.alloc o1)) := fun o1 => (Below.refl _ _).alloc (Nat.le_refl _) _
    have SQ : Hid (∀ w', Below w.heap.size w w' → Calls Try.prog 18 #[.agg #[.int .i64 r, .int .i64 c, .slice a xs.length m]] w' (Gives (.bool false) w')) := fun w' hb => by
      have := iIsSq r c a m xs w' (H.out.below hb) HN.out
      rw [hs] at this
      exact this
    clear hs h hn
    generalize xs.length = l at SQ ⊢
    go_enter Try.func27, Try.ntmps27
    go_wp2_with fail
    refine (SQ.out _ (B0.out _)).mono ?_
    rintro e w1 ⟨rfl, hb⟩
    have B : Hid (Below w.heap.size w w1) := (B0.out _).trans (hb.mono (by simp))
    clear hb
    go_wp2_with fail
    exact bodyPost_ret (v := .tuple #[.int .i64 0, .bool false]) (by simp [results, Try.results27, go_sem]) rfl ⟨by rw [V.out], B.out⟩
end Go.Proofs.Ytdnajkoeojlnbaa
end
