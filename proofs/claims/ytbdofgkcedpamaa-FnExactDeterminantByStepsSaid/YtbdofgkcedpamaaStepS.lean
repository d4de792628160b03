/-
  Chapter 6, in the model: DeterminantBySteps.
-/
import Derived.Test.YtbdofgkcedpamaaElTo
import Derived.Test.YtbdofgkcedpamaaSq
import Derived.Test.YtbdofgkcedpamaaDetO
import Derived.Test.YtbdofgkcedpamaaRow3
import Derived.Test.YtbdofgkcedpamaaRow2n
import Derived.StillTailTactics
namespace Go.Proofs.Ytbdofgkcedpamaa
set_option maxRecDepth 100000
open Go.RowKit

def stepsOf (r c : Int) (xs : List Int) : Int × Bool := if isSq r c xs = true then stepsM r.toNat xs else (0, false)
set_option maxRecDepth 100000 in
set_option maxHeartbeats 4000000 in
theorem sSteps_t (n : Nat) (a : Option Addr) (m : Nat) (xs : List Int) (w : World) (h : Rd w a xs) (ha : Spot a) (hx : xs.length = n * n) (h6 : n ≤ 6) (nx : nums xs = true) (hs : isSq n n xs = true) :
    Calls Try.prog 39 #[.agg #[.int .i64 n, .int .i64 n, .slice a xs.length m]] w (Gives (.tuple #[.int .i64 (stepsM n xs).1, .bool (stepsM n xs).2]) w) := by
  have hle : n * n ≤ 6 * 6 := Nat.mul_le_mul h6 h6
  have B0 : Hid (∀ o1, Below w.heap.size w (w.alloc o1)) := fun o1 => (Below.refl _ _).alloc (Nat.le_refl _) _
  obtain ⟨N, hN⟩ : ∃ N, n * n = N := ⟨_, rfl⟩
  have SQ : Hid (∀ w', Below w.heap.size w w' → Calls Try.prog 44 #[.agg #[.int .i64 n, .int .i64 n, .slice a N m]] w' (Gives (.bool true) w')) := fun w' hb => by
    have := sIsSq n n a m xs w' (h.below hb) (by omega)
    rw [hx, hN, hs] at this
    exact this
  have CP : Hid (∀ w', Below w.heap.size w w' → Calls Try.prog 75 #[.agg #[.int .i64 n, .int .i64 n, .slice a N m]] w' (fun e w2 => ∃ g cap : Nat, e = .returned (.agg #[.int .i64 n, .int .i64 n, .slice (some ⟨g, 0, none⟩) N cap]) ∧ w'.heap.size ≤ g ∧ IntsC w2 g cap xs ∧ Below w'.heap.size w' w2)) := fun w' hb => sCopyA n n a m N xs w' (h.below hb) ha (by omega) (by omega)
  have ST : Hid (stR2 n n 0 xs 1 1 = stepsM n xs) := rfl
  rw [hx, hN]
  rw [hN] at hle hx
  have HN := Lib.hid hN
  have HX := Lib.hid hx
  have NX := Lib.hid nx
  generalize stepsM n xs = RES at ST ⊢
  clear h hx nx hs hN ha
  go_enter Try.func39, Try.ntmps39
  go_wp2_with fail
  refine (SQ.out _ (B0.out _)).mono ?_
  rintro e w0 ⟨rfl, hb⟩
  have K0 : Hid (Blk3 w0 w.heap.size 26 (.int .i64 n) (.int .i64 n) (.slice a N m)) := (Blk3.at_ _ _ _ _ rfl).keep hb (by simp)
  have B : Hid (Below w.heap.size w w0) := (B0.out _).trans (hb.mono (by simp))
  clear hb
  obtain ⟨p0, p1, p2, -, -, -⟩ := K0.out.all
  go_wp2_with fail
  refine (CP.out _ B.out).mono ?_
  rintro e w1 ⟨g, cap, rfl, hg, hi, hb⟩
  have l0 := K0.out.lt
  have K0 := Lib.hid (K0.out.step hb)
  have B := Lib.hid (stepB B.out hb)
  have gl := hi.lt
  have I := Lib.hid (hi.ints.old (.cells #[.int .i64 n, .int .i64 n, .slice (some ⟨g, 0, none⟩) N cap] 26))
  have l1 : w.heap.size < g := by omega
  have BA := Lib.hid (B.out.alloc B.out.size (.cells #[.int .i64 n, .int .i64 n, .slice (some ⟨g, 0, none⟩) N cap] 26))
  have K0 := Lib.hid (K0.out.old (.cells #[.int .i64 n, .int .i64 n, .slice (some ⟨g, 0, none⟩) N cap] 26))
  have K3 : Hid (Blk3 (w1.alloc (.cells #[.int .i64 n, .int .i64 n, .slice (some ⟨g, 0, none⟩) N cap] 26)) w1.heap.size 26 (.int .i64 n) (.int .i64 n) (.slice (some ⟨g, 0, none⟩) N cap)) := Blk3.at_ _ _ _ _ rfl
  clear hb hi hg p0 p1 p2
  go_upto_region 4 with fail
  generalize w1.alloc (.cells #[.int .i64 n, .int .i64 n, .slice (some ⟨g, 0, none⟩) N cap] 26) = W at I BA K0 K3 ⊢
  obtain ⟨ob, hob⟩ : ∃ ob, w1.heap.size = ob := ⟨_, rfl⟩
  rw [hob] at K3 gl ⊢
  clear hob
  obtain ⟨p0, p1, p2, -, -, -⟩ := K0.out.all
  go_wp2_with fail
  clear p0 p1 p2
  go_loopw [2, 3, 6, 7, 8, 9, 10, 11, 12] (fun _ _ v6 v7 v8 _ _ _ _ wr => ∃ (t k : Nat) (zs : List Int) (last s : Int), v8 = .int .i64 t ∧ t + k = n ∧ v6 = .int .i64 last ∧ v7 = .int .i64 s ∧ (s = 1 ∨ s = -1) ∧ last ≠ 0 ∧ NumP last ∧ zs.length = N ∧ nums zs = true ∧ stR2 n k t zs last s = RES ∧ Ints wr g zs ∧ W.grownBy wr (some g)) (fun _ _ _ _ v8 _ _ _ _ _ => n - (intOf v8).toNat)
  case atStart => exact ⟨0, n, xs, 1, 1, rfl, by omega, rfl, rfl, .inl rfl, by decide, by decide, HX.out, NX.out, ST.out, I.out, World.grownBy.refl _ _⟩
  case round =>
    obtain ⟨t, k, zs, last, s, rfl, htk, rfl, rfl, hs, hl0, hln, hz, nz, hR, hi, hgr⟩ := hrel
    have I := Lib.hid hi
    have G := Lib.hid hgr
    have HZ := Lib.hid hz
    have NZ := Lib.hid nz
    have HR := Lib.hid hR
    have S := Lib.hid hs
    have LL := Lib.hid hln
    have L0 := Lib.hid hl0
    clear hi hgr hz nz hR hs hln hl0
    have R3 := Lib.hid (K3.out.keepOne G.out (by omega))
    have BW := Lib.hid (BA.out.trans (below_of_one G.out (by omega) BA.out.size))
    obtain ⟨r0, r1, r2, -, -, -⟩ := R3.out.all
    by_cases hlt : t < n
    · obtain ⟨k, rfl⟩ : ∃ q, k = q + 1 := ⟨k - 1, by omega⟩
      go_wp2_with fail
      go_loopw [9] (fun v9 wq => ∃ p : Nat, v9 = .int .i64 p ∧ t ≤ p ∧ p ≤ n ∧ (∀ r, t ≤ r → r < p → zs.getD (r * n + t) 0 = 0) ∧ wq = wr) (fun v9 _ => n - (intOf v9).toNat)
      case atStart => exact ⟨t, rfl, Nat.le_refl _, by omega, fun r h1 h2 => by omega, rfl⟩
      case round =>
        obtain ⟨p, rfl, hp1, hp2, hp0, rfl⟩ := hrel
        have P0 := Lib.hid hp0
        clear hp0
        by_cases hpn : p < n
        · have cp : (p : Int) * (n : Int) = ((p * n : Nat) : Int) := (Int.natCast_mul _ _).symm
          have jp : p * n + t < N := by rw [← HN.out]; exact idx_lt (by omega) (by omega)
          have dp : 0 ≤ (p : Int) * (n : Int) ∧ (p : Int) * (n : Int) ≤ 600 := by rw [cp]; omega
          have ep0 : 0 ≤ (p : Int) * (n : Int) + (t : Int) := by omega
          have ep1 : (p : Int) * (n : Int) + (t : Int) < (N : Int) := by rw [cp]; omega
          have ep2 : ((p : Int) * (n : Int) + (t : Int)).toNat = p * n + t := by rw [cp]; omega
          obtain ⟨dp0, dp1⟩ := dp
          have vp0 : IntKind.i64.wrap ((p : Int) * (n : Int)) = (p : Int) * (n : Int) := IntWalk.i64_in _ (by omega)
          have vp1 : IntKind.i64.wrap ((p : Int) * (n : Int) + (t : Int)) = (p : Int) * (n : Int) + (t : Int) := IntWalk.i64_in _ (by omega)
          clear cp
          have hc := I.out.cell (i := p * n + t) (by rw [HZ.out]; exact jp)
          obtain ⟨x, hxx⟩ : ∃ x, zs.getD (p * n + t) 0 = x := ⟨_, rfl⟩
          have X := Lib.hid hxx
          rw [hxx] at hc
          clear hxx
          by_cases h0 : x = 0
          · have n1 : (x == 0) = true := by simp [h0]
            have P1 : Hid (∀ r, t ≤ r → r < p + 1 → zs.getD (r * n + t) 0 = 0) := fun r h1 h2 => by
              rcases Nat.lt_or_ge r p with h3 | h3
              · exact P0.out r h1 h3
              · obtain rfl : r = p := by omega
                rw [X.out, h0]
            clear h0
            go_wp2_with fail
            go_roundw
            case rel => exact ⟨p + 1, by go_num, by omega, by omega, P1.out, trivial⟩
            case measure => simp [intOf]; omega
          · have n1 : (x == 0) = false := by simpa using h0
            have PV : Hid (pivP n t zs = p) := pivP_eq hp1 hp2 P0.out fun _ => by rw [X.out]; exact h0
            have hpv : pivP n t zs < n := by rw [PV.out]; exact hpn
            have HY : Hid ((pvL n t zs).length = N) := by show _ = _; rw [pvL_length, HZ.out]
            have NY : Hid (nums (pvL n t zs) = true) := pvL_nums (by rw [HZ.out, HN.out]) hpv hlt NZ.out
            have TT : Hid ((pvL n t zs).getD (t * n + t) 0 ≠ 0) := by show _ ≠ _; rw [pvL_at (by rw [HZ.out, HN.out]) hlt hlt, if_pos rfl, PV.out, X.out]; exact h0
            have RB : Hid (nums (elL n t last (pvL n t zs)) ≠ true → RES = (0, false)) := fun hb => by rw [← HR.out]; exact stR2_bad (by rw [PV.out]; omega) hb
            have RO : Hid (nums (elL n t last (pvL n t zs)) = true → stR2 n k (t + 1) (elL n t last (pvL n t zs)) ((pvL n t zs).getD (t * n + t) 0) (if p = t then s else -s) = RES) := fun hb => by
              have := stR2_on (k := k) (s := s) (show pivP n t zs ≠ n by rw [PV.out]; omega) hb
              rw [HR.out, PV.out] at this
              exact this.symm
            have SW : Hid (p ≠ t → opL 0 p t 0 n zs = pvL n t zs) := fun hpt => by unfold pvL; rw [PV.out, if_neg hpt]
            have SN : Hid (p = t → zs = pvL n t zs) := fun hpt => by unfold pvL; rw [PV.out, if_pos hpt]
            clear h0 hpv
            generalize pvL n t zs = ys at HY NY TT RB RO SW SN
            obtain ⟨s2, hs2⟩ : ∃ s2, (if p = t then s else -s) = s2 := ⟨_, rfl⟩
            have SP : Hid (p = t → s2 = s) := fun h => by rw [← hs2, if_pos h]
            have SM : Hid (p ≠ t → s2 = -s) := fun h => by rw [← hs2, if_neg h]
            have S2 : Hid (s2 = 1 ∨ s2 = -1) := by have := S.out; show _ ∨ _; by_cases h : p = t; rw [SP.out h]; exact this; rw [SM.out h]; omega
            rw [hs2] at RO
            clear hs2
            have n0 : decide ((p : Int) < (n : Int)) = true := by simpa using hpn
            have n3 : ((p : Int) == (n : Int)) = false := by simp; omega
            go_upto_if 48 with fail
            go_cut [7] (fun s7 wx => s7 = .int .i64 s2 ∧ Ints wx g ys ∧ W.grownBy wx (some g))
            case first =>
              by_cases hpt : p = t
              · have n2 : ((p : Int) != (t : Int)) = false := by simp [hpt]
                have e2 := SP.out hpt
                have I2 : Hid (Ints wr g ys) := by rw [← SN.out hpt]; exact I.out
                go_wp2_with fail
                go_meet
                exact ⟨by rw [e2], I2.out, G.out⟩
              · have n2 : ((p : Int) != (t : Int)) = true := by simp; omega
                have sv : IntKind.i64.wrap (-s) = -s := IntWalk.i64_in _ (by have := S.out; omega)
                go_wp2_with fail
                refine (sDo n n p t g N cap 0 0 zs _ I.out HZ.out HN.out.symm (by omega) (by omega) hpn hlt (.inl rfl) (fun _ => hpt)).mono ?_
                rintro e w4 ⟨rfl, hi4, hg4⟩
                have G2 := Lib.hid (G.out.trans hg4)
                have I2 : Hid (Ints w4 g ys) := by rw [← SW.out hpt]; exact hi4
                have e2 := Lib.hid (SM.out hpt)
                clear hi4 hg4
                go_wp2_with fail
                go_meet
                exact ⟨by rw [e2.out], I2.out, G2.out⟩
            case rest =>
              obtain ⟨rfl, hi2, hg2⟩ := hcut
              have I2 := Lib.hid hi2
              have G2 := Lib.hid hg2
              clear hi2 hg2
              go_wp2_with fail
              go_loopw [2, 3, 10, 11, 12] (fun _ _ v10 _ _ wu => ∃ i : Nat, v10 = .int .i64 i ∧ t + 1 ≤ i ∧ i ≤ n ∧ nums (elTo n t last ys i (t + 1)) = true ∧ Ints wu g (elTo n t last ys i (t + 1)) ∧ W.grownBy wu (some g)) (fun _ _ v10 _ _ _ => n - (intOf v10).toNat)
              case atStart => exact ⟨t + 1, by go_num, Nat.le_refl _, by omega, by rw [elTo_start (by rw [HY.out, HN.out])]; exact NY.out, by rw [elTo_start (by rw [HY.out, HN.out])]; exact I2.out, G2.out⟩
              case round =>
                obtain ⟨i, rfl, hi1, hi2, hni, hii, hgi⟩ := hrel
                have NI := Lib.hid hni
                have II := Lib.hid hii
                have GI := Lib.hid hgi
                clear hni hii hgi
                by_cases hin : i < n
                · go_wp2_with fail
                  go_loopw [2, 3, 11, 12] (fun _ _ v11 _ wv => ∃ j : Nat, v11 = .int .i64 j ∧ t + 1 ≤ j ∧ j ≤ n ∧ nums (elTo n t last ys i j) = true ∧ Ints wv g (elTo n t last ys i j) ∧ W.grownBy wv (some g)) (fun _ _ v11 _ _ => n - (intOf v11).toNat)
                  case atStart => exact ⟨t + 1, by go_num, Nat.le_refl _, by omega, NI.out, II.out, GI.out⟩
                  case round =>
                    obtain ⟨j, rfl, hj1, hj2, hnj, hij, hgj⟩ := hrel
                    have NJ := Lib.hid hnj
                    have IJ := Lib.hid hij
                    have GJ := Lib.hid hgj
                    clear hnj hij hgj
                    have R3 := Lib.hid (K3.out.keepOne GJ.out (by omega))
                    have BV := Lib.hid (BA.out.trans (below_of_one GJ.out (by omega) BA.out.size))
                    clear r0 r1 r2
                    obtain ⟨r0, r1, r2, -, -, -⟩ := R3.out.all
                    by_cases hjn : j < n
                    · have ti : t < i := by omega
                      have tj : t < j := by omega
                      have ca : (i : Int) * (n : Int) = ((i * n : Nat) : Int) := (Int.natCast_mul _ _).symm
                      have ja : i * n + j < N := by rw [← HN.out]; exact idx_lt (by omega) (by omega)
                      have da : 0 ≤ (i : Int) * (n : Int) ∧ (i : Int) * (n : Int) ≤ 600 := by rw [ca]; omega
                      have ea0 : 0 ≤ (i : Int) * (n : Int) + (j : Int) := by omega
                      have ea1 : (i : Int) * (n : Int) + (j : Int) < (N : Int) := by rw [ca]; omega
                      have ea2 : ((i : Int) * (n : Int) + (j : Int)).toNat = i * n + j := by rw [ca]; omega
                      obtain ⟨da0, da1⟩ := da
                      have va0 : IntKind.i64.wrap ((i : Int) * (n : Int)) = (i : Int) * (n : Int) := IntWalk.i64_in _ (by omega)
                      have va1 : IntKind.i64.wrap ((i : Int) * (n : Int) + (j : Int)) = (i : Int) * (n : Int) + (j : Int) := IntWalk.i64_in _ (by omega)
                      clear ca
                      have cb : (t : Int) * (n : Int) = ((t * n : Nat) : Int) := (Int.natCast_mul _ _).symm
                      have jb : t * n + t < N := by rw [← HN.out]; exact idx_lt (by omega) (by omega)
                      have db : 0 ≤ (t : Int) * (n : Int) ∧ (t : Int) * (n : Int) ≤ 600 := by rw [cb]; omega
                      have eb0 : 0 ≤ (t : Int) * (n : Int) + (t : Int) := by omega
                      have eb1 : (t : Int) * (n : Int) + (t : Int) < (N : Int) := by rw [cb]; omega
                      have eb2 : ((t : Int) * (n : Int) + (t : Int)).toNat = t * n + t := by rw [cb]; omega
                      obtain ⟨db0, db1⟩ := db
                      have vb0 : IntKind.i64.wrap ((t : Int) * (n : Int)) = (t : Int) * (n : Int) := IntWalk.i64_in _ (by omega)
                      have vb1 : IntKind.i64.wrap ((t : Int) * (n : Int) + (t : Int)) = (t : Int) * (n : Int) + (t : Int) := IntWalk.i64_in _ (by omega)
                      clear cb
                      have cc : (i : Int) * (n : Int) = ((i * n : Nat) : Int) := (Int.natCast_mul _ _).symm
                      have jc : i * n + t < N := by rw [← HN.out]; exact idx_lt (by omega) (by omega)
                      have dc : 0 ≤ (i : Int) * (n : Int) ∧ (i : Int) * (n : Int) ≤ 600 := by rw [cc]; omega
                      have ec0 : 0 ≤ (i : Int) * (n : Int) + (t : Int) := by omega
                      have ec1 : (i : Int) * (n : Int) + (t : Int) < (N : Int) := by rw [cc]; omega
                      have ec2 : ((i : Int) * (n : Int) + (t : Int)).toNat = i * n + t := by rw [cc]; omega
                      obtain ⟨dc0, dc1⟩ := dc
                      have vc0 : IntKind.i64.wrap ((i : Int) * (n : Int)) = (i : Int) * (n : Int) := IntWalk.i64_in _ (by omega)
                      have vc1 : IntKind.i64.wrap ((i : Int) * (n : Int) + (t : Int)) = (i : Int) * (n : Int) + (t : Int) := IntWalk.i64_in _ (by omega)
                      clear cc
                      have cd : (t : Int) * (n : Int) = ((t * n : Nat) : Int) := (Int.natCast_mul _ _).symm
                      have jd : t * n + j < N := by rw [← HN.out]; exact idx_lt (by omega) (by omega)
                      have dd : 0 ≤ (t : Int) * (n : Int) ∧ (t : Int) * (n : Int) ≤ 600 := by rw [cd]; omega
                      have ed0 : 0 ≤ (t : Int) * (n : Int) + (j : Int) := by omega
                      have ed1 : (t : Int) * (n : Int) + (j : Int) < (N : Int) := by rw [cd]; omega
                      have ed2 : ((t : Int) * (n : Int) + (j : Int)).toNat = t * n + j := by rw [cd]; omega
                      obtain ⟨dd0, dd1⟩ := dd
                      have vd0 : IntKind.i64.wrap ((t : Int) * (n : Int)) = (t : Int) * (n : Int) := IntWalk.i64_in _ (by omega)
                      have vd1 : IntKind.i64.wrap ((t : Int) * (n : Int) + (j : Int)) = (t : Int) * (n : Int) + (j : Int) := IntWalk.i64_in _ (by omega)
                      clear cd
                      have hla : (elTo n t last ys i j).length = N := by rw [elTo_length, HN.out]
                      have ha := IJ.out.cell (i := i * n + j) (by rw [hla]; exact ja)
                      have hb := IJ.out.cell (i := t * n + t) (by rw [hla]; exact jb)
                      have hc := IJ.out.cell (i := i * n + t) (by rw [hla]; exact jc)
                      have hd := IJ.out.cell (i := t * n + j) (by rw [hla]; exact jd)
                      rw [elTo_old hin hjn (by omega)] at ha
                      rw [elTo_old hlt hlt (by omega)] at hb
                      rw [elTo_old hin hlt (by omega)] at hc
                      rw [elTo_old hlt hjn (by omega)] at hd
                      have EA : Hid (elAt n t last ys i j = (ys.getD (i * n + j) 0 * ys.getD (t * n + t) 0 - ys.getD (i * n + t) 0 * ys.getD (t * n + j) 0).tdiv last) := rfl
                      have na := nums_at NY.out (j := i * n + j) (by rw [HY.out]; exact ja)
                      have nb := nums_at NY.out (j := t * n + t) (by rw [HY.out]; exact jb)
                      have nc := nums_at NY.out (j := i * n + t) (by rw [HY.out]; exact jc)
                      have nd := nums_at NY.out (j := t * n + j) (by rw [HY.out]; exact jd)
                      generalize ys.getD (i * n + j) 0 = xa at ha na EA
                      generalize hxb : ys.getD (t * n + t) 0 = xb at hb nb EA
                      generalize ys.getD (i * n + t) 0 = xc at hc nc EA
                      generalize ys.getD (t * n + j) 0 = xd at hd nd EA
                      have XB := Lib.hid hxb
                      clear hxb hla
                      have m1 := mul_num _ _ na nb
                      have m2 := mul_num _ _ nc nd
                      have v1 : IntKind.i64.wrap (xa * xb) = xa * xb := IntWalk.i64_in _ (by omega)
                      have v2 : IntKind.i64.wrap (xc * xd) = xc * xd := IntWalk.i64_in _ (by omega)
                      have v3 : IntKind.i64.wrap (xa * xb - xc * xd) = xa * xb - xc * xd := IntWalk.i64_in _ (by omega)
                      have m3 := tdiv_in (x := xa * xb - xc * xd) (y := last) (b := 320000000000000000) (by omega) (by omega)
                      have v4 : IntKind.i64.wrap ((xa * xb - xc * xd).tdiv last) = (xa * xb - xc * xd).tdiv last := IntWalk.i64_in _ (by omega)
                      obtain ⟨y, hy⟩ : ∃ y, elAt n t last ys i j = y := ⟨_, rfl⟩
                      have Y := Lib.hid hy
                      rw [hy] at EA
                      rw [← EA.out] at v4
                      have EB := Lib.hid EA.out.symm
                      have q0 : (xa * xb - xc * xd).tdiv last = y := EB.out
                      have l0 := L0.out
                      have l00 : (last == 0) = false := by simpa using l0
                      clear na nb nc nd m1 m2 m3 hy
                      go_wp2_with fail
                      go_still_tail 41, (by kernel_rfl)
                      go_wp2_with fail
                      refine (sFit y _).mono ?_
                      rintro e w5 ⟨rfl, rfl⟩
                      clear ha hb hc hd r0 r1 r2
                      have ID := Lib.hid IJ.out.drew
                      have GD := Lib.hid (grown_drew_one GJ.out)
                      have RD := Lib.hid R3.out.drew
                      have BD := Lib.hid BV.out.drew
                      have ES := Lib.hid (elTo_step (last := last) (xs := ys) hin hjn ti tj)
                      have hla : (elTo n t last ys i j).length = N := by rw [elTo_length, HN.out]
                      have hold := ID.out.cell (i := i * n + j) (by rw [hla]; exact ja)
                      have hfr := ID.out.free (i * n + j)
                      obtain ⟨r0, r1, r2, -, -, -⟩ := RD.out.all
                      clear hla
                      by_cases hy : NumP y
                      · have NS : Hid (nums (elTo n t last ys i (j + 1)) = true) := by show nums _ = true; rw [← ES.out, Y.out]; exact nums_set NJ.out hy
                        have n4 : (y == -4611686018427387904) = false := by have h := hy; unfold NumP at h; simp; omega
                        rw [show fitB y = y from if_pos hy]
                        clear hy
                        go_wp2_with fail
                        go_roundw
                        case rel =>
                          refine ⟨j + 1, by go_num, by omega, by omega, NS.out, ?_, grown_set_one GD.out rfl _⟩
                          rw [← ES.out, Y.out]
                          exact ID.out.set (i * n + j) y
                        case measure => simp [intOf]; omega
                      · have RZ : Hid (RES = (0, false)) := RB.out (elL_bad hin hjn ti tj (by rw [Y.out]; exact hy))
                        rw [show fitB y = -4611686018427387904 from if_neg hy]
                        clear hy
                        go_wp2_with fail
                        exact bodyPost_ret (v := .tuple #[.int .i64 0, .bool false]) (by simp [results, Try.results39, go_sem]) rfl ⟨by rw [RZ.out], BD.out⟩
                    · have hjn : j = n := by omega
                      rw [hjn] at NJ IJ
                      go_wp2_with fail
                      go_roundw
                      case rel => exact ⟨i + 1, by go_num, by omega, by omega, by rw [← elTo_row]; exact NJ.out, by rw [← elTo_row]; exact IJ.out, GJ.out⟩
                      case measure => simp [intOf]; omega
                · have hie : i = n := by omega
                  rw [hie] at NI II
                  rw [elTo_all] at NI II
                  have RN : Hid (stR2 n k (t + 1) (elL n t last ys) (ys.getD (t * n + t) 0) (s2) = RES) := RO.out NI.out
                  have R3 := Lib.hid (K3.out.keepOne GI.out (by omega))
                  clear r0 r1 r2
                  obtain ⟨r0, r1, r2, -, -, -⟩ := R3.out.all
                  have ce : (t : Int) * (n : Int) = ((t * n : Nat) : Int) := (Int.natCast_mul _ _).symm
                  have je : t * n + t < N := by rw [← HN.out]; exact idx_lt (by omega) (by omega)
                  have de : 0 ≤ (t : Int) * (n : Int) ∧ (t : Int) * (n : Int) ≤ 600 := by rw [ce]; omega
                  have ee0 : 0 ≤ (t : Int) * (n : Int) + (t : Int) := by omega
                  have ee1 : (t : Int) * (n : Int) + (t : Int) < (N : Int) := by rw [ce]; omega
                  have ee2 : ((t : Int) * (n : Int) + (t : Int)).toNat = t * n + t := by rw [ce]; omega
                  obtain ⟨de0, de1⟩ := de
                  have ve0 : IntKind.i64.wrap ((t : Int) * (n : Int)) = (t : Int) * (n : Int) := IntWalk.i64_in _ (by omega)
                  have ve1 : IntKind.i64.wrap ((t : Int) * (n : Int) + (t : Int)) = (t : Int) * (n : Int) + (t : Int) := IntWalk.i64_in _ (by omega)
                  clear ce
                  have ha := II.out.cell (i := t * n + t) (by rw [show (elL n t last ys).length = n * n from tab_length _ _ _, HN.out]; exact je)
                  rw [elL_tt hlt] at ha
                  have nt := nums_at NY.out (j := t * n + t) (by rw [HY.out]; exact je)
                  have NT := Lib.hid nt
                  have t0 := TT.out
                  have T0 := Lib.hid t0
                  clear nt t0
                  go_wp2_with fail
                  go_roundw
                  case rel => exact ⟨t + 1, k, elL n t last ys, ys.getD (t * n + t) 0, s2, by go_num, by omega, rfl, rfl, S2.out, T0.out, NT.out, by rw [show (elL n t last ys).length = n * n from tab_length _ _ _, HN.out], NI.out, RN.out, II.out, GI.out⟩
                  case measure => simp [intOf]; omega
        · have hpe : p = n := by omega
          have R0 : Hid (RES = (0, true)) := by show RES = _; rw [← HR.out]; exact stR2_none ((pivP_eq hp1 hp2 P0.out fun h => absurd h hpn).trans hpe)
          have n1 : decide ((p : Int) < (n : Int)) = false := by simpa using hpn
          have n2 : ((p : Int) == (n : Int)) = true := by simp [hpe]
          clear hpe
          go_wp2_with fail
          exact bodyPost_ret (v := .tuple #[.int .i64 0, .bool true]) (by simp [results, Try.results39, go_sem]) rfl ⟨by rw [R0.out], BW.out⟩
    · have hte : t = n := by omega
      obtain rfl : k = 0 := by omega
      have RF : Hid (RES = (s * last, true)) := HR.out.symm
      have ls := LL.out
      have ss := S.out
      unfold NumP at ls
      have vm : IntKind.i64.wrap (s * last) = s * last := IntWalk.i64_in _ (by rcases ss with rfl | rfl <;> omega)
      clear ls ss hte
      go_wp2_with fail
      exact bodyPost_ret (v := .tuple #[.int .i64 (s * last), .bool true]) (by simp [results, Try.results39, go_sem]) rfl ⟨by rw [RF.out], BW.out⟩
set_option maxHeartbeats 1000000 in
theorem sSteps (r c : Int) (a : Option Addr) (m : Nat) (xs : List Int) (w : World) (h : Rd w a xs) (hn : xs.length ≤ 16777216) (ha : Spot a) :
    Calls Try.prog 39 #[.agg #[.int .i64 r, .int .i64 c, .slice a xs.length m]] w (Gives (.tuple #[.int .i64 (stepsOf r c xs).1, .bool (stepsOf r c xs).2]) w) := by
  rcases Bool.eq_false_or_eq_true (isSq r c xs) with hs | hs
  · obtain ⟨n, rfl, rfl, h6, hl, nx⟩ := isSq_says hs
    have V : stepsOf n n xs = stepsM n xs := by unfold stepsOf; rw [if_pos hs]; rfl
    rw [V]
    exact sSteps_t n a m xs w h ha hl h6 nx hs
  · have V : Hid (stepsOf r c xs = (0, false)) := by show stepsOf r c xs = _; unfold stepsOf; rw [if_neg (by rw [hs]; decide)]
    have H := Lib.hid h
    have HN := Lib.hid hn
    have B0 : Hid (∀ o1, Below w.heap.size w (w.alloc o1)) := fun o1 => (Below.refl _ _).alloc (Nat.le_refl _) _
    have SQ : Hid (∀ w', Below w.heap.size w w' → Calls Try.prog 44 #[.agg #[.int .i64 r, .int .i64 c, .slice a xs.length m]] w' (Gives (.bool false) w')) := fun w' hb => by
      have := sIsSq r c a m xs w' (H.out.below hb) HN.out
      rw [hs] at this
      exact this
    clear hs h hn
    generalize xs.length = l at SQ ⊢
    go_enter Try.func39, Try.ntmps39
    go_wp2_with fail
    refine (SQ.out _ (B0.out _)).mono ?_
    rintro e w1 ⟨rfl, hb⟩
    have B : Hid (Below w.heap.size w w1) := (B0.out _).trans (hb.mono (by simp))
    clear hb
    go_wp2_with fail
    exact bodyPost_ret (v := .tuple #[.int .i64 0, .bool false]) (by simp [results, Try.results39, go_sem]) rfl ⟨by rw [V.out], B.out⟩
end Go.Proofs.Ytbdofgkcedpamaa
