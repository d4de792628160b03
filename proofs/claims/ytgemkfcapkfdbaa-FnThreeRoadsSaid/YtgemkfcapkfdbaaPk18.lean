/-
  Texts of this seat, joined: StepsI
-/
import Derived.Test.YtgemkfcapkfdbaaPk9
import Derived.Test.YtgemkfcapkfdbaaPk15
import Derived.Test.YtgemkfcapkfdbaaPk17

section
/-
  Chapter 6, in the program: DeterminantBySteps.
-/
namespace Go.Proofs.Ytgemkfcapkfdbaa
set_option maxRecDepth 100000
open Go.RowKit

set_option maxHeartbeats 2000000 in
theorem iSteps_t (n : Nat) (a : Option Addr) (m : Nat) (xs : List Int) (w : World) (h : Rd w a xs) (hx : xs.length = n * n) (h6 : n ≤ 6) (nx : nums xs = true) (hs : isSq n n xs = true) :
    Calls Try.prog 20 #[.agg #[.int .i64 n, .int .i64 n, .slice a xs.length m]] w (Gives (.tuple #[.int .i64 (stepsM n xs).1, .bool (stepsM n xs).2]) w) := by
  have hle : n * n ≤ 6 * 6 := Nat.mul_le_mul h6 h6
  have B0 : Hid (∀ o1, Below w.heap.size w (w.alloc o1)) := fun o1 => (Below.refl _ _).alloc (Nat.le_refl _) _
  obtain ⟨N, hN⟩ : ∃ N, n * n = N := ⟨_, rfl⟩
  have SQ : Hid (∀ w', Below w.heap.size w w' → Calls Try.prog 45 #[.agg #[.int .i64 n, .int .i64 n, .slice a N m]] w' (Gives (.bool true) w')) := fun w' hb => by
    have := iIsSq n n a m xs w' (h.below hb) (by omega)
    rw [hx, hN, hs] at this
    exact this
  have CP : Hid (∀ w', Below w.heap.size w w' → Calls Try.prog 51 #[.agg #[.int .i64 n, .int .i64 n, .slice a N m]] w' (CopyM n n N xs w')) := fun w' hb => iCopyOf n n a m N xs (by omega) w' (h.below hb) (by omega)
  have ST : Hid (stR2 n n 0 xs 1 1 = stepsM n xs) := rfl
  rw [hx, hN]
  rw [hN] at hle hx
  have HN := Lib.hid hN
  have HX := Lib.hid hx
  have NX := Lib.hid nx
  generalize stepsM n xs = RES at ST ⊢
  clear h hx nx hs hN
  go_enter Try.func20, Try.ntmps20
  go_wp2_with fail
  refine (SQ.out _ (B0.out _)).mono ?_
  rintro e w0 ⟨rfl, hb⟩
  have K0 : Hid (Blk3 w0 w.heap.size 34 (.int .i64 n) (.int .i64 n) (.slice a N m)) := (Blk3.at_ _ _ _ _ rfl).keep hb (by simp)
  have B : Hid (Below w.heap.size w w0) := (B0.out _).trans (hb.mono (by simp))
  clear hb
  obtain ⟨p0, p1, p2, -, -, -⟩ := K0.out.all
  go_wp2_with fail
  refine (CP.out _ B.out).mono ?_
  rintro e w1 ⟨q, cap, rfl, own, hb⟩
  have B1 := Lib.hid (stepB B.out hb)
  have l0 : w.heap.size < w0.heap.size := K0.out.lt
  obtain ⟨g, hg, gl, HQ⟩ : ∃ g, w0.heap.size ≤ g ∧ g ≤ w1.heap.size ∧ (0 < n → q = some ⟨g, 0, none⟩ ∧ N ≤ cap ∧ Ints w1 g xs) := by
    rcases own with ⟨e, -⟩ | ⟨g, c, e, hB, hi, hl, -⟩
    · injection e with _ e _
      exact ⟨w1.heap.size, hb.size, Nat.le_refl _, fun hp => by
        have : 0 < n * n := Nat.mul_pos hp hp
        rw [HN.out] at this
        omega⟩
    · injection e with e1 e2 e3
      subst e1
      exact ⟨g, hB, Nat.le_of_lt hi.lt, fun _ => ⟨rfl, by omega, hi⟩⟩
  have HQ := Lib.hid HQ
  have l1 : w.heap.size < g := by omega
  have BA := Lib.hid (B1.out.alloc B1.out.size (.cells #[.int .i64 n, .int .i64 n, .slice q N cap] 34))
  have K3 : Hid (Blk3 (w1.alloc (.cells #[.int .i64 n, .int .i64 n, .slice q N cap] 34)) w1.heap.size 34 (.int .i64 n) (.int .i64 n) (.slice q N cap)) := Blk3.at_ _ _ _ _ rfl
  have II : Hid (0 < n → Ints (w1.alloc (.cells #[.int .i64 n, .int .i64 n, .slice q N cap] 34)) g xs) := fun hp => (HQ.out hp).2.2.old _
  have QQ : Hid (0 < n → q = some ⟨g, 0, none⟩ ∧ N ≤ cap ∧ g < w1.heap.size) := fun hp => ⟨(HQ.out hp).1, (HQ.out hp).2.1, (HQ.out hp).2.2.lt⟩
  clear hb own p0 p1 p2 HQ
  go_upto_region 4 with fail
  generalize w1.alloc (.cells #[.int .i64 n, .int .i64 n, .slice q N cap] 34) = W at BA K3 II ⊢
  obtain ⟨ob, hob⟩ : ∃ ob, w1.heap.size = ob := ⟨_, rfl⟩
  rw [hob] at K3 gl QQ ⊢
  clear hob
  obtain ⟨p0, p1, p2, -, -, -⟩ := K3.out.all
  go_wp2_with fail
  clear p0 p1 p2
  go_loopw [2, 3, 5, 6, 7, 8, 16] (fun _ _ v5 v6 _ _ v16 wr => ∃ (t k : Nat) (zs : List Int) (last s : Int), v16 = .int .i64 t ∧ t + k = n ∧ v6 = .int .i64 last ∧ v5 = .int .i64 s ∧ (s = 1 ∨ s = -1) ∧ last ≠ 0 ∧ NumP last ∧ zs.length = N ∧ nums zs = true ∧ stR2 n k t zs last s = RES ∧ (0 < n → Ints wr g zs) ∧ W.grownBy wr (some g)) (fun _ _ _ _ _ _ v16 _ => n - (intOf v16).toNat)
  case atStart => exact ⟨0, n, xs, 1, 1, rfl, by omega, rfl, rfl, .inl rfl, by decide, by decide, HX.out, NX.out, ST.out, II.out, World.grownBy.refl _ _⟩
  case round =>
    obtain ⟨t, k, zs, last, s, rfl, htk, rfl, rfl, hs, hl0, hln, hz, nz, hR, hi, hgr⟩ := hrel
    have G := Lib.hid hgr
    have HZ := Lib.hid hz
    have NZ := Lib.hid nz
    have HR := Lib.hid hR
    have S := Lib.hid hs
    have LL := Lib.hid hln
    have L0 := Lib.hid hl0
    have BW := Lib.hid (BA.out.trans (below_of_one hgr (by omega) BA.out.size))
    by_cases hlt : t < n
    · obtain ⟨rfl, hcap, glt⟩ := QQ.out (by omega)
      have ng : ob ≠ g := by omega
      have I := Lib.hid (hi (by omega))
      have R3 := Lib.hid (K3.out.keepOne G.out ng)
      have BG : Hid (∀ w', W.grownBy w' (some g) → Below w.heap.size w w') := fun w' h => BA.out.trans (below_of_one h (by omega) BA.out.size)
      clear hi hgr hz nz hR hs hln hl0 II QQ
      obtain ⟨r0, r1, r2, -, -, -⟩ := R3.out.all
      obtain ⟨k, rfl⟩ : ∃ q, k = q + 1 := ⟨k - 1, by omega⟩
      obtain ⟨z0, z1, z2, z3⟩ := pivP_says (n := n) (t := t) (xs := zs) (by omega)
      have Z2 := Lib.hid z2
      have Z3 := Lib.hid z3
      clear z2 z3
      go_wp2_with fail
      refine (iPivot n t N cap g zs _ HN.out HZ.out hlt h6 I.out).mono ?_
      rintro e w2 ⟨rfl, hb2⟩
      have I2 := Lib.hid (I.out.keep hb2 I.out.lt)
      have G2 := Lib.hid (G.out.trans (grown_of_below hb2 (some g)))
      have R3 := Lib.hid (K3.out.keepOne G2.out ng)
      clear hb2 r0 r1 r2
      by_cases hpn : pivP n t zs = n
      · have PV : pvR6 n t zs = -1 := if_pos hpn
        have R0 : Hid (RES = (0, true)) := by show RES = _; rw [← HR.out]; exact stR2_none hpn
        rw [PV]
        clear PV hpn
        go_wp2_with fail
        exact bodyPost_ret (v := .tuple #[.int .i64 0, .bool true]) (by simp [results, Try.results20, go_sem]) rfl ⟨by rw [R0.out], BG.out _ G2.out⟩
      · have PV : pvR6 n t zs = (pivP n t zs : Int) := if_neg hpn
        obtain ⟨p, hp⟩ : ∃ p, pivP n t zs = p := ⟨_, rfl⟩
        have HP := Lib.hid hp
        have hpl : p < n := by omega
        have HY : Hid ((pvL n t zs).length = N) := by show _ = _; rw [pvL_length, HZ.out]
        have NY : Hid (nums (pvL n t zs) = true) := pvL_nums (by rw [HZ.out, HN.out]) (by rw [hp]; exact hpl) hlt NZ.out
        have TT : Hid ((pvL n t zs).getD (t * n + t) 0 ≠ 0) := by show _ ≠ _; rw [pvL_at (by rw [HZ.out, HN.out]) hlt hlt, if_pos rfl]; exact Z3.out (by rw [hp]; exact hpl)
        have RB : Hid (nums (elL n t last (pvL n t zs)) ≠ true → RES = (0, false)) := fun hb => by rw [← HR.out]; exact stR2_bad hpn hb
        have RO : Hid (nums (elL n t last (pvL n t zs)) = true → stR2 n k (t + 1) (elL n t last (pvL n t zs)) ((pvL n t zs).getD (t * n + t) 0) (if p = t then s else -s) = RES) := fun hb => by
          have := stR2_on (k := k) (s := s) hpn hb
          rw [HR.out, hp] at this
          exact this.symm
        have SW : Hid (p ≠ t → opL 0 p t 0 n zs = pvL n t zs) := fun hpt => by unfold pvL; rw [hp, if_neg hpt]
        have SN : Hid (p = t → zs = pvL n t zs) := fun hpt => by unfold pvL; rw [hp, if_pos hpt]
        rw [PV, hp]
        rw [hp] at z1 z0
        clear hpn PV hp
        generalize pvL n t zs = ys at HY NY TT RB RO SW SN
        obtain ⟨s2, hs2⟩ : ∃ s2, (if p = t then s else -s) = s2 := ⟨_, rfl⟩
        have SP : Hid (p = t → s2 = s) := fun h => by rw [← hs2, if_pos h]
        have SM : Hid (p ≠ t → s2 = -s) := fun h => by rw [← hs2, if_neg h]
        have S2 : Hid (s2 = 1 ∨ s2 = -1) := by have := S.out; show _ ∨ _; by_cases h : p = t; rw [SP.out h]; exact this; rw [SM.out h]; omega
        rw [hs2] at RO
        clear hs2
        obtain ⟨r0, r1, r2, -, -, -⟩ := R3.out.all
        have np : decide ((p : Int) < 0) = false := by simp
        go_upto_if 27 with fail
        go_cut [5] (fun s5 wx => s5 = .int .i64 s2 ∧ Ints wx g ys ∧ W.grownBy wx (some g))
        case first =>
          by_cases hpt : p = t
          · have n2 : ((p : Int) != (t : Int)) = false := by simp [hpt]
            have n3 : ((p : Int) == (t : Int)) = true := by simp [hpt]
            have e2 := SP.out hpt
            have I3 : Hid (Ints w2 g ys) := by rw [← SN.out hpt]; exact I2.out
            clear hpt
            go_wp2_with fail
            go_meet
            exact ⟨by rw [e2], I3.out, G2.out⟩
          · have n2 : ((p : Int) != (t : Int)) = true := by simp; omega
            have n3 : ((p : Int) == (t : Int)) = false := by simp; omega
            have sv : IntKind.i64.wrap (-s) = -s := IntWalk.i64_in _ (by have := S.out; omega)
            go_wp2_with fail
            refine (iSwap n p t N cap g zs _ HN.out HZ.out hpl hlt hpt h6 I2.out).mono ?_
            rintro e w4 ⟨rfl, hi4, hg4⟩
            have G4 := Lib.hid (G2.out.trans hg4)
            have I4 : Hid (Ints w4 g ys) := by rw [← SW.out hpt]; exact hi4
            have e2 := Lib.hid (SM.out hpt)
            clear hi4 hg4
            go_wp2_with fail
            go_meet
            exact ⟨by rw [e2.out], I4.out, G4.out⟩
        case rest =>
          obtain ⟨rfl, hi2, hg2⟩ := hcut
          have I5 := Lib.hid hi2
          have G5 := Lib.hid hg2
          have R5 := Lib.hid (K3.out.keepOne hg2 ng)
          clear hi2 hg2 r0 r1 r2
          obtain ⟨r0, r1, r2, -, -, -⟩ := R5.out.all
          go_wp2_with fail
          refine (iStepIn n t N cap g ys last _ HN.out HY.out hlt h6 hcap NY.out LL.out L0.out I5.out).mono ?_
          rintro e w6 ⟨hcase, hg6⟩
          have G6 := Lib.hid (G5.out.trans hg6)
          have R6 := Lib.hid (K3.out.keepOne G6.out ng)
          clear hg6 r0 r1 r2
          rcases hcase with ⟨rfl, hn6, hi6⟩ | ⟨rfl, hn6⟩
          · obtain ⟨r0, r1, r2, -, -, -⟩ := R6.out.all
            have RN : Hid (stR2 n k (t + 1) (elL n t last ys) (ys.getD (t * n + t) 0) s2 = RES) := RO.out hn6
            have NI := Lib.hid hn6
            have I6 := Lib.hid hi6
            have ce : (t : Int) * (n : Int) = ((t * n : Nat) : Int) := (Int.natCast_mul _ _).symm
            have je : t * n + t < N := by rw [← HN.out]; exact idx_lt (by omega) (by omega)
            have de : 0 ≤ (t : Int) * (n : Int) ∧ (t : Int) * (n : Int) ≤ 600 := by rw [ce]; omega
            have ee0 : 0 ≤ (t : Int) * (n : Int) + (t : Int) := by omega
            have ee1 : (t : Int) * (n : Int) + (t : Int) < (N : Int) := by rw [ce]; omega
            have ee2 : ((t : Int) * (n : Int) + (t : Int)).toNat = t * n + t := by rw [ce]; omega
            obtain ⟨de0, de1⟩ := de
            have ve0 : IntKind.i64.wrap ((t : Int) * (n : Int)) = (t : Int) * (n : Int) := IntWalk.i64_in _ (by omega)
            have ve1 : IntKind.i64.wrap ((t : Int) * (n : Int) + (t : Int)) = (t : Int) * (n : Int) + (t : Int) := IntWalk.i64_in _ (by omega)
            clear ce
            have ha := hi6.cell (i := t * n + t) (by rw [show (elL n t last ys).length = n * n from tab_length _ _ _, HN.out]; exact je)
            rw [elL_tt hlt] at ha
            have nt := nums_at NY.out (j := t * n + t) (by rw [HY.out]; exact je)
            have NT := Lib.hid nt
            have t0 := TT.out
            have T0 := Lib.hid t0
            clear nt t0 hn6 hi6
            go_wp2_with fail
            go_roundw
            case rel => exact ⟨t + 1, k, elL n t last ys, ys.getD (t * n + t) 0, s2, by go_num, by omega, rfl, rfl, S2.out, T0.out, NT.out, by rw [show (elL n t last ys).length = n * n from tab_length _ _ _, HN.out], NI.out, RN.out, fun _ => I6.out, G6.out⟩
            case measure => simp [intOf]; omega
          · have RZ := Lib.hid (RB.out hn6)
            clear hn6
            go_wp2_with fail
            exact bodyPost_ret (v := .tuple #[.int .i64 0, .bool false]) (by simp [results, Try.results20, go_sem]) rfl ⟨by rw [RZ.out], BG.out _ G6.out⟩
    · have hte : t = n := by omega
      obtain rfl : k = 0 := by omega
      have RF : Hid (RES = (s * last, true)) := HR.out.symm
      have ls := LL.out
      have ss := S.out
      unfold NumP at ls
      have vm : IntKind.i64.wrap (s * last) = s * last := IntWalk.i64_in _ (by rcases ss with rfl | rfl <;> omega)
      clear ls ss hte hi hgr hz nz hR hs hln hl0
      go_wp2_with fail
      exact bodyPost_ret (v := .tuple #[.int .i64 (s * last), .bool true]) (by simp [results, Try.results20, go_sem]) rfl ⟨by rw [RF.out], BW.out⟩
set_option maxHeartbeats 1000000 in
theorem iSteps (r c : Int) (a : Option Addr) (m : Nat) (xs : List Int) (w : World) (h : Rd w a xs) (hn : xs.length ≤ 16777216) (_ : Spot a) :
    Calls Try.prog 20 #[.agg #[.int .i64 r, .int .i64 c, .slice a xs.length m]] w (Gives (.tuple #[.int .i64 (stepsOf r c xs).1, .bool (stepsOf r c xs).2]) w) := by
  rcases Bool.eq_false_or_eq_true (isSq r c xs) with hs | hs
  · obtain ⟨n, rfl, rfl, h6, hl, nx⟩ := isSq_says hs
    have V : stepsOf n n xs = stepsM n xs := by unfold stepsOf; rw [if_pos hs]; rfl
    rw [V]
    exact iSteps_t n a m xs w h hl h6 nx hs
  · have V : Hid (stepsOf r c xs = (0, false)) := by show stepsOf r c xs = _; unfold stepsOf; rw [if_neg (by rw [hs]; decide)]
    have H := Lib.hid h
    have HN := Lib.hid hn
    have B0 : Hid (∀ o1, Below w.heap.size w (w.alloc o1)) := fun o1 => (Below.refl _ _).alloc (Nat.le_refl _) _
    have SQ : Hid (∀ w', Below w.heap.size w w' → Calls Try.prog 45 #[.agg #[.int .i64 r, .int .i64 c, .slice a xs.length m]] w' (Gives (.bool false) w')) := fun w' hb => by
      have := iIsSq r c a m xs w' (H.out.below hb) HN.out
      rw [hs] at this
      exact this
    clear hs h hn
    generalize xs.length = l at SQ ⊢
    go_enter Try.func20, Try.ntmps20
    go_wp2_with fail
    refine (SQ.out _ (B0.out _)).mono ?_
    rintro e w1 ⟨rfl, hb⟩
    have B : Hid (Below w.heap.size w w1) := (B0.out _).trans (hb.mono (by simp))
    clear hb
    go_wp2_with fail
    exact bodyPost_ret (v := .tuple #[.int .i64 0, .bool false]) (by simp [results, Try.results20, go_sem]) rfl ⟨by rw [V.out], B.out⟩
end Go.Proofs.Ytgemkfcapkfdbaa
end
