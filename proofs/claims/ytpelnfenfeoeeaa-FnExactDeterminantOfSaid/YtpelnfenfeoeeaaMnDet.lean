/-
  Chapter 6, in the program: determinants of a set of columns, expanded with a memory.
-/
import Derived.Test.YtpelnfenfeoeeaaMnMem
import Derived.Test.YtpelnfenfeoeeaaMnAcc
import Derived.Test.YtpelnfenfeoeeaaMnBits
import Derived.Test.YtpelnfenfeoeeaaMatI
import Derived.BigQuiet
import Derived.Deep.RegionHeld3
import Derived.Deep.DeepCutAuto
namespace Go.Proofs.Ytpelnfenfeoeeaa
set_option maxRecDepth 100000
open Go.RowKit Go.Maps

/-- What is returned for a set of k columns. -/
def MinorAt (R n : Nat) (a : Option Addr) (m : Nat) (xs : List Int) (rows : List Nat) (q : Option Addr) (qc px bm k : Nat) : Prop := ∀ (S c : Nat) (w : World), S < 2 ^ n → (colsL n S).length = k → MnSt R n a m xs rows q qc px bm c w → c + 7 ^ k ≤ 1000000 →
  Calls Try.prog 78 #[.pointer (some ⟨px, 0, none⟩), .int .u64 S] w (fun e w' => e = .returned (.tuple #[.int .i64 (detR (setD n xs rows S)).1, .bool (detR (setD n xs rows S)).2]) ∧ MnSt R n a m xs rows q qc px bm (c + 7 ^ k) w' ∧ w.grownBy w' (some bm))
set_option maxHeartbeats 2000000 in
theorem iExpand (R n : Nat) (a : Option Addr) (m : Nat) (xs : List Int) (rows : List Nat) (q : Option Addr) (qc px bm k : Nat) (hR6 : R ≤ 6) (h6 : n ≤ 6) (hx : xs.length = R * n) (nx : nums xs = true) (hrn : ∀ i, i < rows.length → rows.getD i 0 < R) (hk : k + 1 ≤ rows.length) (hrl : rows.length ≤ 6) (ih : MinorAt R n a m xs rows q qc px bm k)
    (S c : Nat) (w : World) (hS : S < 2 ^ n) (hc : (colsL n S).length = k + 1) (st : MnSt R n a m xs rows q qc px bm c w) (hcb : c + 6 * 7 ^ k ≤ 1000000) :
    Calls Try.prog 127 #[.pointer (some ⟨px, 0, none⟩), .int .u64 S] w (fun e w' => e = .returned (.tuple #[.int .i64 (exR (accD n xs rows S (k + 1))).1, .bool (exR (accD n xs rows S (k + 1))).2]) ∧ MnSt R n a m xs rows q qc px bm (c + 6 * 7 ^ k) w' ∧ w.grownBy w' (some bm)) := by
  have h64 : S < 64 := Nat.lt_of_lt_of_le hS (pow_64 n h6)
  have IH := Lib.hid ih
  have ON : Hid (∀ w', Calls Try.prog 125 #[.int .u64 S] w' fun e w2 => e = .returned (.int .i64 ((k + 1 : Nat) : Int)) ∧ w2 = w') := fun w' => by
    have := iCount S h64 w'
    rw [cols_card n h6 S hS, hc] at this
    exact this
  have HA : Hid (∀ j (w' : World), j < n → Calls Try.prog 126 #[.int .u64 S, .int .i64 j] w' fun e w2 => e = .returned (.bool (S.testBit j)) ∧ w2 = w') := fun j w' hj => iHas S j h64 (by omega) w'
  have WI : Hid (∀ j (w' : World), j < n → Calls Try.prog 156 #[.int .u64 S, .int .i64 j] w' fun e w2 => e = .returned (.int .u64 (lessS S j)) ∧ w2 = w') := fun j w' hj => iWithout S j h64 (by omega) w'
  obtain ⟨I, hI⟩ : ∃ I, rows.length = I + (k + 1) := ⟨rows.length - (k + 1), by omega⟩
  have hI2 : rows.length - (k + 1) = I := by omega
  obtain ⟨r, hr⟩ : ∃ r, rows.getD I 0 = r := ⟨_, rfl⟩
  have rn : r < R := by rw [← hr]; exact hrn I (by omega)
  have LS : Hid (∀ j, j < n → S.testBit j = true → lessS S j < 2 ^ n ∧ (colsL n (lessS S j)).length = k ∧ (colsL j S).length ≤ 6 ∧ (colsL (j + 1) S).length = (colsL j S).length + 1 ∧ (colsL j S).length < k + 1) := fun j hj hb => ⟨lessS_lt n h6 S hS j hj, less_card h6 h64 hj hb hc, Nat.le_trans (Nat.le_of_lt (colsL_at hj hb).1) (by have := colsL_le (S := S) (Nat.le_refl n); have := List.length_filter_le (fun c => S.testBit c) (List.range n); simp only [List.length_range] at this; unfold colsL; omega), colsL_in hb, by have := (colsL_at hj hb).1; omega⟩
  have CE : Hid (∀ j, j < n → S.testBit j = true → ∀ s, accD n xs rows S (colsL j S).length = some s → (xs.getD (r * n + j) 0 = 0 → accD n xs rows S (colsL (j + 1) S).length = some s) ∧ (xs.getD (r * n + j) 0 ≠ 0 → setD n xs rows (lessS S j) = badN → accD n xs rows S (k + 1) = none) ∧ (xs.getD (r * n + j) 0 ≠ 0 → setD n xs rows (lessS S j) ≠ badN → accD n xs rows S (colsL (j + 1) S).length = some (s + sg (colsL j S).length * xs.getD (r * n + j) 0 * setD n xs rows (lessS S j)))) := fun j hj hb s h => by
    have e : rows.getD (rows.length - (k + 1)) 0 = r := by rw [hI2, hr]
    rw [← e]
    exact ⟨fun h0 => acc_skip hj hb hc h h0, fun h0 h1 => acc_bad h6 h64 hk hj hb hc h h0 h1, fun h0 h1 => acc_add h6 h64 hk hj hb hc h h0 h1⟩
  have BD : Hid (∀ j s, j < n → S.testBit j = true → accD n xs rows S (colsL (j + 1) S).length = some s → -2000000000000000000 ≤ s ∧ s ≤ 2000000000000000000) := fun j s hj hb h => by
    have h1 := LS.out j hj hb
    have := acc_bd nx hc (by omega) h
    omega
  have OUT : Hid (∀ j, S.testBit j = false → colsL (j + 1) S = colsL j S) := fun j h => colsL_out h
  have SO : Hid (∀ j, setD n xs rows (lessS S j) = badN ∨ NumP (setD n xs rows (lessS S j))) := fun j => setD_or _ _ _ _
  have ZN : Hid (∀ j, j < n → NumP (xs.getD (r * n + j) 0) ∧ r * n + j < xs.length) := fun j hj => by
    have := idx_lt rn hj
    exact ⟨nums_at nx (by omega), by omega⟩
  have FIN : Hid ((colsL n S).length = k + 1) := hc
  have ST := Lib.hid st
  have rc : w.cell? ⟨px, 3, none⟩ = some (.slice q rows.length qc) := st.blk.all.2.2.2.1
  obtain ⟨gq, oq, hq⟩ := st.rws.addr (by simp; omega)
  have ri : w.cell? ⟨gq, oq + I, none⟩ = some (.int .i64 (r : Int)) := by
    have := st.rws
    rw [hq] at this
    have := this.cells I (by simp; omega)
    rw [this]
    simp [← hr, List.getD, show I < rows.length by omega]
  obtain ⟨G, hG⟩ : ∃ G, 7 ^ k = G := ⟨_, rfl⟩
  have v1 : IntKind.i64.wrap ((rows.length : Int) - ((k + 1 : Nat) : Int)) = (I : Int) := by
    rw [show (rows.length : Int) - ((k + 1 : Nat) : Int) = (I : Int) by omega]
    exact IntWalk.i64_in _ (by omega)
  have i0 : (0 : Int) ≤ (I : Int) := by omega
  have i1 : (I : Int) < (rows.length : Int) := by omega
  obtain ⟨b0, b1, b2, b3, b4⟩ := st.blk.all
  subst hq
  rw [hG] at hcb ⊢
  obtain ⟨L, hL⟩ : ∃ L, rows.length = L := ⟨_, rfl⟩
  rw [hL] at b3 rc v1 i1 hrl
  have HG := Lib.hid hG
  have K6 : k + 1 ≤ 6 := by omega
  have HI := Lib.hid hI
  have NX := Lib.hid nx
  have HX := Lib.hid hx
  obtain ⟨K, hK⟩ : ∃ K, k + 1 = K := ⟨_, rfl⟩
  rw [hK] at ON v1 LS CE FIN K6 ⊢
  clear hG hI hI2 nx hx hr st hrn ih hc hL rc
  go_enter Try.func127, Try.ntmps127
  go_upto_region 1 with fail
  go_quiet ((refine (ON.out _).mono ?_; rintro e w' ⟨rfl, rfl⟩; exact ⟨rfl, _, rfl⟩))
  go_wp2_with fail
  clear b0 b1 b2 b3 b4 ri v1 i0 i1
  have W0 := Lib.hid (ST.out.drewN nq)
  have G0 : Hid (w.grownBy (w.drewN nq) (some bm)) := grown_drewN_one (World.grownBy.refl _ _) nq
  have NE := Lib.hid ST.out.ne
  generalize w.drewN nq = W at W0 G0
  go_loopw [4, 5, 7, 8, 9, 10, 11, 12, 32] (fun _ _ v7 v8 _ _ _ _ v32 wr => ∃ (j : Nat) (s : Int) (c' : Nat), v32 = .int .i64 j ∧ j ≤ n ∧ v7 = .int .i64 s ∧ v8 = .int .i64 (sg (colsL j S).length) ∧ accD n xs rows S (colsL j S).length = some s ∧ MnSt R n a m xs rows (some ⟨gq, oq, none⟩) qc px bm c' wr ∧ w.grownBy wr (some bm) ∧ c' ≤ c + (colsL j S).length * G) (fun _ _ _ _ _ _ _ _ v32 _ => n - (intOf v32).toNat)
  case atStart => exact ⟨0, 0, c, rfl, by omega, rfl, rfl, rfl, W0.out, G0.out, by omega⟩
  case round =>
    obtain ⟨j, s, c', rfl, hj, rfl, rfl, hs, hst, hg, hc'⟩ := hrel
    have E := Lib.hid hs
    have M := Lib.hid hst
    have GR := Lib.hid hg
    obtain ⟨b0, b1, b2, b3, b4⟩ := hst.blk.all
    clear hs hst hg
    by_cases hlt : j < n
    · rcases Bool.eq_false_or_eq_true (S.testBit j) with hb | hb
      · have HAj : Hid (∀ w', Calls Try.prog 126 #[.int .u64 S, .int .i64 j] w' fun e w2 => e = .returned (.bool true) ∧ w2 = w') := fun w' => by
          have := HA.out j w' hlt
          rw [hb] at this
          exact this
        obtain ⟨l1, l2, l3, l4, l5⟩ := LS.out j hlt hb
        obtain ⟨e1, e2, e3⟩ := CE.out j hlt hb s E.out
        have BDj : Hid (∀ s, accD n xs rows S (colsL (j + 1) S).length = some s → -2000000000000000000 ≤ s ∧ s ≤ 2000000000000000000) := fun s => BD.out j s hlt hb
        have E1 := Lib.hid e1
        have E2 := Lib.hid e2
        have E3 := Lib.hid e3
        have L1 := Lib.hid l1
        have L2 := Lib.hid l2
        have L4 := Lib.hid l4
        have so := SO.out j
        have SOJ := Lib.hid so
        obtain ⟨zn, zl⟩ := ZN.out j hlt
        have dz : r * n + j < R * n := by rw [← HX.out]; exact zl
        have M36 : R * n ≤ 6 * 6 := Nat.mul_le_mul hR6 h6
        obtain ⟨ga, oa, ha⟩ := M.out.cells.addr (by rw [HX.out]; omega)
        have zc : wr.cell? ⟨ga, oa + (r * n + j), none⟩ = some (.int .i64 (xs.getD (r * n + j) 0)) := by
          have := M.out.cells
          rw [ha] at this
          exact this.cells _ zl
        subst ha
        obtain ⟨z, hz⟩ : ∃ z, xs.getD (r * n + j) 0 = z := ⟨_, rfl⟩
        rw [hz] at zc zn E1 E2 E3
        obtain ⟨P, hP⟩ : ∃ P, r * n + j = P := ⟨_, rfl⟩
        rw [hP] at zc dz
        have c1 : (r : Int) * (n : Int) = ((r * n : Nat) : Int) := (Int.natCast_mul _ _).symm
        have u1 : IntKind.i64.wrap ((r : Int) * (n : Int)) = (r : Int) * (n : Int) := IntWalk.i64_in _ (by rw [c1]; omega)
        have u2 : IntKind.i64.wrap ((r : Int) * (n : Int) + (j : Int)) = (P : Int) := by
          rw [show (r : Int) * (n : Int) + (j : Int) = (P : Int) by rw [c1, ← hP]; omega]
          exact IntWalk.i64_in _ (by omega)
        have p0 : (0 : Int) ≤ (P : Int) := by omega
        have p1 : (P : Int) < ((R * n : Nat) : Int) := by omega
        obtain ⟨sn, hsn⟩ : ∃ z, sg (colsL j S).length = z := ⟨_, rfl⟩
        have s1 : sn = 1 ∨ sn = -1 := by rw [← hsn]; exact sg_or _
        have vn : IntKind.i64.wrap (-sn) = -sn := IntWalk.i64_in _ (by omega)
        have SS : Hid (sg (colsL (j + 1) S).length = -sn) := by show _ = _; rw [L4.out, sg_succ, hsn]
        rw [hsn] at E3 ⊢
        obtain ⟨p, hp⟩ : ∃ p, (colsL j S).length = p := ⟨_, rfl⟩
        have CC : Hid (c' ≤ c + (colsL (j + 1) S).length * G ∧ c' + G ≤ c + (colsL (j + 1) S).length * G ∧ c' + G ≤ c + 6 * G) := by
          have t1 : (p + 1) * G ≤ 6 * G := Nat.mul_le_mul_right G (by omega)
          rw [Nat.succ_mul] at t1
          show _ ∧ _ ∧ _
          rw [L4.out, hp, Nat.succ_mul]
          rw [hp] at hc'
          omega
        have WIj : Hid (∀ w', Calls Try.prog 156 #[.int .u64 S, .int .i64 j] w' fun e w2 => e = .returned (.int .u64 (lessS S j)) ∧ w2 = w') := fun w' => WI.out j w' hlt
        obtain ⟨T, hT⟩ : ∃ T, lessS S j = T := ⟨_, rfl⟩
        rw [hT] at L1 L2 SOJ E2 E3 WIj
        obtain ⟨d, hd⟩ : ∃ d, setD n xs rows T = d := ⟨_, rfl⟩
        have DT : Hid (∀ w', MnSt R n (some ⟨ga, oa, none⟩) m xs rows (some ⟨gq, oq, none⟩) qc px bm c' w' → Calls Try.prog 78 #[.pointer (some ⟨px, 0, none⟩), .int .u64 T] w' (fun e w2 => e = .returned (.tuple #[.int .i64 (detR d).1, .bool (detR d).2]) ∧ MnSt R n (some ⟨ga, oa, none⟩) m xs rows (some ⟨gq, oq, none⟩) qc px bm (c' + G) w2 ∧ w'.grownBy w2 (some bm))) := fun w' h => by
          have := IH.out T c' w' L1.out L2.out h (by rw [HG.out]; have := CC.out; omega)
          rw [HG.out, hd] at this
          exact this
        rw [hd] at SOJ E2 E3
        clear hb l1 l2 l3 l4 l5 e1 e2 e3 so zl hz hP c1 hsn hp hT hd hc'
        by_cases h0 : z = 0
        · have n1 : (z != 0) = false := by simp [h0]
          have A := Lib.hid (E1.out h0)
          clear h0 s1 zn
          go_wp2_with fail
          refine (HAj.out _).mono ?_
          rintro e w2 ⟨rfl, rfl⟩
          go_upto_region 7 with fail
          go_quiet (fail)
          go_wp2_with fail
          go_roundw
          case rel => exact ⟨j + 1, s, c', by go_num, by omega, rfl, by rw [SS.out], A.out, M.out.drewN nq, grown_drewN_one GR.out nq, CC.out.1⟩
          case measure => simp [intOf]; omega
        · have n1 : (z != 0) = true := by simp [h0]
          have H0 := Lib.hid h0
          clear h0
          go_wp2_with fail
          refine (HAj.out _).mono ?_
          rintro e w2 ⟨rfl, rfl⟩
          go_upto_region 7 with fail
          go_quiet (fail)
          go_wp2_with fail
          refine (WIj.out _).mono ?_
          rintro e w2 ⟨rfl, rfl⟩
          go_wp2_with fail
          refine (DT.out _ (M.out.drewN nq)).mono ?_
          rintro e w2 ⟨rfl, hm2, hg2⟩
          have M2 := Lib.hid hm2
          have GR2 := Lib.hid ((grown_drewN_one GR.out nq).trans hg2)
          clear hm2 hg2
          by_cases h1 : d = badN
          · have A := Lib.hid (E2.out H0.out h1)
            have R := detR_bad h1
            have M3 := Lib.hid (M2.out.mono CC.out.2.2)
            rw [R]
            clear h1 R s1 zn
            go_wp2_with fail
            exact bodyPost_ret (v := .tuple #[.int .i64 0, .bool false]) (by simp [results, Try.results127, go_sem]) rfl ⟨by rw [A.out]; rfl, M3.out, GR2.out⟩
          · have A := Lib.hid (E3.out H0.out h1)
            have R := detR_num h1
            have bd := BDj.out _ A.out
            have mx : NumP (sn * z) := by unfold NumP at *; rcases s1 with rfl | rfl <;> omega
            have my := mul_num _ _ mx (SOJ.out.resolve_left h1)
            unfold NumP at mx
            have v1 : IntKind.i64.wrap (sn * z) = sn * z := IntWalk.i64_in _ (by omega)
            have v2 : IntKind.i64.wrap (sn * z * d) = sn * z * d := IntWalk.i64_in _ (by omega)
            have v3 : IntKind.i64.wrap (s + sn * z * d) = s + sn * z * d := IntWalk.i64_in _ (by omega)
            rw [R]
            clear h1 R s1 zn bd mx my
            go_wp2_with fail
            go_roundw
            case rel => exact ⟨j + 1, s + sn * z * d, c' + G, by go_num, by omega, rfl, by rw [SS.out], A.out, M2.out, GR2.out, CC.out.2.1⟩
            case measure => simp [intOf]; omega
      · have O := Lib.hid (OUT.out j hb)
        have HAj : Hid (∀ w', Calls Try.prog 126 #[.int .u64 S, .int .i64 j] w' fun e w2 => e = .returned (.bool false) ∧ w2 = w') := fun w' => by
          have := HA.out j w' hlt
          rw [hb] at this
          exact this
        clear hb
        go_wp2_with fail
        refine (HAj.out _).mono ?_
        rintro e w2 ⟨rfl, rfl⟩
        go_wp2_with fail
        go_roundw
        case rel => exact ⟨j + 1, s, c', by go_num, by omega, rfl, by rw [O.out], by rw [O.out]; exact E.out, M.out, GR.out, by rw [O.out]; exact hc'⟩
        case measure => simp [intOf]; omega
    · obtain rfl : j = n := by omega
      rw [FIN.out] at hc'
      have E2 : Hid (accD j xs rows S K = some s) := by
        have := E.out
        rw [FIN.out] at this
        exact this
      have K7 : K * G ≤ 6 * G := Nat.mul_le_mul_right G K6
      have M2 := Lib.hid (M.out.mono (show c' ≤ c + 6 * G by omega))
      clear hlt hc' K7
      go_wp2_with fail
      exact bodyPost_ret (v := .tuple #[.int .i64 s, .bool true]) (by simp [results, Try.results127, go_sem]) rfl ⟨by rw [E2.out]; rfl, M2.out, GR.out⟩
end Go.Proofs.Ytpelnfenfeoeeaa
