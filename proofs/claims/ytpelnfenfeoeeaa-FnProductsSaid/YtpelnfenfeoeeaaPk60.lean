/-
  Texts of this seat, joined: ZDMnAcc · ZDMnNew · ZDMnDet · ZDMnDet2 · ZDSqI · ZDDetI
-/
import Derived.BigQuiet
import Derived.Deep.RegionHeld3
import Derived.Deep.DeepCutAuto
import Derived.IntWalk
import Derived.Test.YtpelnfenfeoeeaaPk58
import Derived.Test.YtpelnfenfeoeeaaPk59

section
/-
  Plain mathematics of chapter 6: the expansion of a set of columns, column by column. Nothing of a program is used.
-/
namespace Go.Proofs.Ytpelnfenfeoeeaa
def accD (n : Nat) (xs : List Int) (rows : List Nat) (S p : Nat) : Option Int := detAcc (fun j => (rowsD xs n rows (colsL n S)).getD j 0) (mnB ((colsL n S).length - 1) (rowsD xs n rows (colsL n S))) p
def detR (d : Int) : Int × Bool := if d = badN then (0, false) else (d, true)
def exR : Option Int → Int × Bool
  | none => (0, false)
  | some s => (s, true)
theorem detR_bad {d : Int} (h : d = badN) : detR d = (0, false) := if_pos h
theorem detR_num {d : Int} (h : d ≠ badN) : detR d = (d, true) := if_neg h
theorem NumP.ne_bad {d : Int} (h : NumP d) : d ≠ badN := by
  unfold NumP at h
  unfold badN
  omega
theorem setD_acc {n S k : Nat} {xs : List Int} {rows : List Nat} (hk : (colsL n S).length = k + 1) : setD n xs rows S = match accD n xs rows S (k + 1) with
    | none => badN
    | some s => fitB s := by
  unfold setD accD
  rw [hk]
  rfl
theorem setD_none {n S k : Nat} {xs : List Int} {rows : List Nat} (hk : (colsL n S).length = k + 1) (h : accD n xs rows S (k + 1) = none) : setD n xs rows S = badN := by rw [setD_acc hk, h]
theorem setD_bad {n S k : Nat} {xs : List Int} {rows : List Nat} {s : Int} (hk : (colsL n S).length = k + 1) (h : accD n xs rows S (k + 1) = some s) (hs : ¬ NumP s) : setD n xs rows S = badN := by
  rw [setD_acc hk, h]
  exact if_neg hs
theorem setD_num {n S k : Nat} {xs : List Int} {rows : List Nat} {s : Int} (hk : (colsL n S).length = k + 1) (h : accD n xs rows S (k + 1) = some s) (hs : NumP s) : setD n xs rows S = s := by
  rw [setD_acc hk, h]
  exact if_pos hs
theorem acc_cell {n S c k : Nat} {xs : List Int} {rows : List Nat} (hc : c < n) (hb : S.testBit c = true) (hk : (colsL n S).length = k + 1) :
    (rowsD xs n rows (colsL n S)).getD (colsL c S).length 0 = xs.getD (rows.getD (rows.length - (k + 1)) 0 * n + c) 0 := by
  obtain ⟨h1, h2⟩ := colsL_at hc hb
  rw [setD_first hk _ (by omega), h2]
section
variable {n S c k : Nat} {xs : List Int} {rows : List Nat} {s : Int}
theorem acc_skip (hc : c < n) (hb : S.testBit c = true) (hk : (colsL n S).length = k + 1) (h : accD n xs rows S (colsL c S).length = some s) (h0 : xs.getD (rows.getD (rows.length - (k + 1)) 0 * n + c) 0 = 0) :
    accD n xs rows S (colsL (c + 1) S).length = some s := by
  rw [colsL_in hb]
  exact detAcc_skip h (by show (rowsD xs n rows (colsL n S)).getD _ 0 = 0; rw [acc_cell hc hb hk]; exact h0)
theorem acc_bad (h6 : n ≤ 6) (hS : S < 64) (hr : k + 1 ≤ rows.length) (hc : c < n) (hb : S.testBit c = true) (hk : (colsL n S).length = k + 1) (h : accD n xs rows S (colsL c S).length = some s) (h0 : xs.getD (rows.getD (rows.length - (k + 1)) 0 * n + c) 0 ≠ 0) (h1 : setD n xs rows (lessS S c) = badN) :
    accD n xs rows S (k + 1) = none := by
  refine detAcc_none (detAcc_bad h (by rw [acc_cell hc hb hk]; exact h0) ?_) (by have := (colsL_at hc hb).1; omega)
  rw [hk, Nat.add_sub_cancel, mnB_less h6 hS hc hb hk hr]
  exact h1
theorem acc_add (h6 : n ≤ 6) (hS : S < 64) (hr : k + 1 ≤ rows.length) (hc : c < n) (hb : S.testBit c = true) (hk : (colsL n S).length = k + 1) (h : accD n xs rows S (colsL c S).length = some s) (h0 : xs.getD (rows.getD (rows.length - (k + 1)) 0 * n + c) 0 ≠ 0) (h1 : setD n xs rows (lessS S c) ≠ badN) :
    accD n xs rows S (colsL (c + 1) S).length = some (s + sg (colsL c S).length * xs.getD (rows.getD (rows.length - (k + 1)) 0 * n + c) 0 * setD n xs rows (lessS S c)) := by
  have e : mnB ((colsL n S).length - 1) (rowsD xs n rows (colsL n S)) (colsL c S).length = setD n xs rows (lessS S c) := by rw [hk, Nat.add_sub_cancel, mnB_less h6 hS hc hb hk hr]
  have := detAcc_add h (by show (rowsD xs n rows (colsL n S)).getD _ 0 ≠ 0; rw [acc_cell hc hb hk]; exact h0) (by rw [e]; exact h1)
  rw [acc_cell hc hb hk, e] at this
  rw [colsL_in hb]
  exact this
end
theorem rowsD_nums {n k : Nat} {xs : List Int} {rows cs : List Nat} (nx : nums xs = true) (hc : cs.length = k + 1) (j : Nat) (hj : j < k + 1) : NumP ((rowsD xs n rows cs).getD j 0) := by
  rw [setD_first hc j hj]
  obtain ⟨p, hp⟩ : ∃ p, rows.getD (rows.length - (k + 1)) 0 * n + cs.getD j 0 = p := ⟨_, rfl⟩
  rw [hp]
  rcases Nat.lt_or_ge p xs.length with h1 | h1
  · exact nums_at nx h1
  · rw [List.getD, List.getElem?_eq_none h1]; exact ⟨by decide, by decide⟩
theorem acc_bd {n S k p : Nat} {xs : List Int} {rows : List Nat} {s : Int} (nx : nums xs = true) (hk : (colsL n S).length = k + 1) (hp : p ≤ k + 1) (h : accD n xs rows S p = some s) : -((p : Int) * 160000000000000000) ≤ s ∧ s ≤ (p : Int) * 160000000000000000 :=
  detAcc_bd (fun j hj => rowsD_nums nx hk j (by omega)) (fun j _ => detB_or _ _) h
theorem cols_card : ∀ n, n ≤ 6 → ∀ S, S < 2 ^ n → (colsL 6 S).length = (colsL n S).length := by decide +kernel
theorem pow_64 : ∀ n, n ≤ 6 → 2 ^ n ≤ 64 := by decide
end Go.Proofs.Ytpelnfenfeoeeaa
end

section
/-
  Chapter 6, in the program: the determinants' block is made.
-/
namespace Go.Proofs.Ytpelnfenfeoeeaa
set_option maxRecDepth 100000
open Go.RowKit Go.Maps
def MnNewR (R n N m : Nat) (a : Option Addr) (w : World) (e : Ending) (w' : World) : Prop := ∃ px bm V, e = .returned (.pointer (some ⟨px, 0, none⟩)) ∧ w.heap.size ≤ px ∧ w.heap.size ≤ bm ∧ Blk5 w' px 114 (.int .i64 R) (.int .i64 n) (.slice a N m) V (.map (some bm)) ∧ w'.ownsRow w.heap.size 3 1 V (List.range R).length ((List.range R).map fun (r : Nat) => Value.int .i64 (r : Int)) ∧ Mp w' bm 0 (.map []) ∧ Below w.heap.size w w'
set_option maxHeartbeats 1000000 in
theorem iMinorsOf (R n N m : Nat) (a : Option Addr) (w : World) (h6 : R ≤ 6) : Calls Try.prog 75 #[.agg #[.int .i64 R, .int .i64 n, .slice a N m]] w (MnNewR R n N m a w) := by
  have hmm := @run_makeMap Try.prog
  have FC : Hid (∀ w', Calls Try.prog 99 #[.int .i64 R] w' fun e w2 => e = .returned (.int .u64 ((2 ^ R - 1 : Nat) : Int)) ∧ w2 = w') := fun w' => iFirst R h6 w'
  have P64 : 2 ^ R - 1 < 64 := by have := pow_64 R h6; have := Nat.two_pow_pos R; omega
  have FU : Hid (colsL R (2 ^ R - 1) = List.range R) := colsL_full R h6
  obtain ⟨F, hF⟩ : ∃ F, 2 ^ R - 1 = F := ⟨_, rfl⟩
  rw [hF] at FC P64 FU
  clear hF
  go_enter Try.func75, Try.ntmps75
  go_wp2_with fail
  obtain ⟨W, hW⟩ : ∃ W, ((w.alloc (.cells #[.int .i64 R, .int .i64 n, .slice a N m] 26)).alloc (.map #[] 0)).alloc (.cells #[.int .i64 R, .int .i64 n, .slice a N m, .slice none 0 0, .map (some (w.heap.size + 1))] 114) = W := ⟨_, rfl⟩
  have B5 : Hid (Blk5 W (w.heap.size + 1 + 1) 114 (.int .i64 R) (.int .i64 n) (.slice a N m) (.slice none 0 0) (.map (some (w.heap.size + 1)))) := by
    show Blk5 W _ _ _ _ _ _ _
    rw [← hW]
    exact Blk5.at_ _ _ _ _ _ _ (by simp)
  have KW : Hid (Blk3 W w.heap.size 26 (.int .i64 R) (.int .i64 n) (.slice a N m)) := by
    show Blk3 W _ _ _ _ _
    rw [← hW]
    exact ((Blk3.at_ _ _ _ _ rfl).old _).old _
  have MM : Hid (Mp W (w.heap.size + 1) 0 (.map [])) := by
    show Mp W (w.heap.size + 1) 0 (.map [])
    have := Mp.made (w.alloc (.cells #[.int .i64 R, .int .i64 n, .slice a N m] 26))
    have h2 := this.kept (World.grownBy_alloc _ (.cells #[.int .i64 R, .int .i64 n, .slice a N m, .slice none 0 0, .map (some (w.heap.size + 1))] 114) none) (by simp)
    rw [hW] at h2
    simpa using h2
  have BW : Hid (Below w.heap.size w W) := by
    show Below w.heap.size w W
    rw [← hW]
    exact (((Below.refl _ _).alloc (Nat.le_refl _) _).alloc (by simp) _).alloc (by simp <;> omega) _
  rw [hW]
  clear hW
  obtain ⟨p0, p1, p2, -, -, -⟩ := KW.out.all
  go_wp2_with fail
  refine (FC.out _).mono ?_
  rintro e w2 ⟨rfl, hw2⟩
  rw [hw2]
  clear hw2 p0 p1 p2
  go_wp2_with fail
  refine (iTake R n N m a F (w.heap.size + 1 + 1) (w.heap.size + 1) 0 w.heap.size 0 (.map []) (.slice none 0 0) [] W h6 P64 B5.out (World.ownsRow_nil _ _ _ _) MM.out BW.out.size).mono ?_
  rintro e w' ⟨rfl, V, h5, ho, hn, hm, hf⟩
  rw [FU.out] at ho
  have H : Hid (Below w.heap.size w w') := BW.out.trans (hf.below (fun k hk => by rcases hk with h | h | h; omega; omega; cases h) BW.out.size)
  have R : MnNewR R n N m a w (.returned (.pointer (some ⟨w.heap.size + 1 + 1, 0, none⟩))) w' := ⟨_, _, V, rfl, by omega, by omega, h5, ho, hm, H.out⟩
  clear h5 ho hn hm hf
  have RR := Lib.hid R
  clear R
  go_wp2_with fail
  go_ret
  exact RR.out
end Go.Proofs.Ytpelnfenfeoeeaa
end

section
/-
  Chapter 6, in the program: determinants of a set of columns, expanded with a memory.
-/
namespace Go.Proofs.Ytpelnfenfeoeeaa
set_option maxRecDepth 100000
open Go.RowKit Go.Maps
def MinorAt (R n : Nat) (a : Option Addr) (m : Nat) (xs : List Int) (rows : List Nat) (q : Option Addr) (qc px bm k : Nat) : Prop := ∀ (S c : Nat) (w : World), S < 2 ^ n → (colsL n S).length = k → MnSt R n a m xs rows q qc px bm c w → c + 7 ^ k ≤ 1000000 →
  Calls Try.prog 78 #[.pointer (some ⟨px, 0, none⟩), .int .u64 S] w (fun e w' => e = .returned (.tuple #[.int .i64 (detR (setD n xs rows S)).1, .bool (detR (setD n xs rows S)).2]) ∧ MnSt R n a m xs rows q qc px bm (c + 7 ^ k) w' ∧ w.grownBy w' (some bm))
set_option maxHeartbeats 2000000 in
theorem iExpand (R n : Nat) (a : Option Addr) (m : Nat) (xs : List Int) (rows : List Nat) (q : Option Addr) (qc px bm k : Nat) (hR6 : R ≤ 6) (h6 : n ≤ 6) (hx : xs.length = R * n) (nx : nums xs = true) (hrn : ∀ i, i < rows.length → rows.getD i 0 < R) (hk : k + 1 ≤ rows.length) (hrl : rows.length ≤ 6) (ih : MinorAt R n a m xs rows q qc px bm k)
    (S c : Nat) (w : World) (hS : S < 2 ^ n) (hc : (colsL n S).length = k + 1) (st : MnSt R n a m xs rows q qc px bm c w) (hcb : c + 6 * 7 ^ k ≤ 1000000) :
    Calls Try.prog 127 #[.pointer (some ⟨px, 0, none⟩), .int .u64 S] w (fun e w' => e = .returned (.tuple #[.int .i64 (exR (accD n xs rows S (k + 1))).1, .bool (exR (accD n xs rows S (k + 1))).2]) ∧ MnSt R n a m xs rows q qc px bm (c + 6 * 7 ^ k) w' ∧ w.grownBy w' (some bm)) := by
  have h64 : S < 64 := Nat.lt_of_lt_of_le hS (pow_64 n h6)
  have IH := Lib.hid ih
  have ON : Hid (∀ w', Calls Try.prog 125 #[.int .u64 S] w' fun e w2 => e = .returned (.int .i64 ((k + 1 : Nat) : Int)) ∧ w2 = w') := fun w' => by
    have := iCount S h64 w'
    rw [cols_card n h6 S hS, hc] at this
    exact this
  have HA : Hid (∀ j (w' : World), j < n → Calls Try.prog 126 #[.int .u64 S, .int .i64 j] w' fun e w2 => e = .returned (.bool (S.testBit j)) ∧ w2 = w') := fun j w' hj => iHas S j h64 (by omega) w'
  have WI : Hid (∀ j (w' : World), j < n → Calls Try.prog 156 #[.int .u64 S, .int .i64 j] w' fun e w2 => e = .returned (.int .u64 (lessS S j)) ∧ w2 = w') := fun j w' hj => iWithout S j h64 (by omega) w'
  obtain ⟨I, hI⟩ : ∃ I, rows.length = I + (k + 1) := ⟨rows.length - (k + 1), by omega⟩
  have hI2 : rows.length - (k + 1) = I := by omega
  obtain ⟨r, hr⟩ : ∃ r, rows.getD I 0 = r := ⟨_, rfl⟩
  have rn : r < R := by rw [← hr]; exact hrn I (by omega)
  have LS : Hid (∀ j, j < n → S.testBit j = true → lessS S j < 2 ^ n ∧ (colsL n (lessS S j)).length = k ∧ (colsL j S).length ≤ 6 ∧ (colsL (j + 1) S).length = (colsL j S).length + 1 ∧ (colsL j S).length < k + 1) := fun j hj hb => ⟨lessS_lt n h6 S hS j hj, less_card h6 h64 hj hb hc, Nat.le_trans (Nat.le_of_lt (colsL_at hj hb).1) (by have := colsL_le (S := S) (Nat.le_refl n); have := List.length_filter_le (fun c => S.testBit c) (List.range n); simp only [List.length_range] at this; unfold colsL; omega), colsL_in hb, by have := (colsL_at hj hb).1; omega⟩
  have CE : Hid (∀ j, j < n → S.testBit j = true → ∀ s, accD n xs rows S (colsL j S).length = some s → (xs.getD (r * n + j) 0 = 0 → accD n xs rows S (colsL (j + 1) S).length = some s) ∧ (xs.getD (r * n + j) 0 ≠ 0 → setD n xs rows (lessS S j) = badN → accD n xs rows S (k + 1) = none) ∧ (xs.getD (r * n + j) 0 ≠ 0 → setD n xs rows (lessS S j) ≠ badN → accD n xs rows S (colsL (j + 1) S).length = some (s + sg (colsL j S).length * xs.getD (r * n + j) 0 * setD n xs rows (lessS S j)))) := fun j hj hb s h => by
    have e : rows.getD (rows.length - (k + 1)) 0 = r := by rw [hI2, hr]
    rw [← e]
    exact ⟨fun h0 => acc_skip hj hb hc h h0, fun h0 h1 => acc_bad h6 h64 hk hj hb hc h h0 h1, fun h0 h1 => acc_add h6 h64 hk hj hb hc h h0 h1⟩
  have BD : Hid (∀ j s, j < n → S.testBit j = true → accD n xs rows S (colsL (j + 1) S).length = some s → -2000000000000000000 ≤ s ∧ s ≤ 2000000000000000000) := fun j s hj hb h => by
    have h1 := LS.out j hj hb
    have := acc_bd nx hc (by omega) h
    omega
  have OUT : Hid (∀ j, S.testBit j = false → colsL (j + 1) S = colsL j S) := fun j h => colsL_out h
  have SO : Hid (∀ j, setD n xs rows (lessS S j) = badN ∨ NumP (setD n xs rows (lessS S j))) := fun j => setD_or _ _ _ _
  have ZN : Hid (∀ j, j < n → NumP (xs.getD (r * n + j) 0) ∧ r * n + j < xs.length) := fun j hj => by
    have := idx_lt rn hj
    exact ⟨nums_at nx (by omega), by omega⟩
  have FIN : Hid ((colsL n S).length = k + 1) := hc
  have ST := Lib.hid st
  have rc : w.cell? ⟨px, 3, none⟩ = some (.slice q rows.length qc) := st.blk.all.2.2.2.1
  obtain ⟨gq, oq, hq⟩ := st.rws.addr (by simp; omega)
  have ri : w.cell? ⟨gq, oq + I, none⟩ = some (.int .i64 (r : Int)) := by
    have := st.rws
    rw [hq] at this
    have := this.cells I (by simp; omega)
    rw [this]
    simp [← hr, List.getD, show I < rows.length by omega]
  obtain ⟨G, hG⟩ : ∃ G, 7 ^ k = G := ⟨_, rfl⟩
  have v1 : IntKind.i64.wrap ((rows.length : Int) - ((k + 1 : Nat) : Int)) = (I : Int) := by
    rw [show (rows.length : Int) - ((k + 1 : Nat) : Int) = (I : Int) by omega]
    exact IntWalk.i64_in _ (by omega)
  have i0 : (0 : Int) ≤ (I : Int) := by omega
  have i1 : (I : Int) < (rows.length : Int) := by omega
  obtain ⟨b0, b1, b2, b3, b4⟩ := st.blk.all
  subst hq
  rw [hG] at hcb ⊢
  obtain ⟨L, hL⟩ : ∃ L, rows.length = L := ⟨_, rfl⟩
  rw [hL] at b3 rc v1 i1 hrl
  have HG := Lib.hid hG
  have K6 : k + 1 ≤ 6 := by omega
  have HI := Lib.hid hI
  have NX := Lib.hid nx
  have HX := Lib.hid hx
  obtain ⟨K, hK⟩ : ∃ K, k + 1 = K := ⟨_, rfl⟩
  rw [hK] at ON v1 LS CE FIN K6 ⊢
  clear hG hI hI2 nx hx hr st hrn ih hc hL rc
  go_enter Try.func127, Try.ntmps127
  go_upto_region 1 with fail
  go_quiet ((refine (ON.out _).mono ?_; rintro e w' ⟨rfl, rfl⟩; exact ⟨rfl, _, rfl⟩))
  go_wp2_with fail
  clear b0 b1 b2 b3 b4 ri v1 i0 i1
  have W0 := Lib.hid (ST.out.drewN nq)
  have G0 : Hid (w.grownBy (w.drewN nq) (some bm)) := grown_drewN_one (World.grownBy.refl _ _) nq
  have NE := Lib.hid ST.out.ne
  generalize w.drewN nq = W at W0 G0
  go_loopw [4, 5, 7, 8, 9, 10, 11, 12, 32] (fun _ _ v7 v8 _ _ _ _ v32 wr => ∃ (j : Nat) (s : Int) (c' : Nat), v32 = .int .i64 j ∧ j ≤ n ∧ v7 = .int .i64 s ∧ v8 = .int .i64 (sg (colsL j S).length) ∧ accD n xs rows S (colsL j S).length = some s ∧ MnSt R n a m xs rows (some ⟨gq, oq, none⟩) qc px bm c' wr ∧ w.grownBy wr (some bm) ∧ c' ≤ c + (colsL j S).length * G) (fun _ _ _ _ _ _ _ _ v32 _ => n - (intOf v32).toNat)
  case atStart => exact ⟨0, 0, c, rfl, by omega, rfl, rfl, rfl, W0.out, G0.out, by omega⟩
  case round =>
    obtain ⟨j, s, c', rfl, hj, rfl, rfl, hs, hst, hg, hc'⟩ := hrel
    have E := Lib.hid hs
    have M := Lib.hid hst
    have GR := Lib.hid hg
    obtain ⟨b0, b1, b2, b3, b4⟩ := hst.blk.all
    clear hs hst hg
    by_cases hlt : j < n
    · rcases Bool.eq_false_or_eq_true (S.testBit j) with hb | hb
      · have HAj : Hid (∀ w', Calls Try.prog 126 #[.int .u64 S, .int .i64 j] w' fun e w2 => e = .returned (.bool true) ∧ w2 = w') := fun w' => by
          have := HA.out j w' hlt
          rw [hb] at this
          exact this
        obtain ⟨l1, l2, l3, l4, l5⟩ := LS.out j hlt hb
        obtain ⟨e1, e2, e3⟩ := CE.out j hlt hb s E.out
        have BDj : Hid (∀ s, accD n xs rows S (colsL (j + 1) S).length = some s → -2000000000000000000 ≤ s ∧ s ≤ 2000000000000000000) := fun s => BD.out j s hlt hb
        have E1 := Lib.hid e1
        have E2 := Lib.hid e2
        have E3 := Lib.hid e3
        have L1 := Lib.hid l1
        have L2 := Lib.hid l2
        have L4 := Lib.hid l4
        have so := SO.out j
        have SOJ := Lib.hid so
        obtain ⟨zn, zl⟩ := ZN.out j hlt
        have dz : r * n + j < R * n := by rw [← HX.out]; exact zl
        have M36 : R * n ≤ 6 * 6 := Nat.mul_le_mul hR6 h6
        obtain ⟨ga, oa, ha⟩ := M.out.cells.addr (by rw [HX.out]; omega)
        have zc : wr.cell? ⟨ga, oa + (r * n + j), none⟩ = some (.int .i64 (xs.getD (r * n + j) 0)) := by
          have := M.out.cells
          rw [ha] at this
          exact this.cells _ zl
        subst ha
        obtain ⟨z, hz⟩ : ∃ z, xs.getD (r * n + j) 0 = z := ⟨_, rfl⟩
        rw [hz] at zc zn E1 E2 E3
        obtain ⟨P, hP⟩ : ∃ P, r * n + j = P := ⟨_, rfl⟩
        rw [hP] at zc dz
        have c1 : (r : Int) * (n : Int) = ((r * n : Nat) : Int) := (Int.natCast_mul _ _).symm
        have u1 : IntKind.i64.wrap ((r : Int) * (n : Int)) = (r : Int) * (n : Int) := IntWalk.i64_in _ (by rw [c1]; omega)
        have u2 : IntKind.i64.wrap ((r : Int) * (n : Int) + (j : Int)) = (P : Int) := by
          rw [show (r : Int) * (n : Int) + (j : Int) = (P : Int) by rw [c1, ← hP]; omega]
          exact IntWalk.i64_in _ (by omega)
        have p0 : (0 : Int) ≤ (P : Int) := by omega
        have p1 : (P : Int) < ((R * n : Nat) : Int) := by omega
        obtain ⟨sn, hsn⟩ : ∃ z, sg (colsL j S).length = z := ⟨_, rfl⟩
        have s1 : sn = 1 ∨ sn = -1 := by rw [← hsn]; exact sg_or _
        have vn : IntKind.i64.wrap (-sn) = -sn := IntWalk.i64_in _ (by omega)
        have SS : Hid (sg (colsL (j + 1) S).length = -sn) := by show _ = _; rw [L4.out, sg_succ, hsn]
        rw [hsn] at E3 ⊢
        obtain ⟨p, hp⟩ : ∃ p, (colsL j S).length = p := ⟨_, rfl⟩
        have CC : Hid (c' ≤ c + (colsL (j + 1) S).length * G ∧ c' + G ≤ c + (colsL (j + 1) S).length * G ∧ c' + G ≤ c + 6 * G) := by
          have t1 : (p + 1) * G ≤ 6 * G := Nat.mul_le_mul_right G (by omega)
          rw [Nat.succ_mul] at t1
          show _ ∧ _ ∧ _
          rw [L4.out, hp, Nat.succ_mul]
          rw [hp] at hc'
          omega
        have WIj : Hid (∀ w', Calls Try.prog 156 #[.int .u64 S, .int .i64 j] w' fun e w2 => e = .returned (.int .u64 (lessS S j)) ∧ w2 = w') := fun w' => WI.out j w' hlt
        obtain ⟨T, hT⟩ : ∃ T, lessS S j = T := ⟨_, rfl⟩
        rw [hT] at L1 L2 SOJ E2 E3 WIj
        obtain ⟨d, hd⟩ : ∃ d, setD n xs rows T = d := ⟨_, rfl⟩
        have DT : Hid (∀ w', MnSt R n (some ⟨ga, oa, none⟩) m xs rows (some ⟨gq, oq, none⟩) qc px bm c' w' → Calls Try.prog 78 #[.pointer (some ⟨px, 0, none⟩), .int .u64 T] w' (fun e w2 => e = .returned (.tuple #[.int .i64 (detR d).1, .bool (detR d).2]) ∧ MnSt R n (some ⟨ga, oa, none⟩) m xs rows (some ⟨gq, oq, none⟩) qc px bm (c' + G) w2 ∧ w'.grownBy w2 (some bm))) := fun w' h => by
          have := IH.out T c' w' L1.out L2.out h (by rw [HG.out]; have := CC.out; omega)
          rw [HG.out, hd] at this
          exact this
        rw [hd] at SOJ E2 E3
        clear hb l1 l2 l3 l4 l5 e1 e2 e3 so zl hz hP c1 hsn hp hT hd hc'
        by_cases h0 : z = 0
        · have n1 : (z != 0) = false := by simp [h0]
          have A := Lib.hid (E1.out h0)
          clear h0 s1 zn
          go_wp2_with fail
          refine (HAj.out _).mono ?_
          rintro e w2 ⟨rfl, rfl⟩
          go_upto_region 7 with fail
          go_quiet (fail)
          go_wp2_with fail
          go_roundw
          case rel => exact ⟨j + 1, s, c', by go_num, by omega, rfl, by rw [SS.out], A.out, M.out.drewN nq, grown_drewN_one GR.out nq, CC.out.1⟩
          case measure => simp [intOf]; omega
        · have n1 : (z != 0) = true := by simp [h0]
          have H0 := Lib.hid h0
          clear h0
          go_wp2_with fail
          refine (HAj.out _).mono ?_
          rintro e w2 ⟨rfl, rfl⟩
          go_upto_region 7 with fail
          go_quiet (fail)
          go_wp2_with fail
          refine (WIj.out _).mono ?_
          rintro e w2 ⟨rfl, rfl⟩
          go_wp2_with fail
          refine (DT.out _ (M.out.drewN nq)).mono ?_
          rintro e w2 ⟨rfl, hm2, hg2⟩
          have M2 := Lib.hid hm2
          have GR2 := Lib.hid ((grown_drewN_one GR.out nq).trans hg2)
          clear hm2 hg2
          by_cases h1 : d = badN
          · have A := Lib.hid (E2.out H0.out h1)
            have R := detR_bad h1
            have M3 := Lib.hid (M2.out.mono CC.out.2.2)
            rw [R]
            clear h1 R s1 zn
            go_wp2_with fail
            exact bodyPost_ret (v := .tuple #[.int .i64 0, .bool false]) (by simp [results, Try.results127, go_sem]) rfl ⟨by rw [A.out]; rfl, M3.out, GR2.out⟩
          · have A := Lib.hid (E3.out H0.out h1)
            have R := detR_num h1
            have bd := BDj.out _ A.out
            have mx : NumP (sn * z) := by unfold NumP at *; rcases s1 with rfl | rfl <;> omega
            have my := mul_num _ _ mx (SOJ.out.resolve_left h1)
            unfold NumP at mx
            have v1 : IntKind.i64.wrap (sn * z) = sn * z := IntWalk.i64_in _ (by omega)
            have v2 : IntKind.i64.wrap (sn * z * d) = sn * z * d := IntWalk.i64_in _ (by omega)
            have v3 : IntKind.i64.wrap (s + sn * z * d) = s + sn * z * d := IntWalk.i64_in _ (by omega)
            rw [R]
            clear h1 R s1 zn bd mx my
            go_wp2_with fail
            go_roundw
            case rel => exact ⟨j + 1, s + sn * z * d, c' + G, by go_num, by omega, rfl, by rw [SS.out], A.out, M2.out, GR2.out, CC.out.2.1⟩
            case measure => simp [intOf]; omega
      · have O := Lib.hid (OUT.out j hb)
        have HAj : Hid (∀ w', Calls Try.prog 126 #[.int .u64 S, .int .i64 j] w' fun e w2 => e = .returned (.bool false) ∧ w2 = w') := fun w' => by
          have := HA.out j w' hlt
          rw [hb] at this
          exact this
        clear hb
        go_wp2_with fail
        refine (HAj.out _).mono ?_
        rintro e w2 ⟨rfl, rfl⟩
        go_wp2_with fail
        go_roundw
        case rel => exact ⟨j + 1, s, c', by go_num, by omega, rfl, by rw [O.out], by rw [O.out]; exact E.out, M.out, GR.out, by rw [O.out]; exact hc'⟩
        case measure => simp [intOf]; omega
    · obtain rfl : j = n := by omega
      rw [FIN.out] at hc'
      have E2 : Hid (accD j xs rows S K = some s) := by
        have := E.out
        rw [FIN.out] at this
        exact this
      have K7 : K * G ≤ 6 * G := Nat.mul_le_mul_right G K6
      have M2 := Lib.hid (M.out.mono (show c' ≤ c + 6 * G by omega))
      clear hlt hc' K7
      go_wp2_with fail
      exact bodyPost_ret (v := .tuple #[.int .i64 s, .bool true]) (by simp [results, Try.results127, go_sem]) rfl ⟨by rw [E2.out]; rfl, M2.out, GR.out⟩
end Go.Proofs.Ytpelnfenfeoeeaa
end

section
/-
  Chapter 6, in the program: determinants of a set of columns, with a memory.
-/
namespace Go.Proofs.Ytpelnfenfeoeeaa
set_option maxRecDepth 100000
open Go.RowKit Go.Maps
theorem wf_cols {S : Nat} (h : S < 64) : (Lit.int .u64 (S : Int)).wf = true := by
  revert S
  decide +kernel
theorem wf_num {s : Int} (h : NumP s) : (Lit.int .i64 s).wf = true := by
  unfold NumP at h
  exact WalkArith.wf_i64 (by omega)
set_option maxHeartbeats 1000000 in
theorem iMinor (R n : Nat) (a : Option Addr) (m : Nat) (xs : List Int) (rows : List Nat) (q : Option Addr) (qc px bm : Nat) (hR6 : R ≤ 6) (h6 : n ≤ 6) (hx : xs.length = R * n) (nx : nums xs = true) (hrn : ∀ i, i < rows.length → rows.getD i 0 < R) (hrl : rows.length ≤ 6) :
    ∀ k, k ≤ rows.length → MinorAt R n a m xs rows q qc px bm k := by
  intro k
  induction k with
  | zero =>
    intro _ S c w hS hc st hcb
    obtain rfl : S = 0 := colsL_none n h6 S hS hc
    have V : Hid (detR (setD n xs rows 0) = (1, true)) := by show _ = _; rw [setD_zero]; exact detR_num (by decide)
    have M := Lib.hid (st.mono (show c ≤ c + 7 ^ 0 by omega))
    rw [V.out]
    clear st
    go_enter Try.func78, Try.ntmps78
    go_wp2_with fail
    exact bodyPost_ret (v := .tuple #[.int .i64 1, .bool true]) (by simp [results, Try.results78, go_sem]) rfl ⟨rfl, M.out, World.grownBy.refl _ _⟩
  | succ k ih =>
    intro hk S c w hS hc st hcb
    have h64 : S < 64 := Nat.lt_of_lt_of_le hS (pow_64 n h6)
    have s0 : S ≠ 0 := by
      rintro rfl
      rw [colsL_zero] at hc
      simp at hc
    have n1 : ((S : Int) == 0) = false := by simp; omega
    have p7 : 7 ^ (k + 1) = 7 * 7 ^ k := by rw [Nat.pow_succ, Nat.mul_comm]
    have p1 : 1 ≤ 7 ^ k := Nat.one_le_pow _ _ (by omega)
    have EX : Hid (∀ w', MnSt R n a m xs rows q qc px bm c w' → Calls Try.prog 127 #[.pointer (some ⟨px, 0, none⟩), .int .u64 S] w' (fun e w2 => e = .returned (.tuple #[.int .i64 (exR (accD n xs rows S (k + 1))).1, .bool (exR (accD n xs rows S (k + 1))).2]) ∧ MnSt R n a m xs rows q qc px bm (c + 6 * 7 ^ k) w2 ∧ w'.grownBy w2 (some bm))) := fun w' h => iExpand R n a m xs rows q qc px bm k hR6 h6 hx nx hrn hk hrl (ih (by omega)) S c w' hS hc h (by omega)
    have D0 : Hid (accD n xs rows S (k + 1) = none → setD n xs rows S = badN) := fun h => setD_none hc h
    have D1 : Hid (∀ s, accD n xs rows S (k + 1) = some s → ¬ NumP s → setD n xs rows S = badN) := fun s h h1 => setD_bad hc h h1
    have D2 : Hid (∀ s, accD n xs rows S (k + 1) = some s → NumP s → setD n xs rows S = s) := fun s h h1 => setD_num hc h h1
    have KY : keyOf Try.prog 79 (.int .u64 (S : Int)) = some (.int .u64 (S : Int)) := keyOf_int_mk und_cols (wf_cols h64)
    obtain ⟨b0, b1, b2, b3, b4⟩ := st.blk.all
    have ST := Lib.hid st
    obtain ⟨D, hD, hM⟩ := st.memo
    have MP := Lib.hid hD
    have ME := Lib.hid hM
    obtain ⟨d, hd⟩ : ∃ d, setD n xs rows S = d := ⟨_, rfl⟩
    have DD := Lib.hid hd
    rw [p7] at hcb ⊢
    generalize 7 ^ k = G at EX p1 hcb ⊢
    rw [hd] at D0 D1 D2 ⊢
    clear st hD hM hd p7 ih hx nx hrn hrl hk hc s0
    rcases Bool.eq_false_or_eq_true (Maps.has D (.int .u64 (S : Int))) with hh | hh
    · obtain ⟨hb, ha⟩ := ME.out S hh
      rw [DD.out] at hb ha
      have R : Hid (detR d = (d, true)) := detR_num hb
      have HA := Lib.hid ha
      have M := Lib.hid (ST.out.mono (show c ≤ c + 7 * G by omega))
      clear hb ha
      rw [R.out]
      go_enter Try.func78, Try.ntmps78
      go_wp2_with (first
        | (at_lookup; refine wpList_lookup_own_ok_int _ rfl _ _ 112 rfl 79 3 .i64 keyed_cols und_map und_int (zero_int _) bm c D rfl MP.out _ _ rfl KY ?_; intro v hat hwc)
        | fail)
      obtain rfl : v = d := by
        rw [HA.out] at hat
        injection hat with hat
        injection hat with _ hat
        exact hat.symm
      exact bodyPost_ret (v := .tuple #[.int .i64 v, .bool true]) (by simp [results, Try.results78, go_sem]) rfl ⟨rfl, M.out, World.grownBy.refl _ _⟩
    · cases hac : accD n xs rows S (k + 1) with
      | none =>
        have R : Hid (detR d = (0, false)) := detR_bad (D0.out hac)
        rw [hac, show exR none = (0, false) from rfl] at EX
        clear hac
        rw [R.out]
        go_enter Try.func78, Try.ntmps78
        go_wp2_with (first
          | (at_lookup; refine wpList_lookup_own_ok_int _ rfl _ _ 112 rfl 79 3 .i64 keyed_cols und_map und_int (zero_int _) bm c D rfl MP.out _ _ rfl KY ?_; intro v hat hwc)
          | fail)
        refine (EX.out _ ST.out).mono ?_
        rintro e w2 ⟨rfl, hm2, hg2⟩
        have M2 := Lib.hid (hm2.mono (show c + 6 * G ≤ c + 7 * G by omega))
        have GR := Lib.hid hg2
        clear hm2 hg2
        go_wp2_with fail
        exact bodyPost_ret (v := .tuple #[.int .i64 0, .bool false]) (by simp [results, Try.results78, go_sem]) rfl ⟨rfl, M2.out, GR.out⟩
      | some s =>
        rw [hac, show exR (some s) = (s, true) from rfl] at EX
        by_cases hs : NumP s
        · have e : d = s := D2.out s hac hs
          subst e
          have R : Hid (detR d = (d, true)) := detR_num hs.ne_bad
          have WF := wf_num hs
          have NB := Lib.hid hs.ne_bad
          have n2 : decide (NumP d) = true := decide_eq_true hs
          clear hac hs
          rw [R.out]
          go_enter Try.func78, Try.ntmps78
          go_wp2_with (first
            | (at_lookup; refine wpList_lookup_own_ok_int _ rfl _ _ 112 rfl 79 3 .i64 keyed_cols und_map und_int (zero_int _) bm c D rfl MP.out _ _ rfl KY ?_; intro v hat hwc)
            | fail)
          refine (EX.out _ ST.out).mono ?_
          rintro e w2 ⟨rfl, hm2, hg2⟩
          clear b0 b1 b2 b3 b4
          obtain ⟨b0, b1, b2, b3, b4⟩ := hm2.blk.all
          have M2 := Lib.hid hm2
          obtain ⟨E, hE, hF⟩ := hm2.memo
          have MP2 := Lib.hid hE
          have ME2 := Lib.hid hF
          have GR := Lib.hid hg2
          clear hm2 hg2 hE hF
          go_wp2_with fail
          refine (iIsNum d _).mono ?_
          rintro e w3 ⟨rfl, rfl⟩
          rw [n2]
          go_wp2_with (first
            | (at_mapUpdate; refine wpList_mapUpdate_own _ rfl _ _ _ 112 rfl 79 3 keyed_cols und_map _ bm (c + 6 * G) E rfl MP2.out (by unfold maxLen; omega) _ _ _ rfl rfl KY _ [] (plainElem_int und_int WF) ?_; intro w4 hown4 hg4)
            | fail)
          have hP := ME2.out.put (World.ownsMap.isMap MP2.out) S (by rw [DD.out]; exact NB.out)
          rw [DD.out] at hP
          exact bodyPost_ret (v := .tuple #[.int .i64 d, .bool true]) (by simp [results, Try.results78, go_sem]) rfl ⟨rfl, (M2.out.turn hg4 hown4 hP).mono (by omega), GR.out.trans hg4⟩
        · have R : Hid (detR d = (0, false)) := detR_bad (D1.out s hac hs)
          have n2 : decide (NumP s) = false := decide_eq_false hs
          clear hac hs
          rw [R.out]
          go_enter Try.func78, Try.ntmps78
          go_wp2_with (first
            | (at_lookup; refine wpList_lookup_own_ok_int _ rfl _ _ 112 rfl 79 3 .i64 keyed_cols und_map und_int (zero_int _) bm c D rfl MP.out _ _ rfl KY ?_; intro v hat hwc)
            | fail)
          refine (EX.out _ ST.out).mono ?_
          rintro e w2 ⟨rfl, hm2, hg2⟩
          have M2 := Lib.hid (hm2.mono (show c + 6 * G ≤ c + 7 * G by omega))
          have GR := Lib.hid hg2
          clear hm2 hg2
          go_wp2_with fail
          refine (iIsNum s _).mono ?_
          rintro e w3 ⟨rfl, rfl⟩
          rw [n2]
          go_wp2_with fail
          exact bodyPost_ret (v := .tuple #[.int .i64 0, .bool false]) (by simp [results, Try.results78, go_sem]) rfl ⟨rfl, M2.out, GR.out⟩
end Go.Proofs.Ytpelnfenfeoeeaa
end

section
/-
  Chapter 6, in the program: IsSquare.
-/
namespace Go.Proofs.Ytpelnfenfeoeeaa
set_option maxRecDepth 100000
open Go.RowKit
set_option maxHeartbeats 1000000 in
theorem iIsSq (r c : Int) (a : Option Addr) (m : Nat) (xs : List Int) (w : World) (h : Rd w a xs) (hn : xs.length ≤ 16777216) :
    Calls Try.prog 98 #[.agg #[.int .i64 r, .int .i64 c, .slice a xs.length m]] w (Gives (.bool (isSq r c xs)) w) := by
  have H := Lib.hid h
  obtain ⟨n, hx⟩ : ∃ n, xs.length = n := ⟨_, rfl⟩
  have HX := Lib.hid hx
  rw [hx] at hn ⊢
  clear hx h
  have B0 : ∀ o1, Below w.heap.size w (w.alloc o1) := fun o1 => (Below.refl _ _).alloc (Nat.le_refl _) _
  have BH := Lib.hid B0
  clear B0
  have fin : ∀ b (w' : World), isSq r c xs = b → Below w.heap.size w w' → Gives (.bool (isSq r c xs)) w (.returned (.bool b)) w' := fun b w' h1 h2 => ⟨by rw [h1], h2⟩
  have FIN := Lib.hid fin
  clear fin
  go_enter Try.func98, Try.ntmps98
  go_wp2_with fail
  have ST := iIsMat r c a m xs _ (H.out.below (BH.out (.cells #[.int .i64 r, .int .i64 c, .slice a n m] 26))) (by rw [HX.out]; omega)
  rw [HX.out] at ST
  refine ST.mono ?_
  clear ST
  rintro e w1 ⟨rfl, hb⟩
  have K0 : Hid (Blk3 w1 w.heap.size 26 (.int .i64 r) (.int .i64 c) (.slice a n m)) := (Blk3.at_ _ _ _ _ rfl).keep hb (by simp)
  have B : Hid (Below w.heap.size w w1) := (BH.out _).trans (hb.mono (by simp))
  clear hb
  obtain ⟨ca0, ca1, ca2, -, -, -⟩ := K0.out.all
  obtain ⟨bm, hbm⟩ : ∃ b, isMat r c xs = b := ⟨_, rfl⟩
  rw [hbm]
  cases bm with
  | false =>
    have V : Hid (isSq r c xs = false) := by show isSq r c xs = false; unfold isSq; rw [hbm]; rfl
    clear hbm
    go_wp2_with fail
    go_ret
    exact FIN.out _ _ V.out B.out
  | true =>
    by_cases h1 : r = c
    · by_cases h2 : r ≤ 6
      · have V : Hid (isSq r c xs = true) := by show isSq r c xs = true; unfold isSq; rw [hbm, decide_eq_true h1, decide_eq_true h2]; rfl
        clear hbm
        subst h1
        go_wp2_with fail
        go_ret
        exact FIN.out _ _ V.out B.out
      · have V : Hid (isSq r c xs = false) := by show isSq r c xs = false; unfold isSq; rw [hbm, decide_eq_false h2]; simp
        clear hbm
        subst h1
        go_wp2_with fail
        go_ret
        exact FIN.out _ _ (by rw [V.out]; exact (decide_eq_false (by omega)).symm) B.out
    · have V : Hid (isSq r c xs = false) := by show isSq r c xs = false; unfold isSq; rw [hbm, decide_eq_false h1]; simp
      have n1 : (r == c) = false := by simpa using h1
      clear hbm
      go_wp2_with fail
      go_ret
      exact FIN.out _ _ V.out B.out
end Go.Proofs.Ytpelnfenfeoeeaa
end

section
/-
  Chapter 6, in the program: DeterminantOf.
-/
namespace Go.Proofs.Ytpelnfenfeoeeaa
set_option maxRecDepth 100000
open Go.RowKit Go.Maps
theorem rows_rd {w : World} {B l : Nat} {q : Option Addr} {qc : Nat} {rows : List Nat} (h : w.ownsRow B 3 1 (.slice q l qc) rows.length (rows.map fun (r : Nat) => Value.int .i64 (r : Int))) (hr : rows.length ≤ 6) : l = rows.length ∧ Rd w q (rows.map fun (r : Nat) => (r : Int)) := by
  have h2 : w.ownsRow B 3 1 (.slice q l qc) (rows.map fun (r : Nat) => (r : Int)).length ((rows.map fun (r : Nat) => (r : Int)).map (Value.int .i64)) := by
    rw [List.length_map, List.map_map]
    exact h
  have ho := Own.of_row h2 (by rw [List.length_map]; omega)
  rcases ho with ⟨hv, e⟩ | ⟨g, cap, hv, _, hi, _⟩
  · injection hv with e1 e2 e3
    subst e1
    rw [e]
    refine ⟨?_, Rd.nil _ _⟩
    have := congrArg List.length e
    rw [List.length_map] at this
    rw [e2, this]; rfl
  · injection hv with e1 e2 e3
    subst e1
    rw [List.length_map] at e2
    exact ⟨e2, hi.rd⟩
theorem new_st {R n : Nat} {a : Option Addr} {m : Nat} {xs : List Int} {rows : List Nat} {q : Option Addr} {l qc px bm B : Nat} {w : World} (h5 : Blk5 w px 114 (.int .i64 R) (.int .i64 n) (.slice a (R * n) m) (.slice q l qc) (.map (some bm))) (ho : w.ownsRow B 3 1 (.slice q l qc) rows.length (rows.map fun (r : Nat) => Value.int .i64 (r : Int))) (hm : Mp w bm 0 (.map [])) (h : Rd w a xs) (hr : rows.length ≤ 6) :
    MnSt R n a m xs rows q qc px bm 0 w := by
  obtain ⟨rfl, hq⟩ := rows_rd ho hr
  exact ⟨h5, h, hq, _, hm, Memo.none _ _ _⟩
theorem range_pick {n i : Nat} (h : i < (List.range n).length) : (List.range n).getD i 0 < n := by
  have h2 : i < n := by simpa using h
  simp [List.getD, h2]
theorem keepD {w0 W w' : World} {b : Nat} {p q v : Value} (h : W.cell? ⟨b, 0, none⟩ = some p ∧ W.cell? ⟨b, 1, none⟩ = some q ∧ W.cell? ⟨b, 2, none⟩ = some v ∧ Below w0.heap.size w0 W) (hb : Below W.heap.size W w') :
    w'.cell? ⟨b, 0, none⟩ = some p ∧ w'.cell? ⟨b, 1, none⟩ = some q ∧ w'.cell? ⟨b, 2, none⟩ = some v ∧ Below w0.heap.size w0 w' :=
  ⟨(hb.cell (World.block_lt_of_cell? W _ h.1)).trans h.1, (hb.cell (World.block_lt_of_cell? W _ h.2.1)).trans h.2.1, (hb.cell (World.block_lt_of_cell? W _ h.2.2.1)).trans h.2.2.1, h.2.2.2.trans (hb.mono h.2.2.2.size)⟩
theorem keepG {w0 W w' : World} {b bm : Nat} {p q v : Value} (h : W.cell? ⟨b, 0, none⟩ = some p ∧ W.cell? ⟨b, 1, none⟩ = some q ∧ W.cell? ⟨b, 2, none⟩ = some v ∧ Below w0.heap.size w0 W) (hb : W.grownBy w' (some bm)) (h1 : b < bm) (h2 : w0.heap.size ≤ bm) :
    w'.cell? ⟨b, 0, none⟩ = some p ∧ w'.cell? ⟨b, 1, none⟩ = some q ∧ w'.cell? ⟨b, 2, none⟩ = some v ∧ Below w0.heap.size w0 w' :=
  ⟨hb.cell h.1 (by simp; omega), hb.cell h.2.1 (by simp; omega), hb.cell h.2.2.1 (by simp; omega), h.2.2.2.trans (below_of_one hb h2 h.2.2.2.size)⟩
theorem pow7 : ∀ n, n ≤ 6 → 0 + 7 ^ n ≤ 1000000 := by decide
set_option maxHeartbeats 1000000 in
theorem iDetOf (r c : Int) (a : Option Addr) (m : Nat) (xs : List Int) (w : World) (h : Rd w a xs) (hn : xs.length ≤ 16777216) :
    Calls Try.prog 46 #[.agg #[.int .i64 r, .int .i64 c, .slice a xs.length m]] w (Gives (.tuple #[.int .i64 (detOf r c xs).1, .bool (detOf r c xs).2]) w) := by
  have H := Lib.hid h
  obtain ⟨l, hx⟩ : ∃ n, xs.length = n := ⟨_, rfl⟩
  have HX := Lib.hid hx
  rw [hx] at hn ⊢
  clear hx h
  have B0 : Hid (∀ o1, Below w.heap.size w (w.alloc o1)) := fun o1 => (Below.refl _ _).alloc (Nat.le_refl _) _
  have SQ : Hid (∀ w', Below w.heap.size w w' → Calls Try.prog 98 #[.agg #[.int .i64 r, .int .i64 c, .slice a l m]] w' (Gives (.bool (isSq r c xs)) w')) := fun w' hb => by
    have := iIsSq r c a m xs w' (H.out.below hb) (by rw [HX.out]; exact hn)
    rw [HX.out] at this
    exact this
  rcases Bool.eq_false_or_eq_true (isSq r c xs) with hs | hs
  · obtain ⟨n, rfl, rfl, h6, hl, nx⟩ := isSq_says hs
    have V : Hid (detOf n n xs = detM n xs) := by show detOf n n xs = _; unfold detOf; rw [if_pos hs]; rfl
    have LN : l = n * n := by rw [← HX.out]; exact hl
    subst LN
    have NW : Hid (∀ w', Calls Try.prog 75 #[.agg #[.int .i64 n, .int .i64 n, .slice a (n * n) m]] w' (MnNewR n n (n * n) m a w')) := fun w' => iMinorsOf n n (n * n) m a w' h6
    have FC : Hid (∀ w', Calls Try.prog 99 #[.int .i64 n] w' fun e w2 => e = .returned (.int .u64 ((2 ^ n - 1 : Nat) : Int)) ∧ w2 = w') := fun w' => iFirst n h6 w'
    have RL : (List.range n).length = n := List.length_range
    have MI : Hid (∀ (px bm B : Nat) (V : Value) (w' : World), Blk5 w' px 114 (.int .i64 n) (.int .i64 n) (.slice a (n * n) m) V (.map (some bm)) → w'.ownsRow B 3 1 V (List.range n).length ((List.range n).map fun (r : Nat) => Value.int .i64 (r : Int)) → Mp w' bm 0 (.map []) → Below w.heap.size w w' →
        Calls Try.prog 78 #[.pointer (some ⟨px, 0, none⟩), .int .u64 ((2 ^ n - 1 : Nat) : Int)] w' (fun e w2 => e = .returned (.tuple #[.int .i64 (detM n xs).1, .bool (detM n xs).2]) ∧ w'.grownBy w2 (some bm))) := fun px bm B V w' h5 ho hm hb => by
      obtain ⟨q, l, qc, rfl⟩ := rows_form ho
      have := iMinor n n a m xs (List.range n) q qc px bm h6 h6 hl nx (fun i hi => range_pick hi) (by omega) n (by omega) (2 ^ n - 1) 0 w' (by have := Nat.two_pow_pos n; omega) (by rw [colsL_full n h6, List.length_range]) (new_st h5 ho hm (H.out.below hb) (by omega)) (pow7 n h6)
      rw [setD_all h6 hl] at this
      refine this.mono ?_
      rintro e w2 ⟨rfl, -, hg⟩
      exact ⟨rfl, hg⟩
    obtain ⟨dn, hdn⟩ : ∃ d, (detM n xs).1 = d := ⟨_, rfl⟩
    obtain ⟨db, hdb⟩ : ∃ d, (detM n xs).2 = d := ⟨_, rfl⟩
    rw [V.out]
    rw [hdn, hdb] at MI ⊢
    obtain ⟨F, hF⟩ : ∃ F, (2 ^ n - 1 : Nat) = F := ⟨_, rfl⟩
    rw [hF] at MI FC
    clear V hdn hdb hF RL
    rw [hs] at SQ
    clear hs
    go_enter Try.func46, Try.ntmps46
    go_wp2_with fail
    refine (SQ.out _ (B0.out _)).mono ?_
    rintro e w1 ⟨rfl, hb⟩
    have K0 : Hid (Blk3 w1 w.heap.size 26 (.int .i64 n) (.int .i64 n) (.slice a (n * n) m)) := (Blk3.at_ _ _ _ _ rfl).keep hb (by simp)
    have B : Hid (Below w.heap.size w w1) := (B0.out _).trans (hb.mono (by simp))
    clear hb
    obtain ⟨a0, a1, a2, -, -, -⟩ := K0.out.all
    have hS := Lib.hid (And.intro a0 (And.intro a1 (And.intro a2 B.out)))
    have SZ : w.heap.size < w1.heap.size := K0.out.lt
    go_upto_region 3 with fail
    go_region_held3 (fun w' => w'.cell? ⟨w.heap.size, 0, none⟩ = some (.int .i64 n) ∧ w'.cell? ⟨w.heap.size, 1, none⟩ = some (.int .i64 n) ∧ w'.cell? ⟨w.heap.size, 2, none⟩ = some (.slice a (n * n) m) ∧ Below w.heap.size w w') (first | exact keepD hS.out (Below.refl _ _).drew | with_reducible exact keepD ‹_› ‹Below _ _ _› | with_reducible exact keepG ‹_› ‹World.grownBy _ _ _› ‹_› (Nat.le_of_lt ‹_›))
      (first
      | (go_at_call 75; (with_reducible refine (NW.out _).mono ?_); rintro e w2 ⟨px, bm, V, rfl, -, x2, x3, x4, x5, hb1⟩; replace x2 : w.heap.size < bm := Nat.lt_of_lt_of_le SZ x2)
      | (go_at_call 99; (with_reducible refine (FC.out _).mono ?_); rintro e w3 ⟨rfl, rfl⟩; have hb3 := Below.refl w3.heap.size w3)
      | (go_at_call 78; (with_reducible refine (MI.out _ _ _ _ _ ‹_› ‹_› ‹_› (And.right (And.right (And.right ‹_›)))).mono ?_); rintro e w4 ⟨rfl, hg4⟩))
    all_goals
      go_wp2_with fail
      exact bodyPost_ret (v := .tuple #[.int .i64 dn, .bool db]) (by simp [results, Try.results46, go_sem]) rfl ⟨rfl, (And.right (And.right (And.right ‹_ ∧ _ ∧ _ ∧ Below w.heap.size w _›)))⟩
  · have V : Hid (detOf r c xs = (0, false)) := by show detOf r c xs = _; unfold detOf; rw [if_neg (by rw [hs]; decide)]
    rw [hs] at SQ
    clear hs
    rw [V.out]
    go_enter Try.func46, Try.ntmps46
    go_wp2_with fail
    refine (SQ.out _ (B0.out _)).mono ?_
    rintro e w1 ⟨rfl, hb⟩
    have B : Hid (Below w.heap.size w w1) := (B0.out _).trans (hb.mono (by simp))
    clear hb
    go_wp2_with fail
    exact bodyPost_ret (v := .tuple #[.int .i64 0, .bool false]) (by simp [results, Try.results46, go_sem]) rfl ⟨rfl, B.out⟩
end Go.Proofs.Ytpelnfenfeoeeaa
end
