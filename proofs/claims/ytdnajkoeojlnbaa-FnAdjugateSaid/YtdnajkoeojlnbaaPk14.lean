/-
  Texts of this seat, joined: ScaleI · InvI
-/
import Derived.Deep.RegionHeld3
import Derived.Deep.DeepCutAuto
import Derived.Test.YtdnajkoeojlnbaaPk1
import Derived.Test.YtdnajkoeojlnbaaPk2
import Derived.Test.YtdnajkoeojlnbaaPk3
import Derived.Test.YtdnajkoeojlnbaaPk5
import Derived.Test.YtdnajkoeojlnbaaPk10
import Derived.Test.YtdnajkoeojlnbaaPk12

section
/-
  Chapter 3, in the program: ScaleMatrix.
-/
namespace Go.Proofs.Ytdnajkoeojlnbaa
set_option maxRecDepth 100000
open Go.RowKit

set_option maxRecDepth 100000 in
set_option maxHeartbeats 1000000 in
theorem iScale_t (R C : Nat) (a : Option Addr) (m : Nat) (xs : List Int) (q : Int) (w : World) (h : Rd w a xs) (hR : R ≤ 24) (hC : C ≤ 24) (hx : xs.length = R * C)
    (hm : isMat R C xs = true) (hq : -400000000 ≤ q ∧ q ≤ 400000000) :
    Calls Try.prog 50 #[.agg #[.int .i64 R, .int .i64 C, .slice a xs.length m], .int .i64 q] w (MatRes (MR.done R C (scaleL xs q)) w) := by
  have hle : R * C ≤ 24 * 24 := Nat.mul_le_mul hR hC
  have B0 : ∀ o1 o2, Below w.heap.size w ((w.alloc o1).alloc o2) := fun o1 o2 => ((Below.refl _ _).alloc (Nat.le_refl _) _).alloc (by simp) _
  have BH := Lib.hid B0
  have H := Lib.hid h
  have M := Lib.hid hm
  obtain ⟨N, hN⟩ : ∃ N, R * C = N := ⟨_, rfl⟩
  rw [hN] at hx hle
  have HX := Lib.hid hx
  rw [hx]
  have n1 := (isMat_says hm).2.2.2
  have NX := Lib.hid n1
  obtain ⟨q1, q2⟩ := hq
  clear B0 h hm hx hN n1
  go_enter Try.func50, Try.ntmps50
  go_wp2_with fail
  have ST := iIsMat R C a m xs _ (H.out.below (BH.out (.cells #[.int .i64 R, .int .i64 C, .slice a N m] 27) (.cells #[.int .i64 0, .int .i64 0, .slice none 0 0] 27))) (by rw [HX.out]; omega)
  rw [HX.out] at ST
  refine ST.mono ?_
  clear ST
  rintro e w1 ⟨rfl, hb⟩
  have K0 : Hid (Blk3 w1 w.heap.size 27 (.int .i64 R) (.int .i64 C) (.slice a N m)) := ((Blk3.at_ _ _ _ _ rfl).old _).keep hb (by simp <;> omega)
  have K2 : Hid (Blk3 w1 (w.heap.size + 1) 27 (.int .i64 0) (.int .i64 0) (.slice none 0 0)) := (Blk3.at_ _ _ _ _ (by simp)).keep hb (by simp)
  have B : Hid (Below w.heap.size w w1) := (BH.out _ _).trans (hb.mono (by simp <;> omega))
  clear hb
  obtain ⟨e0, e1, e2, -, -, -⟩ := K0.out.all
  rw [M.out]
  go_wp2_with fail
  refine (iIsNum_t q _ q1 q2).mono ?_
  rintro e w' ⟨rfl, rfl⟩
  go_upto_region 3 with fail
  go_cut [6] (fun s6 wx => ∃ (p6 : Nat) (v0 : Value), s6 = .pointer (some ⟨p6, 0, none⟩) ∧ Blk3 wx p6 27 (.int .i64 R) (.int .i64 C) v0 ∧ In w1.heap.size wx.heap.size wx v0 xs ∧ Below w1.heap.size w1 wx)
  case first =>
    go_wp2_with fail
    refine (iCopyOf R C a m N xs HX.out _ (H.out.below B.out) (by omega)).mono ?_
    rintro e v1 ⟨q0, qc, rfl, own, hb1⟩
    have O := Lib.hid own.inn
    have VB : Hid (Blk3 (v1.alloc (.cells #[.int .i64 R, .int .i64 C, .slice q0 N qc] 27)) v1.heap.size 27 (.int .i64 R) (.int .i64 C) (.slice q0 N qc)) := Blk3.at_ _ _ _ _ rfl
    have HB := Lib.hid hb1
    clear own hb1
    go_wp2_with fail
    go_meet
    exact ⟨v1.heap.size, _, rfl, VB.out, (O.out.old _).wide (Nat.le_refl _) (by simp), HB.out.alloc HB.out.size _⟩
  case rest =>
    obtain ⟨p6, v0, rfl, k6, in0, hb⟩ := hcut
    have lK0 := K0.out.lt
    have K0 := Lib.hid (K0.out.step hb)
    have lK2 := K2.out.lt
    have K2 := Lib.hid (K2.out.step hb)
    have B := Lib.hid (stepB B.out hb)
    have K6 := Lib.hid k6
    have LP := hb.size
    clear hb k6
    obtain ⟨cc0, cc1, cc2, -, -, -⟩ := K6.out.all
    rcases in0.cases with ⟨rfl, rfl⟩ | ⟨g, qc, hv, gB, -, gi, gc⟩
    · obtain rfl : N = 0 := HX.out.symm
      have HL : Hid ((scaleL [] q).length = 0) := rfl
      clear in0
      go_wp2_with fail
      go_loopw [7, 22] (fun _ i wr => i = .int .i64 0 ∧ wr = wc) (fun _ _ _ => 0)
      case atStart => exact ⟨rfl, rfl⟩
      case round =>
        obtain ⟨rfl, rfl⟩ := hrel
        go_wp2_with fail
        have ST := iDone R C none 0 (scaleL [] q) wr (Rd.nil _ _) (by rw [HL.out]; omega)
        rw [HL.out] at ST
        refine ST.mono ?_
        clear ST
        rintro e w4 ⟨rfl, hb⟩
        have R2 := Lib.hid (K2.out.step hb)
        have B := Lib.hid (stepB B.out hb)
        clear hb
        obtain ⟨s0, s1, s2, t0, t1, t2⟩ := R2.out.all
        have be : ∀ x y z, Below w.heap.size w (((w4.setCell ⟨w.heap.size + 1, 0, none⟩ x).setCell ⟨w.heap.size + 1, 1, none⟩ y).setCell ⟨w.heap.size + 1, 2, none⟩ z) := fun x y z =>
          (((B.out.setCell (by show w.heap.size ≤ w.heap.size + 1; omega) _).setCell (by show w.heap.size ≤ w.heap.size + 1; omega) _).setCell (by show w.heap.size ≤ w.heap.size + 1; omega) _)
        have BE := Lib.hid be
        clear be
        rcases Bool.eq_false_or_eq_true (isMat R C (scaleL [] q)) with hd | hd
        · have E : Hid (MR.done R C (scaleL [] q) = ⟨true, R, C, scaleL [] q⟩) := by show MR.done R C (scaleL [] q) = _; unfold MR.done; rw [hd]; rfl
          rw [hd]
          clear hd
          unfold DoneRes
          go_wp2_with fail
          obtain ⟨E0, E1, E2, -, -, -⟩ := (((R2.out.set0 (.int .i64 R)).set1 (.int .i64 C)).set2 (.slice none 0 0)).all
          rw [E.out]
          refine bodyPost_ret (v := .tuple #[.agg #[.int .i64 R, .int .i64 C, .slice none 0 0], .bool true]) (by simp [results, Try.results50, go_sem, E0, E1, E2]) rfl ⟨_, rfl, .inl ⟨rfl, rfl⟩, ?_⟩
          · exact BE.out _ _ _
        · have E : Hid (MR.done R C (scaleL [] q) = MR.no) := by show MR.done R C (scaleL [] q) = _; unfold MR.done; rw [hd]; rfl
          rw [hd]
          clear hd
          unfold DoneRes
          go_wp2_with fail
          obtain ⟨E0, E1, E2, -, -, -⟩ := (((R2.out.set0 (.int .i64 0)).set1 (.int .i64 0)).set2 (.slice none 0 0)).all
          rw [E.out]
          exact bodyPost_ret (v := .tuple #[.agg #[.int .i64 0, .int .i64 0, .slice none 0 0], .bool false]) (by simp [results, Try.results50, go_sem, E0, E1, E2]) rfl ⟨_, rfl, .inl ⟨rfl, rfl⟩, BE.out _ _ _⟩
    · have gN : Hid (xs.length = N) := HX
      rw [HX.out] at hv gc
      subst hv
      have NE := gi.ne_blk K6.out
      have GI := Lib.hid gi
      clear in0 gi
      go_wp2_with fail
      go_loopw [7, 22] (fun _ i wr => ∃ k : Nat, i = .int .i64 k ∧ k ≤ N ∧ Ints wr g (mixL xs k (fun i => xs.getD i 0 * q)) ∧ wc.grownBy wr (some g)) (fun _ i _ => N - (intOf i).toNat)
      case atStart => exact ⟨0, rfl, by omega, by rw [mixL_zero]; exact GI.out, World.grownBy.refl _ _⟩
      case round =>
        obtain ⟨k, rfl, hk, hi, hgr⟩ := hrel
        have I := Lib.hid hi
        have G := Lib.hid hgr
        clear hi hgr
        have R2 := Lib.hid (K2.out.keepOne G.out (by omega))
        have R6 := Lib.hid (K6.out.keepOne G.out (Ne.symm NE))
        obtain ⟨r0, r1, r2, -, -, -⟩ := R6.out.all
        by_cases hlt : k < N
        · obtain ⟨x, hx⟩ : ∃ x, xs.getD k 0 = x := ⟨_, rfl⟩
          have v1 := nums_at NX.out (j := k) (by rw [HX.out]; exact hlt)
          have hold := I.out.cell (i := k) (by rw [mixL_length, HX.out]; exact hlt)
          rw [mixL_at, hx] at hold
          rw [hx] at v1
          obtain ⟨v11, v12⟩ := v1
          have hfr := I.out.free k
          have XX := Lib.hid hx
          obtain ⟨m1, m2⟩ := mul_num x q ⟨v11, v12⟩ ⟨q1, q2⟩
          clear hx
          go_wp2_with fail
          go_roundw
          case rel =>
            refine ⟨k + 1, by go_num, by omega, ?_, ?_⟩
            · rw [← mixL_step]
              rw [XX.out]
              first | exact I.out.set k _ | exact I.out.drew.set k _
            · first | exact grown_set_one G.out rfl _ | exact grown_drew_one (grown_set_one G.out rfl _)
          case measure => simp [intOf]; omega
        · obtain rfl : N = k := by omega
          have e : mixL xs N (fun i => xs.getD i 0 * q) = scaleL xs q := by rw [← HX.out, mixL_all]; rfl
          have I2 : Hid (Ints wr g (scaleL xs q)) := by have := I.out; rw [e] at this; exact this
          have hl : (scaleL xs q).length = N := by unfold scaleL; simp [HX.out]
          have HL := Lib.hid hl
          have B := Lib.hid (B.out.trans (below_of_one G.out (by omega) B.out.size))
          clear e hl
          go_wp2_with fail
          have ST := iDone R C (some ⟨g, 0, none⟩) qc (scaleL xs q) wr I2.out.rd (by rw [HL.out]; omega)
          rw [HL.out] at ST
          refine ST.mono ?_
          clear ST
          rintro e w4 ⟨rfl, hb⟩
          have R2 := Lib.hid (R2.out.step hb)
          have I2 := Lib.hid (I2.out.keep hb I2.out.lt)
          have B := Lib.hid (stepB B.out hb)
          clear hb
          obtain ⟨s0, s1, s2, t0, t1, t2⟩ := R2.out.all
          have be : ∀ x y z, Below w.heap.size w (((w4.setCell ⟨w.heap.size + 1, 0, none⟩ x).setCell ⟨w.heap.size + 1, 1, none⟩ y).setCell ⟨w.heap.size + 1, 2, none⟩ z) := fun x y z =>
            (((B.out.setCell (by show w.heap.size ≤ w.heap.size + 1; omega) _).setCell (by show w.heap.size ≤ w.heap.size + 1; omega) _).setCell (by show w.heap.size ≤ w.heap.size + 1; omega) _)
          have BE := Lib.hid be
          clear be
          rcases Bool.eq_false_or_eq_true (isMat R C (scaleL xs q)) with hd | hd
          · have E : Hid (MR.done R C (scaleL xs q) = ⟨true, R, C, scaleL xs q⟩) := by show MR.done R C (scaleL xs q) = _; unfold MR.done; rw [hd]; rfl
            rw [hd]
            clear hd
            unfold DoneRes
            go_wp2_with fail
            obtain ⟨E0, E1, E2, -, -, -⟩ := (((R2.out.set0 (.int .i64 R)).set1 (.int .i64 C)).set2 (.slice (some ⟨g, 0, none⟩) N qc)).all
            rw [E.out]
            refine bodyPost_ret (v := .tuple #[.agg #[.int .i64 R, .int .i64 C, .slice (some ⟨g, 0, none⟩) N qc], .bool true]) (by simp [results, Try.results50, go_sem, E0, E1, E2]) rfl ⟨_, rfl, ?_, ?_⟩
            · refine .inr ⟨g, qc, by rw [HL.out], by omega, ?_, by rw [HL.out]; omega, by rw [HL.out]; omega⟩
              exact ((I2.out.far (by show g ≠ w.heap.size + 1; omega) _).far (by show g ≠ w.heap.size + 1; omega) _).far (by show g ≠ w.heap.size + 1; omega) _
            · exact BE.out _ _ _
          · have E : Hid (MR.done R C (scaleL xs q) = MR.no) := by show MR.done R C (scaleL xs q) = _; unfold MR.done; rw [hd]; rfl
            rw [hd]
            clear hd
            unfold DoneRes
            go_wp2_with fail
            obtain ⟨E0, E1, E2, -, -, -⟩ := (((R2.out.set0 (.int .i64 0)).set1 (.int .i64 0)).set2 (.slice none 0 0)).all
            rw [E.out]
            exact bodyPost_ret (v := .tuple #[.agg #[.int .i64 0, .int .i64 0, .slice none 0 0], .bool false]) (by simp [results, Try.results50, go_sem, E0, E1, E2]) rfl ⟨_, rfl, .inl ⟨rfl, rfl⟩, BE.out _ _ _⟩
theorem iScale (r c : Int) (a : Option Addr) (m : Nat) (xs : List Int) (q : Int) (w : World) (h : Rd w a xs) (hn : xs.length ≤ 16777216) :
    Calls Try.prog 50 #[.agg #[.int .i64 r, .int .i64 c, .slice a xs.length m], .int .i64 q] w (MatRes (scaleM r c xs q) w) := by
  rcases Bool.eq_false_or_eq_true (isMat r c xs) with hm | hm
  · by_cases hq : -400000000 ≤ q ∧ q ≤ 400000000
    · obtain ⟨⟨r1, r2⟩, ⟨c1, c2⟩, l1, -⟩ := isMat_says hm
      obtain ⟨R, rfl⟩ := Int.eq_ofNat_of_zero_le r1
      obtain ⟨C, rfl⟩ := Int.eq_ofNat_of_zero_le c1
      rw [← Int.natCast_mul] at l1
      have E : scaleM R C xs q = MR.done R C (scaleL xs q) := by unfold scaleM; rw [hm, show decide (NumP q) = true from decide_eq_true hq]; simp
      rw [E]
      exact iScale_t R C a m xs q w h (by omega) (by omega) (by omega) hm hq
    · have E : Hid (scaleM r c xs q = MR.no) := by show scaleM r c xs q = _; unfold scaleM; rw [hm, show decide (NumP q) = false from decide_eq_false hq]; simp
      have M := Lib.hid hm
      have hq' : q < -400000000 ∨ 400000000 < q := by omega
      clear hm hq
      have B0 : ∀ o1 o2, Below w.heap.size w ((w.alloc o1).alloc o2) := fun o1 o2 => ((Below.refl _ _).alloc (Nat.le_refl _) _).alloc (by simp) _
      have BH := Lib.hid B0
      have H := Lib.hid h
      clear B0 h
      go_enter Try.func50, Try.ntmps50
      go_wp2_with fail
      refine (iIsMat r c a m xs _ (H.out.below (BH.out (.cells #[.int .i64 r, .int .i64 c, .slice a xs.length m] 27) (.cells #[.int .i64 0, .int .i64 0, .slice none 0 0] 27))) hn).mono ?_
      rintro e w1 ⟨rfl, hb⟩
      have K0 : Hid (Blk3 w1 w.heap.size 27 (.int .i64 r) (.int .i64 c) (.slice a xs.length m)) := ((Blk3.at_ _ _ _ _ rfl).old _).keep hb (by simp <;> omega)
      have K2 : Hid (Blk3 w1 (w.heap.size + 1) 27 (.int .i64 0) (.int .i64 0) (.slice none 0 0)) := (Blk3.at_ _ _ _ _ (by simp)).keep hb (by simp)
      have B : Hid (Below w.heap.size w w1) := (BH.out _ _).trans (hb.mono (by simp <;> omega))
      clear hb
      obtain ⟨ca0, ca1, ca2, -, -, -⟩ := K0.out.all
      obtain ⟨cc0, cc1, cc2, ff0, ff1, ff2⟩ := K2.out.all
      rw [M.out]
      go_wp2_with fail
      refine (iIsNum_f q _ hq').mono ?_
      rintro e w2 ⟨rfl, rfl⟩
      go_wp2_with fail
      obtain ⟨E0, E1, E2, -, -, -⟩ := (((K2.out.set0 (.int .i64 0)).set1 (.int .i64 0)).set2 (.slice none 0 0)).all
      rw [E.out]
      exact bodyPost_ret (v := .tuple #[.agg #[.int .i64 0, .int .i64 0, .slice none 0 0], .bool false]) (by simp [results, Try.results50, go_sem, E0, E1, E2]) rfl ⟨_, rfl, .inl ⟨rfl, rfl⟩, ((B.out.setCell (Nat.le_succ _) _).setCell (Nat.le_succ _) _).setCell (Nat.le_succ _) _⟩
  · have E : Hid (scaleM r c xs q = MR.no) := by show scaleM r c xs q = _; unfold scaleM; rw [hm]; simp
    have M := Lib.hid hm
    clear hm
    have B0 : ∀ o1 o2, Below w.heap.size w ((w.alloc o1).alloc o2) := fun o1 o2 => ((Below.refl _ _).alloc (Nat.le_refl _) _).alloc (by simp) _
    have BH := Lib.hid B0
    have H := Lib.hid h
    clear B0 h
    go_enter Try.func50, Try.ntmps50
    go_wp2_with fail
    refine (iIsMat r c a m xs _ (H.out.below (BH.out (.cells #[.int .i64 r, .int .i64 c, .slice a xs.length m] 27) (.cells #[.int .i64 0, .int .i64 0, .slice none 0 0] 27))) hn).mono ?_
    rintro e w1 ⟨rfl, hb⟩
    have K0 : Hid (Blk3 w1 w.heap.size 27 (.int .i64 r) (.int .i64 c) (.slice a xs.length m)) := ((Blk3.at_ _ _ _ _ rfl).old _).keep hb (by simp <;> omega)
    have K2 : Hid (Blk3 w1 (w.heap.size + 1) 27 (.int .i64 0) (.int .i64 0) (.slice none 0 0)) := (Blk3.at_ _ _ _ _ (by simp)).keep hb (by simp)
    have B : Hid (Below w.heap.size w w1) := (BH.out _ _).trans (hb.mono (by simp <;> omega))
    clear hb
    obtain ⟨ca0, ca1, ca2, -, -, -⟩ := K0.out.all
    obtain ⟨cc0, cc1, cc2, ff0, ff1, ff2⟩ := K2.out.all
    rw [M.out]
    go_wp2_with fail
    obtain ⟨E0, E1, E2, -, -, -⟩ := (((K2.out.set0 (.int .i64 0)).set1 (.int .i64 0)).set2 (.slice none 0 0)).all
    rw [E.out]
    exact bodyPost_ret (v := .tuple #[.agg #[.int .i64 0, .int .i64 0, .slice none 0 0], .bool false]) (by simp [results, Try.results50, go_sem, E0, E1, E2]) rfl ⟨_, rfl, .inl ⟨rfl, rfl⟩, ((B.out.setCell (Nat.le_succ _) _).setCell (Nat.le_succ _) _).setCell (Nat.le_succ _) _⟩
end Go.Proofs.Ytdnajkoeojlnbaa
end

section
/-
  Chapter 6, in the program: InverseOf.
-/
namespace Go.Proofs.Ytdnajkoeojlnbaa
set_option maxRecDepth 100000
open Go.RowKit

set_option maxRecDepth 100000 in
set_option maxHeartbeats 2000000 in
theorem iInv (r c : Int) (a : Option Addr) (m : Nat) (xs : List Int) (w : World) (h : Rd w a xs) (hn : xs.length ≤ 16777216) :
    Calls Try.prog 33 #[.agg #[.int .i64 r, .int .i64 c, .slice a xs.length m]] w (MatRes (invM r c xs) w) := by
  have H := Lib.hid h
  have HN := Lib.hid hn
  have B0 : Hid (∀ o1 o2, Below w.heap.size w ((w.alloc o1).alloc o2)) := fun o1 o2 => ((Below.refl _ _).alloc (Nat.le_refl _) _).alloc (by simp) _
  have UN : Hid (∀ w', Below w.heap.size w w' → Calls Try.prog 31 #[.agg #[.int .i64 r, .int .i64 c, .slice a xs.length m]] w' (Gives (.bool (uniB r c xs)) w')) := fun w' hb => iUni r c a m xs w' (H.out.below hb) HN.out
  have AJ : Hid (∀ w', Below w.heap.size w w' → Calls Try.prog 29 #[.agg #[.int .i64 r, .int .i64 c, .slice a xs.length m]] w' (MatRes (adjM r c xs) w')) := fun w' hb => iAdj r c a m xs w' (H.out.below hb) HN.out
  have DT : Hid (∀ w', Below w.heap.size w w' → Calls Try.prog 25 #[.agg #[.int .i64 r, .int .i64 c, .slice a xs.length m]] w' (Gives (.tuple #[.int .i64 (detOf r c xs).1, .bool (detOf r c xs).2]) w')) := fun w' hb => iDetOf r c a m xs w' (H.out.below hb) HN.out
  have V : Hid (invM r c xs = if uniB r c xs = true ∧ (adjM r c xs).ok = true then scaleM (adjM r c xs).r (adjM r c xs).c (adjM r c xs).zs (detOf r c xs).1 else MR.no) := rfl
  generalize invM r c xs = Z at V ⊢
  generalize adjM r c xs = A at V AJ
  generalize (detOf r c xs).1 = d at V DT
  generalize (detOf r c xs).2 = db at DT
  generalize uniB r c xs = ub at V UN
  generalize xs.length = l at UN AJ DT ⊢
  clear h hn
  cases ub with
  | false =>
    have Z0 : Hid (Z = MR.no) := by show Z = _; rw [V.out, if_neg (fun h => absurd h.1 (by decide))]
    go_enter Try.func33, Try.ntmps33
    go_wp2_with fail
    refine (UN.out _ (B0.out _ _)).mono ?_
    rintro e w1 ⟨rfl, hb⟩
    have K1 : Hid (Blk3 w1 (w.heap.size + 1) 27 (.int .i64 0) (.int .i64 0) (.slice none 0 0)) := (Blk3.at_ _ _ _ _ (by simp)).keep hb (by simp)
    have B : Hid (Below w.heap.size w w1) := (B0.out _ _).trans (hb.mono (by simp <;> omega))
    clear hb
    obtain ⟨p0, p1, p2, f0, f1, f2⟩ := K1.out.all
    go_wp2_with fail
    obtain ⟨E0, E1, E2, -, -, -⟩ := (K1.out.set3 (.int .i64 0) (.int .i64 0) (.slice none 0 0)).all
    rw [Z0.out]
    exact bodyPost_ret (v := .tuple #[.agg #[.int .i64 0, .int .i64 0, .slice none 0 0], .bool false]) (by simp [results, Try.results33, go_sem, E0, E1, E2]) rfl ⟨_, rfl, .inl ⟨rfl, rfl⟩, ((B.out.setCell (by show w.heap.size ≤ w.heap.size + 1; omega) _).setCell (by show w.heap.size ≤ w.heap.size + 1; omega) _).setCell (by show w.heap.size ≤ w.heap.size + 1; omega) _⟩
  | true =>
    go_enter Try.func33, Try.ntmps33
    go_wp2_with fail
    refine (UN.out _ (B0.out _ _)).mono ?_
    rintro e w1 ⟨rfl, hb⟩
    have K0 : Hid (Blk3 w1 w.heap.size 27 (.int .i64 r) (.int .i64 c) (.slice a l m)) := ((Blk3.at_ _ _ _ _ rfl).old _).keep hb (by simp <;> omega)
    have K1 : Hid (Blk3 w1 (w.heap.size + 1) 27 (.int .i64 0) (.int .i64 0) (.slice none 0 0)) := (Blk3.at_ _ _ _ _ (by simp)).keep hb (by simp)
    have B : Hid (Below w.heap.size w w1) := (B0.out _ _).trans (hb.mono (by simp <;> omega))
    clear hb
    obtain ⟨p0, p1, p2, -, -, -⟩ := K0.out.all
    go_wp2_with fail
    refine (AJ.out _ B.out).mono ?_
    rintro e w3 ⟨v, rfl, own, hb⟩
    obtain ⟨q, qc, rfl, -, -⟩ := own.form
    have K0 := Lib.hid (K0.out.step hb)
    have K1 := Lib.hid (K1.out.step hb)
    have B := Lib.hid (stepB B.out hb)
    have RQ := Lib.hid own.rdq
    have SM := Lib.hid own.small
    clear hb own p0 p1 p2
    rcases Bool.eq_false_or_eq_true A.ok with hk | hk
    · have ZV : Hid (Z = scaleM A.r A.c A.zs d) := by show Z = _; rw [V.out, if_pos ⟨by decide, hk⟩]
      rw [hk]
      have K0 := Lib.hid (K0.out.old (.cells #[.int .i64 A.r, .int .i64 A.c, .slice q A.zs.length qc] 27))
      have l1 := K1.out.lt
      have K1 := Lib.hid (K1.out.old (.cells #[.int .i64 A.r, .int .i64 A.c, .slice q A.zs.length qc] 27))
      have K4 : Hid (Blk3 (w3.alloc (.cells #[.int .i64 A.r, .int .i64 A.c, .slice q A.zs.length qc] 27)) w3.heap.size 27 (.int .i64 A.r) (.int .i64 A.c) (.slice q A.zs.length qc)) := Blk3.at_ _ _ _ _ rfl
      have RQ := Lib.hid (RQ.out.below ((Below.refl _ _).alloc (Nat.le_refl _) (.cells #[.int .i64 A.r, .int .i64 A.c, .slice q A.zs.length qc] 27)))
      have B := Lib.hid (B.out.alloc B.out.size (.cells #[.int .i64 A.r, .int .i64 A.c, .slice q A.zs.length qc] 27))
      clear hk
      go_upto_region 4 with fail
      generalize w3.alloc (.cells #[.int .i64 A.r, .int .i64 A.c, .slice q A.zs.length qc] 27) = W at K0 K1 K4 RQ B ⊢
      obtain ⟨ob, hob⟩ : ∃ ob, w3.heap.size = ob := ⟨_, rfl⟩
      rw [hob] at K4 l1 ⊢
      clear hob
      obtain ⟨p0, p1, p2, -, -, -⟩ := K0.out.all
      go_wp2_with fail
      refine (DT.out _ B.out).mono ?_
      rintro e w5 ⟨rfl, hb⟩
      have K1 := Lib.hid (K1.out.step hb)
      have K4 := Lib.hid (K4.out.step hb)
      have RQ := Lib.hid (RQ.out.below hb)
      have B := Lib.hid (stepB B.out hb)
      clear hb p0 p1 p2
      obtain ⟨p0, p1, p2, -, -, -⟩ := K4.out.all
      go_wp2_with fail
      refine (iScale A.r A.c q qc A.zs d _ RQ.out SM.out).mono ?_
      rintro e w6 ⟨v, rfl, own, hb⟩
      rw [← ZV.out] at own ⊢
      obtain ⟨q, qc, rfl, -, -⟩ := own.form
      have l5 := K1.out.lt
      have K1 := Lib.hid (K1.out.step hb)
      have B := Lib.hid (stepB B.out hb)
      have O := Lib.hid own
      clear hb own p0 p1 p2
      have l6 := K1.out.lt
      obtain ⟨p0, p1, p2, f0, f1, f2⟩ := K1.out.all
      go_wp2_with fail
      obtain ⟨E0, E1, E2, -, -, -⟩ := (K1.out.set3 (.int .i64 Z.r) (.int .i64 Z.c) (.slice q Z.zs.length qc)).all
      refine bodyPost_ret (v := .tuple #[.agg #[.int .i64 Z.r, .int .i64 Z.c, .slice q Z.zs.length qc], .bool Z.ok]) (by simp [results, Try.results33, go_sem, E0, E1, E2]) rfl ⟨_, rfl, ?_, ?_⟩
      · exact (((O.out.far (by show w.heap.size + 1 < _; omega) _).far (by show w.heap.size + 1 < _; omega) _).far (by show w.heap.size + 1 < _; omega) _).le (by omega)
      · exact ((B.out.setCell (by show w.heap.size ≤ w.heap.size + 1; omega) _).setCell (by show w.heap.size ≤ w.heap.size + 1; omega) _).setCell (by show w.heap.size ≤ w.heap.size + 1; omega) _
    · have ZV : Hid (Z = MR.no) := by show Z = _; rw [V.out, if_neg (fun h => absurd h.2 (by rw [hk]; decide))]
      rw [hk]
      clear hk
      have l1 := K1.out.lt
      obtain ⟨p0, p1, p2, f0, f1, f2⟩ := K1.out.all
      go_wp2_with fail
      obtain ⟨E0, E1, E2, -, -, -⟩ := ((K1.out.set3 (.int .i64 0) (.int .i64 0) (.slice none 0 0)).old (.cells #[.int .i64 A.r, .int .i64 A.c, .slice q A.zs.length qc] 27)).all
      rw [ZV.out]
      exact bodyPost_ret (v := .tuple #[.agg #[.int .i64 0, .int .i64 0, .slice none 0 0], .bool false]) (by simp [results, Try.results33, go_sem, E0, E1, E2]) rfl ⟨_, rfl, .inl ⟨rfl, rfl⟩, (((B.out.setCell (by show w.heap.size ≤ w.heap.size + 1; omega) _).setCell (by show w.heap.size ≤ w.heap.size + 1; omega) _).setCell (by show w.heap.size ≤ w.heap.size + 1; omega) _).alloc (by have := B.out.size; simpa using this) _⟩
end Go.Proofs.Ytdnajkoeojlnbaa
end
