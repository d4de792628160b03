/-
  Texts of this seat, joined: MatS4 · ScaleS · DetV
-/
import Derived.StillTailTactics
import Derived.Test.YtdnajkoeojlnbaaPk2
import Derived.Test.YtdnajkoeojlnbaaPk3
import Derived.Test.YtdnajkoeojlnbaaPk4

section
/-
  Chapter 3, in the model: ScaleMatrix.
-/
namespace Go.Proofs.Ytdnajkoeojlnbaa
open Go.RowKit

set_option maxRecDepth 100000 in
set_option maxHeartbeats 1000000 in
theorem sScale_t (R C : Nat) (a : Option Addr) (m : Nat) (xs : List Int) (q : Int) (w : World) (h : Rd w a xs) (hR : R ≤ 24) (hC : C ≤ 24) (hx : xs.length = R * C)
    (hm : isMat R C xs = true) (hq : -400000000 ≤ q ∧ q ≤ 400000000) :
    Calls Try.prog 83 #[.agg #[.int .i64 R, .int .i64 C, .slice a xs.length m], .int .i64 q] w (MatRes (MR.done R C (scaleL xs q)) w) := by
  have hle : R * C ≤ 24 * 24 := Nat.mul_le_mul hR hC
  have B0 : ∀ o1 o2, Below w.heap.size w ((w.alloc o1).alloc o2) := fun o1 o2 => ((Below.refl _ _).alloc (Nat.le_refl _) _).alloc (by simp) _
  have BH := Lib.hid B0
  have H := Lib.hid h
  have M := Lib.hid hm
  obtain ⟨N, hN⟩ : ∃ N, R * C = N := ⟨_, rfl⟩
  rw [hN] at hx hle
  have HX := Lib.hid hx
  have HN := Lib.hid hN
  rw [hx]
  obtain ⟨q1, q2⟩ := hq
  have n1 := (isMat_says hm).2.2.2
  have NX := Lib.hid n1
  clear B0 h hm hx hN n1
  go_enter Try.func83, Try.ntmps83
  go_wp2_with fail
  have ST := sIsMat R C a m xs _ (H.out.below (BH.out (.cells #[.int .i64 R, .int .i64 C, .slice a N m] 27) (.cells #[.int .i64 0, .int .i64 0, .slice none 0 0] 27))) (by rw [HX.out]; omega)
  rw [HX.out] at ST
  refine ST.mono ?_
  clear ST
  rintro e w1 ⟨rfl, hb⟩
  have K0 : Hid (Blk3 w1 w.heap.size 27 (.int .i64 R) (.int .i64 C) (.slice a N m)) := ((Blk3.at_ _ _ _ _ rfl).old _).keep hb (by simp <;> omega)
  have K2 : Hid (Blk3 w1 (w.heap.size + 1) 27 (.int .i64 0) (.int .i64 0) (.slice none 0 0)) := (Blk3.at_ _ _ _ _ (by simp)).keep hb (by simp)
  have B : Hid (Below w.heap.size w w1) := (BH.out _ _).trans (hb.mono (by simp <;> omega))
  clear hb
  obtain ⟨c0, c1, c2, -, -, -⟩ := K0.out.all
  rw [M.out]
  go_wp2_with fail
  refine (sIsNum_t q _ q1 q2).mono ?_
  rintro e w2 ⟨rfl, rfl⟩
  go_wp2_with fail
  refine (sNew R C _ (by omega) (by omega)).mono ?_
  rintro e w3 ⟨g, rfl, hg, hi, hb⟩
  have l0 := Nat.lt_of_lt_of_le K0.out.lt hg
  have l2 := Nat.lt_of_lt_of_le K2.out.lt hg
  clear hg
  rw [HN.out] at hi ⊢
  have K0 := Lib.hid (K0.out.keep hb K0.out.lt)
  have K2 := Lib.hid (K2.out.keep hb K2.out.lt)
  have B := Lib.hid (B.out.trans (hb.mono B.out.size))
  have I := Lib.hid hi
  have gl := hi.lt
  clear hb hi
  simp only [List.length_replicate]
  have BA : Hid (Below w.heap.size w (w3.alloc (.cells #[.int .i64 R, .int .i64 C, .slice (some ⟨g, 0, none⟩) N N] 27))) := B.out.alloc B.out.size _
  have K0 := Lib.hid (K0.out.old (.cells #[.int .i64 R, .int .i64 C, .slice (some ⟨g, 0, none⟩) N N] 27))
  have K2 := Lib.hid (K2.out.old (.cells #[.int .i64 R, .int .i64 C, .slice (some ⟨g, 0, none⟩) N N] 27))
  have K6 : Hid (Blk3 (w3.alloc (.cells #[.int .i64 R, .int .i64 C, .slice (some ⟨g, 0, none⟩) N N] 27)) w3.heap.size 27 (.int .i64 R) (.int .i64 C) (.slice (some ⟨g, 0, none⟩) N N)) := Blk3.at_ _ _ _ _ rfl
  have I := Lib.hid (I.out.old (.cells #[.int .i64 R, .int .i64 C, .slice (some ⟨g, 0, none⟩) N N] 27))
  go_wp2_with fail
  go_loopw [7] (fun i wr => ∃ k : Nat, i = .int .i64 k ∧ k ≤ N ∧ Ints wr g (upto N k fun i => xs.getD i 0 * q) ∧ (w3.alloc (.cells #[.int .i64 R, .int .i64 C, .slice (some ⟨g, 0, none⟩) N N] 27)).grownBy wr (some g)) (fun i _ => N - (intOf i).toNat)
  case atStart => exact ⟨0, rfl, by omega, by rw [upto_zero]; exact I.out, World.grownBy.refl _ _⟩
  case round =>
    obtain ⟨k, rfl, hk, hi, hgr⟩ := hrel
    have I := Lib.hid hi
    have G := Lib.hid hgr
    clear hi hgr
    have R0 := Lib.hid (K0.out.keepOne G.out (by omega))
    have R2 := Lib.hid (K2.out.keepOne G.out (by omega))
    have R6 := Lib.hid (K6.out.keepOne G.out (by omega))
    obtain ⟨p0, p1, p2, -, -, -⟩ := R0.out.all
    obtain ⟨r0, r1, r2, -, -, -⟩ := R6.out.all
    by_cases hlt : k < N
    · obtain ⟨x, hx⟩ : ∃ x, xs.getD k 0 = x := ⟨_, rfl⟩
      obtain ⟨b1, o1, rfl, hc1⟩ := H.out k (by rw [HX.out]; exact hlt)
      have u1 := World.block_lt_of_cell? w _ hc1
      have hc1 := G.out.cell ((BA.out.cell (p := ⟨b1, o1 + k, none⟩) u1).trans hc1) (by simp; simp at u1; omega)
      have v1 := nums_at NX.out (j := k) (by rw [HX.out]; exact hlt)
      rw [hx] at hc1 v1
      obtain ⟨v11, v12⟩ := v1
      obtain ⟨w1', w2'⟩ := mul_num x q ⟨v11, v12⟩ ⟨q1, q2⟩
      have hold := I.out.cell (i := k) (by rw [upto_length]; exact hlt)
      rw [upto_at] at hold
      have hfr := I.out.free k
      have XX := Lib.hid hx
      clear hx u1
      go_wp2_with fail
      go_still_tail 11, (by kernel_rfl)
      go_wp2_with fail
      go_roundw
      case rel =>
        refine ⟨k + 1, by go_num, by omega, ?_, ?_⟩
        · rw [← upto_step]
          rw [XX.out]
          first | exact I.out.set k _ | exact I.out.drew.set k _
        · exact grown_drew_one (grown_set_one G.out rfl _)
      case measure => simp [intOf]; omega
    · have hkn : k = N := by omega
      subst hkn
      have e : upto k k (fun i => xs.getD i 0 * q) = scaleL xs q := by rw [upto_all]; unfold scaleL; rw [HX.out]
      have I2 : Hid (Ints wr g (scaleL xs q)) := by have := I.out; rw [e] at this; exact this
      have hl : (scaleL xs q).length = k := by unfold scaleL; simp [HX.out]
      have HL := Lib.hid hl
      have B := Lib.hid (BA.out.trans (below_of_one G.out (by omega) BA.out.size))
      clear e hl
      go_wp2_with fail
      have ST := sDone R C (some ⟨g, 0, none⟩) k (scaleL xs q) wr I2.out.rd (by rw [HL.out]; omega)
      rw [HL.out] at ST
      refine ST.mono ?_
      clear ST
      rintro e w4 ⟨rfl, hb⟩
      have R2 := Lib.hid (R2.out.keep hb R2.out.lt)
      have I2 := Lib.hid (I2.out.keep hb I2.out.lt)
      have B := Lib.hid (B.out.trans (hb.mono B.out.size))
      clear hb
      obtain ⟨s0, s1, s2, t0, t1, t2⟩ := R2.out.all
      have z2 := R2.out.lt
      have be : ∀ x y z o, Below w.heap.size w ((((w4.setCell ⟨w.heap.size + 1, 0, none⟩ x).setCell ⟨w.heap.size + 1, 1, none⟩ y).setCell ⟨w.heap.size + 1, 2, none⟩ z).alloc o) := fun x y z o =>
        (((B.out.setCell (by show w.heap.size ≤ w.heap.size + 1; omega) _).setCell (by show w.heap.size ≤ w.heap.size + 1; omega) _).setCell (by show w.heap.size ≤ w.heap.size + 1; omega) _).alloc (by have := B.out.size; simpa using this) _
      have BE := Lib.hid be
      clear be
      rcases Bool.eq_false_or_eq_true (isMat R C (scaleL xs q)) with hd | hd
      · have E : Hid (MR.done R C (scaleL xs q) = ⟨true, R, C, scaleL xs q⟩) := by show MR.done R C (scaleL xs q) = _; unfold MR.done; rw [hd]; rfl
        rw [hd]
        clear hd
        unfold DoneRes
        go_wp2_with fail
        obtain ⟨E0, E1, E2, -, -, -⟩ := ((((R2.out.set0 (.int .i64 R)).set1 (.int .i64 C)).set2 (.slice (some ⟨g, 0, none⟩) k k)).old (.cells #[.int .i64 R, .int .i64 C, .slice (some ⟨g, 0, none⟩) k k] 27)).all
        rw [E.out]
        refine bodyPost_ret (v := .tuple #[.agg #[.int .i64 R, .int .i64 C, .slice (some ⟨g, 0, none⟩) k k], .bool true]) (by simp [results, Try.results83, go_sem, E0, E1, E2]) rfl ⟨_, rfl, ?_, ?_⟩
        · refine .inr ⟨g, k, by rw [HL.out], by omega, ?_, by simp [HL.out], by simp [HL.out]; omega⟩
          exact (((I2.out.far (by show g ≠ w.heap.size + 1; omega) _).far (by show g ≠ w.heap.size + 1; omega) _).far (by show g ≠ w.heap.size + 1; omega) _).old _
        · exact BE.out _ _ _ _
      · have E : Hid (MR.done R C (scaleL xs q) = MR.no) := by show MR.done R C (scaleL xs q) = _; unfold MR.done; rw [hd]; rfl
        rw [hd]
        clear hd
        unfold DoneRes
        go_wp2_with fail
        obtain ⟨E0, E1, E2, -, -, -⟩ := ((((R2.out.set0 (.int .i64 0)).set1 (.int .i64 0)).set2 (.slice none 0 0)).old (.cells #[.int .i64 0, .int .i64 0, .slice none 0 0] 27)).all
        rw [E.out]
        exact bodyPost_ret (v := .tuple #[.agg #[.int .i64 0, .int .i64 0, .slice none 0 0], .bool false]) (by simp [results, Try.results83, go_sem, E0, E1, E2]) rfl ⟨_, rfl, .inl ⟨rfl, rfl⟩, BE.out _ _ _ _⟩
end Go.Proofs.Ytdnajkoeojlnbaa
end

section
/-
  Chapter 3, in the model: ScaleMatrix.
-/
namespace Go.Proofs.Ytdnajkoeojlnbaa
open Go.RowKit

theorem sScale (r c : Int) (a : Option Addr) (m : Nat) (xs : List Int) (q : Int) (w : World) (h : Rd w a xs) (hn : xs.length ≤ 16777216) :
    Calls Try.prog 83 #[.agg #[.int .i64 r, .int .i64 c, .slice a xs.length m], .int .i64 q] w (MatRes (scaleM r c xs q) w) := by
  rcases Bool.eq_false_or_eq_true (isMat r c xs) with hm | hm
  · by_cases hq : -400000000 ≤ q ∧ q ≤ 400000000
    · obtain ⟨⟨r1, r2⟩, ⟨c1, c2⟩, l1, -⟩ := isMat_says hm
      obtain ⟨R, rfl⟩ := Int.eq_ofNat_of_zero_le r1
      obtain ⟨C, rfl⟩ := Int.eq_ofNat_of_zero_le c1
      rw [← Int.natCast_mul] at l1
      have E : scaleM R C xs q = MR.done R C (scaleL xs q) := by unfold scaleM; rw [hm, show decide (NumP q) = true from decide_eq_true hq]; simp
      rw [E]
      exact sScale_t R C a m xs q w h (by omega) (by omega) (by omega) hm hq
    · have E : Hid (scaleM r c xs q = MR.no) := by show scaleM r c xs q = _; unfold scaleM; rw [hm, show decide (NumP q) = false from decide_eq_false hq]; simp
      have M := Lib.hid hm
      have hq' : q < -400000000 ∨ 400000000 < q := by omega
      clear hm hq
      have B0 : ∀ o1 o2, Below w.heap.size w ((w.alloc o1).alloc o2) := fun o1 o2 => ((Below.refl _ _).alloc (Nat.le_refl _) _).alloc (by simp) _
      have BH := Lib.hid B0
      have H := Lib.hid h
      clear B0 h
      go_enter Try.func83, Try.ntmps83
      go_wp2_with fail
      refine (sIsMat r c a m xs _ (H.out.below (BH.out (.cells #[.int .i64 r, .int .i64 c, .slice a xs.length m] 27) (.cells #[.int .i64 0, .int .i64 0, .slice none 0 0] 27))) hn).mono ?_
      rintro e w1 ⟨rfl, hb⟩
      have K0 : Hid (Blk3 w1 w.heap.size 27 (.int .i64 r) (.int .i64 c) (.slice a xs.length m)) := ((Blk3.at_ _ _ _ _ rfl).old _).keep hb (by simp <;> omega)
      have K2 : Hid (Blk3 w1 (w.heap.size + 1) 27 (.int .i64 0) (.int .i64 0) (.slice none 0 0)) := (Blk3.at_ _ _ _ _ (by simp)).keep hb (by simp)
      have B : Hid (Below w.heap.size w w1) := (BH.out _ _).trans (hb.mono (by simp <;> omega))
      clear hb
      obtain ⟨ca0, ca1, ca2, -, -, -⟩ := K0.out.all
      obtain ⟨cc0, cc1, cc2, ff0, ff1, ff2⟩ := K2.out.all
      rw [M.out]
      go_wp2_with fail
      refine (sIsNum_f q _ hq').mono ?_
      rintro e w2 ⟨rfl, rfl⟩
      go_wp2_with fail
      obtain ⟨E0, E1, E2, -, -, -⟩ := (((K2.out.set0 (.int .i64 0)).set1 (.int .i64 0)).set2 (.slice none 0 0)).all
      rw [E.out]
      exact bodyPost_ret (v := .tuple #[.agg #[.int .i64 0, .int .i64 0, .slice none 0 0], .bool false]) (by simp [results, Try.results83, go_sem, E0, E1, E2]) rfl ⟨_, rfl, .inl ⟨rfl, rfl⟩, ((B.out.setCell (Nat.le_succ _) _).setCell (Nat.le_succ _) _).setCell (Nat.le_succ _) _⟩
  · have E : Hid (scaleM r c xs q = MR.no) := by show scaleM r c xs q = _; unfold scaleM; rw [hm]; simp
    have M := Lib.hid hm
    clear hm
    have B0 : ∀ o1 o2, Below w.heap.size w ((w.alloc o1).alloc o2) := fun o1 o2 => ((Below.refl _ _).alloc (Nat.le_refl _) _).alloc (by simp) _
    have BH := Lib.hid B0
    have H := Lib.hid h
    clear B0 h
    go_enter Try.func83, Try.ntmps83
    go_wp2_with fail
    refine (sIsMat r c a m xs _ (H.out.below (BH.out (.cells #[.int .i64 r, .int .i64 c, .slice a xs.length m] 27) (.cells #[.int .i64 0, .int .i64 0, .slice none 0 0] 27))) hn).mono ?_
    rintro e w1 ⟨rfl, hb⟩
    have K0 : Hid (Blk3 w1 w.heap.size 27 (.int .i64 r) (.int .i64 c) (.slice a xs.length m)) := ((Blk3.at_ _ _ _ _ rfl).old _).keep hb (by simp <;> omega)
    have K2 : Hid (Blk3 w1 (w.heap.size + 1) 27 (.int .i64 0) (.int .i64 0) (.slice none 0 0)) := (Blk3.at_ _ _ _ _ (by simp)).keep hb (by simp)
    have B : Hid (Below w.heap.size w w1) := (BH.out _ _).trans (hb.mono (by simp <;> omega))
    clear hb
    obtain ⟨ca0, ca1, ca2, -, -, -⟩ := K0.out.all
    obtain ⟨cc0, cc1, cc2, ff0, ff1, ff2⟩ := K2.out.all
    rw [M.out]
    go_wp2_with fail
    obtain ⟨E0, E1, E2, -, -, -⟩ := (((K2.out.set0 (.int .i64 0)).set1 (.int .i64 0)).set2 (.slice none 0 0)).all
    rw [E.out]
    exact bodyPost_ret (v := .tuple #[.agg #[.int .i64 0, .int .i64 0, .slice none 0 0], .bool false]) (by simp [results, Try.results83, go_sem, E0, E1, E2]) rfl ⟨_, rfl, .inl ⟨rfl, rfl⟩, ((B.out.setCell (Nat.le_succ _) _).setCell (Nat.le_succ _) _).setCell (Nat.le_succ _) _⟩
end Go.Proofs.Ytdnajkoeojlnbaa
end

section
/-
  Chapter 6, in the model: InverseOf.
-/
namespace Go.Proofs.Ytdnajkoeojlnbaa
set_option maxRecDepth 100000
open Go.RowKit

def invM (r c : Int) (xs : List Int) : MR := if uniB r c xs = true ∧ (adjM r c xs).ok = true then scaleM (adjM r c xs).r (adjM r c xs).c (adjM r c xs).zs (detOf r c xs).1 else MR.no
set_option maxRecDepth 100000 in
set_option maxHeartbeats 2000000 in
theorem sInv (r c : Int) (a : Option Addr) (m : Nat) (xs : List Int) (w : World) (h : Rd w a xs) (hn : xs.length ≤ 16777216) :
    Calls Try.prog 32 #[.agg #[.int .i64 r, .int .i64 c, .slice a xs.length m]] w (MatRes (invM r c xs) w) := by
  have H := Lib.hid h
  have HN := Lib.hid hn
  have B0 : Hid (∀ o1 o2, Below w.heap.size w ((w.alloc o1).alloc o2)) := fun o1 o2 => ((Below.refl _ _).alloc (Nat.le_refl _) _).alloc (by simp) _
  have UN : Hid (∀ w', Below w.heap.size w w' → Calls Try.prog 30 #[.agg #[.int .i64 r, .int .i64 c, .slice a xs.length m]] w' (Gives (.bool (uniB r c xs)) w')) := fun w' hb => sUni r c a m xs w' (H.out.below hb) HN.out
  have AJ : Hid (∀ w', Below w.heap.size w w' → Calls Try.prog 28 #[.agg #[.int .i64 r, .int .i64 c, .slice a xs.length m]] w' (MatRes (adjM r c xs) w')) := fun w' hb => sAdj r c a m xs w' (H.out.below hb) HN.out
  have DT : Hid (∀ w', Below w.heap.size w w' → Calls Try.prog 24 #[.agg #[.int .i64 r, .int .i64 c, .slice a xs.length m]] w' (Gives (.tuple #[.int .i64 (detOf r c xs).1, .bool (detOf r c xs).2]) w')) := fun w' hb => sDetOf r c a m xs w' (H.out.below hb) HN.out
  have V : Hid (invM r c xs = if uniB r c xs = true ∧ (adjM r c xs).ok = true then scaleM (adjM r c xs).r (adjM r c xs).c (adjM r c xs).zs (detOf r c xs).1 else MR.no) := rfl
  generalize invM r c xs = Z at V ⊢
  generalize adjM r c xs = A at V AJ
  generalize (detOf r c xs).1 = d at V DT
  generalize (detOf r c xs).2 = db at DT
  generalize uniB r c xs = ub at V UN
  generalize xs.length = l at UN AJ DT ⊢
  clear h hn
  cases ub with
  | false =>
    have Z0 : Hid (Z = MR.no) := by show Z = _; rw [V.out, if_neg (fun h => absurd h.1 (by decide))]
    go_enter Try.func32, Try.ntmps32
    go_wp2_with fail
    refine (UN.out _ (B0.out _ _)).mono ?_
    rintro e w1 ⟨rfl, hb⟩
    have K1 : Hid (Blk3 w1 (w.heap.size + 1) 27 (.int .i64 0) (.int .i64 0) (.slice none 0 0)) := (Blk3.at_ _ _ _ _ (by simp)).keep hb (by simp)
    have B : Hid (Below w.heap.size w w1) := (B0.out _ _).trans (hb.mono (by simp <;> omega))
    clear hb
    obtain ⟨p0, p1, p2, f0, f1, f2⟩ := K1.out.all
    go_wp2_with fail
    obtain ⟨E0, E1, E2, -, -, -⟩ := (K1.out.set3 (.int .i64 0) (.int .i64 0) (.slice none 0 0)).all
    rw [Z0.out]
    exact bodyPost_ret (v := .tuple #[.agg #[.int .i64 0, .int .i64 0, .slice none 0 0], .bool false]) (by simp [results, Try.results32, go_sem, E0, E1, E2]) rfl ⟨_, rfl, .inl ⟨rfl, rfl⟩, ((B.out.setCell (by show w.heap.size ≤ w.heap.size + 1; omega) _).setCell (by show w.heap.size ≤ w.heap.size + 1; omega) _).setCell (by show w.heap.size ≤ w.heap.size + 1; omega) _⟩
  | true =>
    go_enter Try.func32, Try.ntmps32
    go_wp2_with fail
    refine (UN.out _ (B0.out _ _)).mono ?_
    rintro e w1 ⟨rfl, hb⟩
    have K0 : Hid (Blk3 w1 w.heap.size 27 (.int .i64 r) (.int .i64 c) (.slice a l m)) := ((Blk3.at_ _ _ _ _ rfl).old _).keep hb (by simp <;> omega)
    have K1 : Hid (Blk3 w1 (w.heap.size + 1) 27 (.int .i64 0) (.int .i64 0) (.slice none 0 0)) := (Blk3.at_ _ _ _ _ (by simp)).keep hb (by simp)
    have B : Hid (Below w.heap.size w w1) := (B0.out _ _).trans (hb.mono (by simp <;> omega))
    clear hb
    obtain ⟨p0, p1, p2, -, -, -⟩ := K0.out.all
    go_wp2_with fail
    refine (AJ.out _ B.out).mono ?_
    rintro e w3 ⟨v, rfl, own, hb⟩
    obtain ⟨q, qc, rfl, -, -⟩ := own.form
    have K0 := Lib.hid (K0.out.step hb)
    have K1 := Lib.hid (K1.out.step hb)
    have B := Lib.hid (stepB B.out hb)
    have RQ := Lib.hid own.rdq
    have SM := Lib.hid own.small
    clear hb own p0 p1 p2
    rcases Bool.eq_false_or_eq_true A.ok with hk | hk
    · have ZV : Hid (Z = scaleM A.r A.c A.zs d) := by show Z = _; rw [V.out, if_pos ⟨by decide, hk⟩]
      rw [hk]
      have K0 := Lib.hid (K0.out.old (.cells #[.int .i64 A.r, .int .i64 A.c, .slice q A.zs.length qc] 27))
      have l1 := K1.out.lt
      have K1 := Lib.hid (K1.out.old (.cells #[.int .i64 A.r, .int .i64 A.c, .slice q A.zs.length qc] 27))
      have K4 : Hid (Blk3 (w3.alloc (.cells #[.int .i64 A.r, .int .i64 A.c, .slice q A.zs.length qc] 27)) w3.heap.size 27 (.int .i64 A.r) (.int .i64 A.c) (.slice q A.zs.length qc)) := Blk3.at_ _ _ _ _ rfl
      have RQ := Lib.hid (RQ.out.below ((Below.refl _ _).alloc (Nat.le_refl _) (.cells #[.int .i64 A.r, .int .i64 A.c, .slice q A.zs.length qc] 27)))
      have B := Lib.hid (B.out.alloc B.out.size (.cells #[.int .i64 A.r, .int .i64 A.c, .slice q A.zs.length qc] 27))
      clear hk
      go_upto_region 4 with fail
      generalize w3.alloc (.cells #[.int .i64 A.r, .int .i64 A.c, .slice q A.zs.length qc] 27) = W at K0 K1 K4 RQ B ⊢
      obtain ⟨ob, hob⟩ : ∃ ob, w3.heap.size = ob := ⟨_, rfl⟩
      rw [hob] at K4 l1 ⊢
      clear hob
      obtain ⟨p0, p1, p2, -, -, -⟩ := K0.out.all
      go_wp2_with fail
      refine (DT.out _ B.out).mono ?_
      rintro e w5 ⟨rfl, hb⟩
      have K1 := Lib.hid (K1.out.step hb)
      have K4 := Lib.hid (K4.out.step hb)
      have RQ := Lib.hid (RQ.out.below hb)
      have B := Lib.hid (stepB B.out hb)
      clear hb p0 p1 p2
      obtain ⟨p0, p1, p2, -, -, -⟩ := K4.out.all
      go_wp2_with fail
      refine (sScale A.r A.c q qc A.zs d _ RQ.out SM.out).mono ?_
      rintro e w6 ⟨v, rfl, own, hb⟩
      rw [← ZV.out] at own ⊢
      obtain ⟨q, qc, rfl, -, -⟩ := own.form
      have l5 := K1.out.lt
      have K1 := Lib.hid (K1.out.step hb)
      have B := Lib.hid (stepB B.out hb)
      have O := Lib.hid own
      clear hb own p0 p1 p2
      have l6 := K1.out.lt
      have K8 : Hid (Blk3 (w6.alloc (.cells #[.int .i64 Z.r, .int .i64 Z.c, .slice q Z.zs.length qc] 27)) w6.heap.size 27 (.int .i64 Z.r) (.int .i64 Z.c) (.slice q Z.zs.length qc)) := Blk3.at_ _ _ _ _ rfl
      obtain ⟨c0, c1, c2, -, -, -⟩ := K8.out.all
      obtain ⟨p0, p1, p2, f0, f1, f2⟩ := K1.out.all
      go_wp2_with fail
      obtain ⟨E0, E1, E2, -, -, -⟩ := ((K1.out.set3 (.int .i64 Z.r) (.int .i64 Z.c) (.slice q Z.zs.length qc)).old (.cells #[.int .i64 Z.r, .int .i64 Z.c, .slice q Z.zs.length qc] 27)).all
      refine bodyPost_ret (v := .tuple #[.agg #[.int .i64 Z.r, .int .i64 Z.c, .slice q Z.zs.length qc], .bool Z.ok]) (by simp [results, Try.results32, go_sem, E0, E1, E2]) rfl ⟨_, rfl, ?_, ?_⟩
      · exact ((((O.out.far (by show w.heap.size + 1 < _; omega) _).far (by show w.heap.size + 1 < _; omega) _).far (by show w.heap.size + 1 < _; omega) _).keep ((Below.refl _ _).alloc (Nat.le_refl _) _)).le (by omega)
      · exact (((B.out.setCell (by show w.heap.size ≤ w.heap.size + 1; omega) _).setCell (by show w.heap.size ≤ w.heap.size + 1; omega) _).setCell (by show w.heap.size ≤ w.heap.size + 1; omega) _).alloc (by have := B.out.size; simpa using this) _
    · have ZV : Hid (Z = MR.no) := by show Z = _; rw [V.out, if_neg (fun h => absurd h.2 (by rw [hk]; decide))]
      rw [hk]
      clear hk
      have l1 := K1.out.lt
      obtain ⟨p0, p1, p2, f0, f1, f2⟩ := K1.out.all
      go_wp2_with fail
      obtain ⟨E0, E1, E2, -, -, -⟩ := ((K1.out.set3 (.int .i64 0) (.int .i64 0) (.slice none 0 0)).old (.cells #[.int .i64 A.r, .int .i64 A.c, .slice q A.zs.length qc] 27)).all
      rw [ZV.out]
      exact bodyPost_ret (v := .tuple #[.agg #[.int .i64 0, .int .i64 0, .slice none 0 0], .bool false]) (by simp [results, Try.results32, go_sem, E0, E1, E2]) rfl ⟨_, rfl, .inl ⟨rfl, rfl⟩, (((B.out.setCell (by show w.heap.size ≤ w.heap.size + 1; omega) _).setCell (by show w.heap.size ≤ w.heap.size + 1; omega) _).setCell (by show w.heap.size ≤ w.heap.size + 1; omega) _).alloc (by have := B.out.size; simpa using this) _⟩
end Go.Proofs.Ytdnajkoeojlnbaa
end
