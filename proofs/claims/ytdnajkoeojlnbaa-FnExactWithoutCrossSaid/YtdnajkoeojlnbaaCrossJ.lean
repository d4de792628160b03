/-
  Chapter 6, in the program: WithoutCross.
-/
import Derived.Test.YtdnajkoeojlnbaaCrossI
namespace Go.Proofs.Ytdnajkoeojlnbaa
set_option maxRecDepth 100000
open Go.RowKit

theorem cell_one (w : World) (v : Value) (t : TypeId) (pb : Nat) (h : pb = w.heap.size) : (w.alloc (.cells #[v] t)).cell? ⟨pb, 0, none⟩ = some v := by
  subst h
  have e : (w.alloc (.cells #[v] t)).heap[w.heap.size]? = some (.cells #[v] t (0, 0)) := by show (w.heap.push _)[w.heap.size]? = _; rw [Array.getElem?_push, if_pos rfl]
  generalize w.alloc (.cells #[v] t) = w' at e
  simp [World.cell?, e]
theorem hasB_true {r c i j : Int} {xs : List Int} (h : hasB r c xs i j = true) : isMat r c xs = true ∧ (0 ≤ i ∧ i < r) ∧ (0 ≤ j ∧ j < c) := by
  unfold hasB at h
  simp only [Bool.and_eq_true, decide_eq_true_eq] at h
  exact h
theorem hasB_false {r c i j : Int} {xs : List Int} (h : hasB r c xs i j = false) : crossM r c i j xs = MR.no := by
  unfold crossM
  refine if_neg fun h1 => ?_
  obtain ⟨h1, h2, h3⟩ := h1
  unfold hasB at h
  rw [h1, decide_eq_true (show (0 ≤ i ∧ i < r) ∧ (0 ≤ j ∧ j < c) from ⟨by omega, by omega⟩)] at h
  cases h
set_option maxHeartbeats 1000000 in
theorem iCross (r c row col : Int) (a : Option Addr) (m : Nat) (xs : List Int) (w : World) (h : Rd w a xs) (hn : xs.length ≤ 16777216) :
    Calls Try.prog 21 #[.agg #[.int .i64 r, .int .i64 c, .slice a xs.length m], .int .i64 row, .int .i64 col] w (MatRes (crossM r c row col xs) w) := by
  have H := Lib.hid h
  obtain ⟨l, hx⟩ : ∃ n, xs.length = n := ⟨_, rfl⟩
  have HX := Lib.hid hx
  have HC : Hid (∀ w', Below w.heap.size w w' → Calls Try.prog 61 #[.agg #[.int .i64 r, .int .i64 c, .slice a l m], .int .i64 row, .int .i64 col] w' (Gives (.bool (hasB r c xs row col)) w')) := fun w' hb => by
    have := iHasCell r c row col a m xs w' (h.below hb) hn
    rw [hx] at this
    exact this
  rw [hx]
  clear h hn hx
  obtain ⟨W, hW⟩ : ∃ W, (((w.alloc (.cells #[.int .i64 r, .int .i64 c, .slice a l m] 27)).alloc (.cells #[.int .i64 row] 3)).alloc (.cells #[.int .i64 col] 3)).alloc (.cells #[.int .i64 0, .int .i64 0, .slice none 0 0] 27) = W := ⟨_, rfl⟩
  have BW : Hid (Below w.heap.size w W) := by
    show Below w.heap.size w W
    rw [← hW]
    exact ((((Below.refl _ _).alloc (Nat.le_refl _) _).alloc (by simp) _).alloc (by simp; omega) _).alloc (by simp; omega) _
  have K0 : Hid (Blk3 W w.heap.size 27 (.int .i64 r) (.int .i64 c) (.slice a l m)) := by
    show Blk3 W _ _ _ _ _
    rw [← hW]
    exact (((Blk3.at_ _ _ _ _ rfl).old _).old _).old _
  have K3 : Hid (Blk3 W (w.heap.size + 1 + 1 + 1) 27 (.int .i64 0) (.int .i64 0) (.slice none 0 0)) := by
    show Blk3 W _ _ _ _ _
    rw [← hW]
    exact Blk3.at_ _ _ _ _ (by simp)
  have C1 : Hid (W.cell? ⟨w.heap.size + 1, 0, none⟩ = some (.int .i64 row)) := by
    show W.cell? _ = _
    rw [← hW]
    have ce := cell_one (w.alloc (.cells #[.int .i64 r, .int .i64 c, .slice a l m] 27)) (.int .i64 row) 3 (w.heap.size + 1) (by simp)
    have b := (((Below.refl (w.heap.size + 2) ((w.alloc (.cells #[.int .i64 r, .int .i64 c, .slice a l m] 27)).alloc (.cells #[.int .i64 row] 3))).alloc (by simp) (.cells #[.int .i64 col] 3)).alloc (by simp) (.cells #[.int .i64 0, .int .i64 0, .slice none 0 0] 27))
    exact (b.cell (p := ⟨w.heap.size + 1, 0, none⟩) (by show w.heap.size + 1 < _; omega)).trans ce
  have C2 : Hid (W.cell? ⟨w.heap.size + 1 + 1, 0, none⟩ = some (.int .i64 col)) := by
    show W.cell? _ = _
    rw [← hW]
    have ce := cell_one ((w.alloc (.cells #[.int .i64 r, .int .i64 c, .slice a l m] 27)).alloc (.cells #[.int .i64 row] 3)) (.int .i64 col) 3 (w.heap.size + 1 + 1) (by simp)
    have b := ((Below.refl (w.heap.size + 3) (((w.alloc (.cells #[.int .i64 r, .int .i64 c, .slice a l m] 27)).alloc (.cells #[.int .i64 row] 3)).alloc (.cells #[.int .i64 col] 3))).alloc (by simp) (.cells #[.int .i64 0, .int .i64 0, .slice none 0 0] 27))
    exact (b.cell (p := ⟨w.heap.size + 1 + 1, 0, none⟩) (by show w.heap.size + 1 + 1 < _; omega)).trans ce
  obtain ⟨p0, p1, p2, -, -, -⟩ := K0.out.all
  have p3 := C1.out
  have p4 := C2.out
  go_enter Try.func21, Try.ntmps21
  go_upto_region 1 with fail
  clear hW
  go_wp2_with fail
  refine (HC.out _ BW.out).mono ?_
  rintro e w1 ⟨rfl, hb⟩
  have lk := K3.out.lt
  have K0 := Lib.hid (K0.out.keep hb K0.out.lt)
  have K3 := Lib.hid (K3.out.keep hb K3.out.lt)
  have C1 : Hid (w1.cell? ⟨w.heap.size + 1, 0, none⟩ = some (.int .i64 row)) := (hb.cell (p := ⟨w.heap.size + 1, 0, none⟩) (by show w.heap.size + 1 < _; omega)).trans C1.out
  have C2 : Hid (w1.cell? ⟨w.heap.size + 1 + 1, 0, none⟩ = some (.int .i64 col)) := (hb.cell (p := ⟨w.heap.size + 1 + 1, 0, none⟩) (by show w.heap.size + 1 + 1 < _; omega)).trans C2.out
  have B := Lib.hid (BW.out.trans (hb.mono BW.out.size))
  clear hb p0 p1 p2 p3 p4 lk
  obtain ⟨p0, p1, p2, -, -, -⟩ := K0.out.all
  obtain ⟨q0, q1, q2, f0, f1, f2⟩ := K3.out.all
  have lk := K3.out.lt
  rcases Bool.eq_false_or_eq_true (hasB r c xs row col) with hh | hh
  · obtain ⟨hm, ⟨r1, r2⟩, c1, c2⟩ := hasB_true hh
    rw [hh]
    obtain ⟨⟨hr1, hr2⟩, ⟨hc1, hc2⟩, hl, -⟩ := isMat_says hm
    obtain ⟨R, rfl⟩ := Int.eq_ofNat_of_zero_le hr1
    obtain ⟨C, rfl⟩ := Int.eq_ofNat_of_zero_le hc1
    rw [← Int.natCast_mul] at hl
    have hx : xs.length = R * C := by omega
    have E : Hid (crossM R C row col xs = ⟨true, (R : Int) - 1, (C : Int) - 1, woL C row col xs (R * C)⟩) := by show crossM _ _ _ _ _ = _; unfold crossM; rw [if_pos ⟨hm, ⟨r1, by omega⟩, c1, by omega⟩]; rfl
    have hln : l = R * C := by rw [← HX.out, hx]
    have v1 : IntKind.i64.wrap ((R : Int) - 1) = (R : Int) - 1 := IntWalk.i64_in _ (by omega)
    have v2 : IntKind.i64.wrap ((C : Int) - 1) = (C : Int) - 1 := IntWalk.i64_in _ (by omega)
    have hle : R * C ≤ 24 * 24 := Nat.mul_le_mul (by omega) (by omega)
    clear hh hm hl
    have FX := Lib.hid (iFoldX (w.heap.size + 1) (w.heap.size + 1 + 1) R C l w1.heap.size row col a m xs (.slice (some ⟨w1.heap.size, 0, none⟩) 0 0) (w1.alloc (.cells #[] 3)) HX.out (H.out.below (B.out.alloc B.out.size _)) hln (by omega) (by omega) (World.ownsRow_made w1 #[] 0 (Nat.le_refl _) (by unfold maxLen; omega) rfl) (by simp)
      ((((Below.refl w1.heap.size w1).alloc (Nat.le_refl _) (.cells #[] 3)).cell (p := ⟨w.heap.size + 1, 0, none⟩) (by show w.heap.size + 1 < _; omega)).trans C1.out) ((((Below.refl w1.heap.size w1).alloc (Nat.le_refl _) (.cells #[] 3)).cell (p := ⟨w.heap.size + 1 + 1, 0, none⟩) (by show w.heap.size + 1 + 1 < _; omega)).trans C2.out) (by omega) (by omega)
      (fun b o e hp => by
        obtain ⟨b', o', e', hc0⟩ := H.out 0 (by rw [HX.out]; exact hp)
        rw [e] at e'
        injection e' with e'
        injection e' with e1 e2
        have := World.block_lt_of_cell? w _ hc0
        have hs := B.out.size
        simp at this
        omega))
    have LL : (woL C row col xs l).length ≤ 576 := Nat.le_trans (woL_length _ _ _ _ _) (by omega)
    clear hle hx
    subst hln
    go_wp2_with fail
    refine FX.out.mono ?_
    rintro e w5 ⟨V, rfl, ho, hb⟩
    have OW := Lib.hid (Own.of_row ho (by omega))
    obtain ⟨q, ql, qc, rfl⟩ := rows_form ho
    have B5 := Lib.hid (B.out.trans ((((Below.refl w1.heap.size w1).alloc (Nat.le_refl _) (.cells #[] 3)).trans hb).mono B.out.size))
    have K0 := Lib.hid (K0.out.keep (((Below.refl w1.heap.size w1).alloc (Nat.le_refl _) (.cells #[] 3)).trans hb) K0.out.lt)
    have K3 := Lib.hid (K3.out.keep (((Below.refl w1.heap.size w1).alloc (Nat.le_refl _) (.cells #[] 3)).trans hb) K3.out.lt)
    clear ho hb p0 p1 p2 q0 q1 q2 f0 f1 f2
    obtain ⟨p0, p1, p2, -, -, -⟩ := K0.out.all
    obtain ⟨q0, q1, q2, f0, f1, f2⟩ := K3.out.all
    go_wp2_with fail
    obtain ⟨E0, E1, E2, -, -, -⟩ := (K3.out.set3 (.int .i64 ((R : Int) - 1)) (.int .i64 ((C : Int) - 1)) (.slice q ql qc)).all
    rw [E.out]
    refine bodyPost_ret (v := .tuple #[.agg #[.int .i64 ((R : Int) - 1), .int .i64 ((C : Int) - 1), .slice q ql qc], .bool true]) (by simp [results, Try.results21, go_sem, E0, E1, E2]) rfl ⟨_, rfl, ?_, ((B5.out.setCell (by show w.heap.size ≤ w.heap.size + 1 + 1 + 1; omega) _).setCell (by show w.heap.size ≤ w.heap.size + 1 + 1 + 1; omega) _).setCell (by show w.heap.size ≤ w.heap.size + 1 + 1 + 1; omega) _⟩
    exact (((OW.out.far (by show w.heap.size + 1 + 1 + 1 < w1.heap.size; omega) _).far (by show w.heap.size + 1 + 1 + 1 < w1.heap.size; omega) _).far (by show w.heap.size + 1 + 1 + 1 < w1.heap.size; omega) _).le (by omega)
  · have E := Lib.hid (hasB_false hh)
    rw [hh]
    clear hh
    go_wp2_with fail
    obtain ⟨E0, E1, E2, -, -, -⟩ := (K3.out.set3 (.int .i64 0) (.int .i64 0) (.slice none 0 0)).all
    rw [E.out]
    exact bodyPost_ret (v := .tuple #[.agg #[.int .i64 0, .int .i64 0, .slice none 0 0], .bool false]) (by simp [results, Try.results21, go_sem, E0, E1, E2]) rfl ⟨_, rfl, .inl ⟨rfl, rfl⟩, ((B.out.setCell (by show w.heap.size ≤ w.heap.size + 1 + 1 + 1; omega) _).setCell (by show w.heap.size ≤ w.heap.size + 1 + 1 + 1; omega) _).setCell (by show w.heap.size ≤ w.heap.size + 1 + 1 + 1; omega) _⟩
end Go.Proofs.Ytdnajkoeojlnbaa
