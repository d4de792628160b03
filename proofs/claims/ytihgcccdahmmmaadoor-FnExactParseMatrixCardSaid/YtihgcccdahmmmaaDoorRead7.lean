/-
  Chapter 4, in the program: readAll over matrices; ParseMatrix.
-/
import Derived.Test.YtihgcccdahmmmaaDoorRead6
import Derived.Defers
import Derived.Recover
namespace Go.Proofs.YtihgcccdahmmmaaDoor
open Go.RowKit
open Go.Lib (decDigits itoa nDigits)

theorem OwnA.lower {B B' : Nat} {w : World} {v : Value} {zs : List Int} (h : OwnA B w v zs) (hB : B' ≤ B) : OwnA B' w v zs := by
  obtain ⟨h1, ⟨h2, h3⟩ | ⟨g, cap, cur, rfl, hb, rest⟩⟩ := h
  · exact ⟨h1, .inl ⟨h2, h3⟩⟩
  · exact ⟨h1, .inr ⟨g, cap, cur, rfl, Nat.le_trans hB hb, rest⟩⟩
theorem Own.farM {B : Nat} {w : World} {v : Value} {zs : List Int} (h : Own B w v zs) {a : Addr} (ha : a.block < B) (u : Value) : Own B (w.setCell a u) v zs := by
  rcases h with h | ⟨g, cap, hv, hB, hi, hl, hc⟩
  · exact .inl h
  · exact .inr ⟨g, cap, hv, hB, hi.far (by omega) u, hl, hc⟩
theorem catchM_panic (x : PanicEntry) (u : TypeId) (pv : Value) (hx : x = { v := .iface u pv, recovered := false }) (older : List PanicEntry) (w : World) :
    CallsD Tryd.prog 71 #[] (.panicking (x :: older)) w fun e u' w' =>
      e = .returned (.tuple #[]) ∧ u' = .panicking ({ v := .iface u pv, recovered := true } :: older) ∧ w' = w := by
  subst hx
  refine callsD_of_wpS Tryd.func71 rfl fun c₀ cs hu => ?_
  apply wpS_region
  simp [wpOpsS, go_sem, recoverD, hu, Tryd.ntmps71, bodyPostS, results, Tryd.results71]
theorem catchM_idle (w : World) :
    CallsD Tryd.prog 71 #[] .returning w fun e u' w' => e = .returned (.tuple #[]) ∧ u' = .returning ∧ w' = w := by
  refine callsD_of_wpS Tryd.func71 rfl fun c₀ cs hu => ?_
  apply wpS_region
  simp [wpOpsS, go_sem, recoverD, hu, Tryd.ntmps71, bodyPostS, results, Tryd.results71]
  cases c₀
  simp_all

set_option maxRecDepth 20000 in
set_option maxHeartbeats 1000000 in
theorem iReadAllM (l : List UInt8) (w : World) (hl : l.length ≤ 16777216) (tb : Tab w) :
    Calls Tryd.prog 42 #[.string ⟨l.toArray⟩, .func (.func 43) #[] #[]] w (MatRes (parM l) w) := by
  have TB := Lib.hid tb
  have LT := Lib.hid tb.lt
  have HL := Lib.hid hl
  obtain ⟨z, hz⟩ : ∃ z, parM l = z := ⟨_, rfl⟩
  have HZ := Lib.hid hz
  rw [hz]
  have NO : Hid (∀ w' : World, z = MR.no → Below w.heap.size w w' → MatRes z w (.returned (.tuple #[.agg #[.int .i64 0, .int .i64 0, .slice none 0 0], .bool false])) w') := Lib.hid (fun w' h hb => by
    rw [h]; exact ⟨_, rfl, .inl ⟨rfl, rfl⟩, hb⟩)
  clear tb hl hz
  go_enter_defers Tryd.func42, Tryd.ntmps42
  go_wp2_with fail
  have K0 : Hid (Blk3 ((w.alloc (.cells #[.int .i64 0, .int .i64 0, .slice none 0 0] 26)).alloc (.cells #[.string ⟨l.toArray⟩] 91)) w.heap.size 26 (.int .i64 0) (.int .i64 0) (.slice none 0 0)) := (Blk3.at_ _ _ _ _ rfl).old _
  have R0 : Hid (Rdr ((w.alloc (.cells #[.int .i64 0, .int .i64 0, .slice none 0 0] 26)).alloc (.cells #[.string ⟨l.toArray⟩] 91)) (w.heap.size + 1) l) := Blk1.at_ _ _ (by simp)
  have B0 : Hid (Below w.heap.size w ((w.alloc (.cells #[.int .i64 0, .int .i64 0, .slice none 0 0] 26)).alloc (.cells #[.string ⟨l.toArray⟩] 91))) := ((Below.refl _ _).alloc (Nat.le_refl _) _).alloc (by simp) _
  obtain ⟨o, ho⟩ : ∃ o, goM1 l = o := ⟨_, rfl⟩
  have RA := iMatrixR (w.heap.size + 1) l _ R0.out HL.out (TB.out.below B0.out) (by have := LT.out; omega)
  rw [ho] at RA
  have HO := Lib.hid ho
  clear ho
  refine RA.mono ?_
  clear RA
  rintro e w1 ⟨g1, h1⟩
  have K1 : Hid (Blk3 w1 w.heap.size 26 (.int .i64 0) (.int .i64 0) (.slice none 0 0)) := K0.out.keepOne g1 (by omega)
  have B1 : Hid (Below w.heap.size w w1) := B0.out.trans (below_of_one g1 (by omega) (by simp; omega))
  clear g1
  cases o with
  | none =>
    have E : Hid (z = MR.no) := Lib.hid (by rw [← HZ.out]; exact goM1_none HO.out)
    cases h1
    go_wp2_with fail
    refine leaves_cons (f := 71) (args := #[]) (by simp) (by simp [go_sem]) ?_
    refine (catchM_panic _ _ _ rfl [] _).mono ?_
    rintro e u' w'' ⟨rfl, rfl, rfl⟩
    have e0 := K1.out.cell0
    have e1 := K1.out.cell1
    have e2 := K1.out.cell2
    have FIN := NO.out _ E.out B1.out
    simp [Leaves, settle, results, Tryd.results42, go_sem, e0, e1, e2]
    exact FIN
  | some p =>
    obtain ⟨⟨r, c, zs⟩, l'⟩ := p
    obtain ⟨v, rfl, ov, r1⟩ := h1
    have c1 := Blk1.cell0 r1
    have R1 := Lib.hid r1
    have OV : Hid (OwnA w.heap.size w1 v zs) := Lib.hid (ov.lower (by simp; omega))
    obtain ⟨va, vc, rfl⟩ := ov.form
    have lt1 : w.heap.size < w1.heap.size := K1.out.lt
    have B2 : Hid (Below w.heap.size w (w1.alloc (.cells #[.int .i64 r, .int .i64 c, .slice va zs.length vc] 26))) := B1.out.alloc B1.out.size _
    have K2 : Hid (Blk3 (w1.alloc (.cells #[.int .i64 r, .int .i64 c, .slice va zs.length vc] 26)) w.heap.size 26 (.int .i64 0) (.int .i64 0) (.slice none 0 0)) := K1.out.old _
    have c2 := Blk1.cell0 (Blk1.old r1 (.cells #[.int .i64 r, .int .i64 c, .slice va zs.length vc] 26))
    clear r1 c1 ov
    cases l' with
    | nil =>
      have E : Hid (z = ⟨true, r, c, zs⟩) := Lib.hid (by rw [← HZ.out]; exact goM1_done HO.out)
      have ZL : Hid (zs.length ≤ 16777216) := Lib.hid (by
        have h := goM1_says HO.out
        obtain ⟨⟨r1, r2⟩, ⟨c1, c2⟩, l1, -⟩ := isMat_says h.1
        have := (mul_size r c ⟨r1, r2⟩ ⟨c1, c2⟩).2; omega)
      obtain ⟨k0, k1, k2, k3, k4, k5⟩ := K1.out.all
      go_wp2_with fail
      refine (iNeed_t _ _).mono ?_
      rintro e w5 ⟨rfl, rfl⟩
      go_wp2_with fail
      refine leaves_cons (f := 71) (args := #[]) (by simp) (by simp [go_sem]) ?_
      refine (catchM_idle _).mono ?_
      rintro e u' w'' ⟨rfl, rfl, rfl⟩
      have KF := (((K1.out.set0 (.int .i64 r)).set1 (.int .i64 c)).set2 (.slice va zs.length vc)).old (.cells #[.int .i64 r, .int .i64 c, .slice va zs.length vc] 26)
      have e0 := KF.cell0
      have e1 := KF.cell1
      have e2 := KF.cell2
      have OF := (((OV.out.far2 K1.out (.int .i64 r) (j := 0)).far2 (K1.out.set0 (.int .i64 r)) (.int .i64 c) (j := 1)).far2 ((K1.out.set0 (.int .i64 r)).set1 (.int .i64 c)) (.slice va zs.length vc) (j := 2)).keep ((Below.refl _ _).alloc (Nat.le_refl _) (.cells #[.int .i64 r, .int .i64 c, .slice va zs.length vc] 26))
      have BF : Below w.heap.size w ((((w1.setCell ⟨w.heap.size, 0, none⟩ (.int .i64 r)).setCell ⟨w.heap.size, 1, none⟩ (.int .i64 c)).setCell ⟨w.heap.size, 2, none⟩ (.slice va zs.length vc)).alloc (.cells #[.int .i64 r, .int .i64 c, .slice va zs.length vc] 26)) :=
        (((B1.out.setCell (by exact Nat.le_refl _) _).setCell (by exact Nat.le_refl _) _).setCell (by exact Nat.le_refl _) _).alloc (by simpa using B1.out.size) _
      have FIN : MatRes z w (.returned (.tuple #[.agg #[.int .i64 r, .int .i64 c, .slice va zs.length vc], .bool true])) ((((w1.setCell ⟨w.heap.size, 0, none⟩ (.int .i64 r)).setCell ⟨w.heap.size, 1, none⟩ (.int .i64 c)).setCell ⟨w.heap.size, 2, none⟩ (.slice va zs.length vc)).alloc (.cells #[.int .i64 r, .int .i64 c, .slice va zs.length vc] 26)) := by
        rw [E.out]
        exact ⟨_, rfl, OF.own ZL.out, BF⟩
      simp [Leaves, settle, results, Tryd.results42, go_sem, e0, e1, e2]
      exact FIN
    | cons c0 s =>
      have E : Hid (z = MR.no) := Lib.hid (by rw [← HZ.out]; exact goM1_left HO.out (by simp))
      have eq0 : ((c0 :: s : List UInt8) == []) = false := rfl
      go_wp2_with fail
      refine (iNeed_f _ _).mono ?_
      rintro e w5 ⟨rfl, rfl⟩
      go_wp2_with fail
      refine leaves_cons (f := 71) (args := #[]) (by simp) (by simp [go_sem]) ?_
      refine (catchM_panic _ _ _ rfl [] _).mono ?_
      rintro e u' w'' ⟨rfl, rfl, rfl⟩
      have e0 := K2.out.cell0
      have e1 := K2.out.cell1
      have e2 := K2.out.cell2
      have FIN := NO.out _ E.out B2.out
      simp [Leaves, settle, results, Tryd.results42, go_sem, e0, e1, e2]
      exact FIN

set_option maxRecDepth 20000 in
set_option maxHeartbeats 1000000 in
theorem iParseMatrix (l : List UInt8) (w : World) (hl : l.length ≤ 16777216) (tb : Tab w) :
    Calls Tryd.prog 12 #[.string ⟨l.toArray⟩] w (MatRes (parM l) w) := by
  have B0 : Hid (Below w.heap.size w (w.alloc (.cells #[.int .i64 0, .int .i64 0, .slice none 0 0] 26))) := (Below.refl _ _).alloc (Nat.le_refl _) _
  have K0 : Hid (Blk3 (w.alloc (.cells #[.int .i64 0, .int .i64 0, .slice none 0 0] 26)) w.heap.size 26 (.int .i64 0) (.int .i64 0) (.slice none 0 0)) := Blk3.at_ _ _ _ _ rfl
  have n1 : (l.length : Int) ≤ 16777216 := by omega
  by_cases h8 : l.length ≤ 8000
  · have d0 : decide ((8000 : Int) < l.length) = false := decide_eq_false (by omega)
    have d1 : decide (8000 < l.length) = false := decide_eq_false (by omega)
    have RA := iReadAllM l (w.alloc (.cells #[.int .i64 0, .int .i64 0, .slice none 0 0] 26)) hl (tb.below B0.out)
    obtain ⟨z, hz⟩ : ∃ z, parM l = z := ⟨_, rfl⟩
    rw [hz] at RA ⊢
    obtain ⟨ok, r, c, zs⟩ := z
    clear hz hl tb h8
    go_enter Tryd.func12, Tryd.ntmps12
    go_wp2_with fail
    refine RA.mono ?_
    clear RA
    rintro e w1 ⟨v, rfl, ov, b1⟩
    have K1 : Hid (Blk3 w1 w.heap.size 26 (.int .i64 0) (.int .i64 0) (.slice none 0 0)) := K0.out.keep b1 (by simp)
    have B1 : Hid (Below w.heap.size w w1) := B0.out.trans (b1.mono (by simp))
    have OV : Hid (Own (w.heap.size + 1) w1 v zs) := Lib.hid (ov.le (by simp))
    obtain ⟨va, vc, rfl, -, -⟩ := ov.form
    obtain ⟨k0, k1, k2, k3, k4, k5⟩ := K1.out.all
    clear b1 ov
    simp only
    go_wp2_with fail
    have KF := (((K1.out.set0 (.int .i64 r)).set1 (.int .i64 c)).set2 (.slice va zs.length vc))
    have e0 := KF.cell0
    have e1 := KF.cell1
    have e2 := KF.cell2
    refine bodyPost_ret (v := .tuple #[.agg #[.int .i64 r, .int .i64 c, .slice va zs.length vc], .bool ok]) (by simp [results, Tryd.results12, go_sem, e0, e1, e2]) rfl ?_
    exact ⟨_, rfl, ((((OV.out.farM (by simp) _).farM (by simp) _).farM (by simp) _)).le (by omega), ((B1.out.setCell (by exact Nat.le_refl _) _).setCell (by exact Nat.le_refl _) _).setCell (by exact Nat.le_refl _) _⟩
  · have d0 : decide ((8000 : Int) < l.length) = true := decide_eq_true (by omega)
    have d1 : decide (8000 < l.length) = true := decide_eq_true (by omega)
    have E : Hid (parM l = MR.no) := Lib.hid (parM_no (fun h => h8 h.2.1))
    rw [E.out]
    obtain ⟨k0, k1, k2, k3, k4, k5⟩ := K0.out.all
    clear hl tb h8
    go_enter Tryd.func12, Tryd.ntmps12
    go_wp2_with fail
    refine bodyPost_ret (v := .tuple #[.agg #[.int .i64 0, .int .i64 0, .slice none 0 0], .bool false]) (by simp [results, Tryd.results12, go_sem]) rfl ?_
    exact ⟨_, rfl, .inl ⟨rfl, rfl⟩, B0.out⟩
end Go.Proofs.YtihgcccdahmmmaaDoor
