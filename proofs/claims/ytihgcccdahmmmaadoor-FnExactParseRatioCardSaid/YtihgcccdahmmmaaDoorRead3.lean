/-
  Chapter 4, in the program: readAll over ratios; ParseRatio.
-/
import Derived.Test.YtihgcccdahmmmaaDoorRead2
import Derived.Defers
import Derived.Recover
namespace Go.Proofs.YtihgcccdahmmmaaDoor
open Go.RowKit
open Go.Lib (decDigits itoa nDigits)

theorem catchR_panic (x : PanicEntry) (u : TypeId) (pv : Value) (hx : x = { v := .iface u pv, recovered := false }) (older : List PanicEntry) (w : World) :
    CallsD Tryd.prog 78 #[] (.panicking (x :: older)) w fun e u' w' =>
      e = .returned (.tuple #[]) ∧ u' = .panicking ({ v := .iface u pv, recovered := true } :: older) ∧ w' = w := by
  subst hx
  refine callsD_of_wpS Tryd.func78 rfl fun c₀ cs hu => ?_
  apply wpS_region
  simp [wpOpsS, go_sem, recoverD, hu, Tryd.ntmps78, bodyPostS, results, Tryd.results78]
theorem catchR_idle (w : World) :
    CallsD Tryd.prog 78 #[] .returning w fun e u' w' => e = .returned (.tuple #[]) ∧ u' = .returning ∧ w' = w := by
  refine callsD_of_wpS Tryd.func78 rfl fun c₀ cs hu => ?_
  apply wpS_region
  simp [wpOpsS, go_sem, recoverD, hu, Tryd.ntmps78, bodyPostS, results, Tryd.results78]
  cases c₀
  simp_all

theorem goR1_none {l : List UInt8} (h : goR1 l = none) : parR l = ((0, 0), false) := by
  rw [goR_parR]
  have e : goR l = none := by
    unfold goR1 at h
    unfold goR
    split at h
    · split at h
      · cases h
      · rename_i h1 h2
        rw [if_pos h1, if_neg h2]
        split at h
        · rename_i h3
          rw [if_pos h3]
          split at h
          · rename_i h4
            rw [if_pos h4]
            split at h
            · cases h
            · rename_i h5
              rw [if_neg (fun k => h5 k.1)]
          · rename_i h4
            rw [if_neg h4]
        · rename_i h3
          rw [if_neg h3]
    · rename_i h1
      rw [if_neg h1]
  rw [e]
theorem goR1_some {l : List UInt8} {v : Value} {l' : List UInt8} (h : goR1 l = some (v, l')) : ∃ n d : Int, v = ratV (n, d) ∧ (l' = [] → parR l = ((n, d), true)) ∧ (l' ≠ [] → parR l = ((0, 0), false)) := by
  rw [goR_parR]
  unfold goR1 at h
  unfold goR
  split at h
  · rename_i h1
    rw [if_pos h1]
    split at h
    · rename_i h2
      rw [if_pos h2]
      injection h with h
      injection h with hv hl
      exact ⟨_, _, hv.symm, fun _ => rfl, fun k => absurd hl.symm k⟩
    · rename_i h2
      rw [if_neg h2]
      split at h
      · rename_i h3
        rw [if_pos h3]
        split at h
        · rename_i h4
          rw [if_pos h4]
          split at h
          · rename_i h5
            injection h with h
            injection h with hv hl
            refine ⟨_, _, hv.symm, fun k => ?_, fun k => ?_⟩
            · rw [if_pos ⟨h5, hl.trans k⟩]
            · rw [if_neg (fun x => k (hl.symm.trans x.2))]
          · cases h
        · cases h
      · cases h
  · cases h

set_option maxHeartbeats 1000000 in
theorem iReadAllR (l : List UInt8) (w : World) (hl : l.length ≤ 16777216) (tb : Tab w) :
    Calls Tryd.prog 51 #[.string ⟨l.toArray⟩, .func (.func 52) #[] #[]] w (Gives (parV (parR l)) w) := by
  have TB := Lib.hid tb
  have LT := Lib.hid tb.lt
  have HL := Lib.hid hl
  obtain ⟨z, hz⟩ : ∃ z, parR l = z := ⟨_, rfl⟩
  have HZ := Lib.hid hz
  rw [hz]
  clear tb hl hz
  go_enter_defers Tryd.func51, Tryd.ntmps51
  go_wp2_with fail
  have K0 : Hid (Blk2 ((w.alloc (.cells #[.int .i64 0, .int .i64 0] 35)).alloc (.cells #[.string ⟨l.toArray⟩] 91)) w.heap.size 35 (.int .i64 0) (.int .i64 0)) := (Blk2.at_ _ _ _ rfl).old _
  have R0 : Hid (Rdr ((w.alloc (.cells #[.int .i64 0, .int .i64 0] 35)).alloc (.cells #[.string ⟨l.toArray⟩] 91)) (w.heap.size + 1) l) := Blk1.at_ _ _ (by simp)
  have B0 : Hid (Below w.heap.size w ((w.alloc (.cells #[.int .i64 0, .int .i64 0] 35)).alloc (.cells #[.string ⟨l.toArray⟩] 91))) := ((Below.refl _ _).alloc (Nat.le_refl _) _).alloc (by simp) _
  obtain ⟨o, ho⟩ : ∃ o, goR1 l = o := ⟨_, rfl⟩
  have RA := iRatioR (w.heap.size + 1) l _ R0.out HL.out (TB.out.below B0.out) (by have := LT.out; omega)
  rw [ho] at RA
  have HO := Lib.hid ho
  clear ho
  refine RA.mono ?_
  clear RA
  rintro e w1 ⟨g1, h1⟩
  have K1 : Hid (Blk2 w1 w.heap.size 35 (.int .i64 0) (.int .i64 0)) := K0.out.keepOne g1 (by omega)
  have B1 : Hid (Below w.heap.size w w1) := B0.out.trans (below_of_one g1 (by omega) (by simp; omega))
  clear g1
  cases o with
  | none =>
    have E : Hid (z = ((0, 0), false)) := Lib.hid (by rw [← HZ.out]; exact goR1_none HO.out)
    cases h1
    go_wp2_with fail
    refine leaves_cons (f := 78) (args := #[]) (by simp) (by simp [go_sem]) ?_
    refine (catchR_panic _ _ _ rfl [] _).mono ?_
    rintro e u' w'' ⟨rfl, rfl, rfl⟩
    have e0 := K1.out.cell0
    have e1 := K1.out.cell1
    rw [E.out]
    simp [Leaves, settle, results, Tryd.results51, go_sem, e0, e1, Gives, parV, ratV]
    exact B1.out
  | some p =>
    obtain ⟨v, l'⟩ := p
    obtain ⟨rfl, r1⟩ := h1
    obtain ⟨n, d, rfl, ey, en⟩ := goR1_some HO.out
    have EY := Lib.hid ey
    have EN := Lib.hid en
    clear ey en
    have c1 := Blk1.cell0 r1
    have R1 := Lib.hid r1
    have lt1 : w.heap.size < w1.heap.size := K1.out.lt
    have V1 : Hid (Blk2 (w1.alloc (.cells #[.int .i64 n, .int .i64 d] 35)) w1.heap.size 35 (.int .i64 n) (.int .i64 d)) := Blk2.at_ _ _ _ rfl
    have B2 : Hid (Below w.heap.size w (w1.alloc (.cells #[.int .i64 n, .int .i64 d] 35))) := B1.out.alloc B1.out.size _
    have K2 : Hid (Blk2 (w1.alloc (.cells #[.int .i64 n, .int .i64 d] 35)) w.heap.size 35 (.int .i64 0) (.int .i64 0)) := K1.out.old _
    have c2 := Blk1.cell0 (Blk1.old r1 (.cells #[.int .i64 n, .int .i64 d] 35))
    clear r1 c1
    unfold ratV
    simp only
    have EY2 : Hid (l' = [] → z = ((n, d), true)) := fun h => by rw [← HZ.out]; exact EY.out h
    have EN2 : Hid (l' ≠ [] → z = ((0, 0), false)) := fun h => by rw [← HZ.out]; exact EN.out h
    clear EY EN HO
    cases l' with
    | nil =>
      have E : Hid (z = ((n, d), true)) := EY2.out rfl
      obtain ⟨k0, k1, k2, k3⟩ := K1.out.all
      go_wp2_with fail
      refine (iNeed_t _ _).mono ?_
      rintro e w5 ⟨rfl, rfl⟩
      go_wp2_with fail
      refine leaves_cons (f := 78) (args := #[]) (by simp) (by simp [go_sem]) ?_
      refine (catchR_idle _).mono ?_
      rintro e u' w'' ⟨rfl, rfl, rfl⟩
      have KF := ((K1.out.set0 (.int .i64 n)).set1 (.int .i64 d)).old (.cells #[.int .i64 n, .int .i64 d] 35)
      have e0 := KF.cell0
      have e1 := KF.cell1
      rw [E.out]
      simp [Leaves, settle, results, Tryd.results51, go_sem, e0, e1, Gives, parV, ratV]
      have b1 := B1.out.size
      repeat (first | exact B1.out | refine Below.setCell ?_ (by exact Nat.le_refl _) _ | refine Below.alloc ?_ (by first | exact b1 | simpa using b1) _)
    | cons c s =>
      have E : Hid (z = ((0, 0), false)) := EN2.out (by simp)
      have eq0 : ((c :: s : List UInt8) == []) = false := rfl
      go_wp2_with fail
      refine (iNeed_f _ _).mono ?_
      rintro e w5 ⟨rfl, rfl⟩
      go_wp2_with fail
      refine leaves_cons (f := 78) (args := #[]) (by simp) (by simp [go_sem]) ?_
      refine (catchR_panic _ _ _ rfl [] _).mono ?_
      rintro e u' w'' ⟨rfl, rfl, rfl⟩
      have e0 := K2.out.cell0
      have e1 := K2.out.cell1
      rw [E.out]
      simp [Leaves, settle, results, Tryd.results51, go_sem, e0, e1, Gives, parV, ratV]
      exact B2.out

set_option maxHeartbeats 400000 in
theorem iParseRatio (l : List UInt8) (w : World) (hl : l.length ≤ 16777216) (tb : Tab w) :
    Calls Tryd.prog 17 #[.string ⟨l.toArray⟩] w (Gives (parV (parR l)) w) := by
  have B0 : Hid (Below w.heap.size w (w.alloc (.cells #[.int .i64 0, .int .i64 0] 35))) := (Below.refl _ _).alloc (Nat.le_refl _) _
  have K0 : Hid (Blk2 (w.alloc (.cells #[.int .i64 0, .int .i64 0] 35)) w.heap.size 35 (.int .i64 0) (.int .i64 0)) := Blk2.at_ _ _ _ rfl
  have RA := iReadAllR l (w.alloc (.cells #[.int .i64 0, .int .i64 0] 35)) hl (tb.below B0.out)
  obtain ⟨z, hz⟩ : ∃ z, parR l = z := ⟨_, rfl⟩
  rw [hz] at RA ⊢
  obtain ⟨⟨n, d⟩, b⟩ := z
  clear hz hl tb
  unfold parV ratV at RA
  simp only at RA
  go_enter Tryd.func17, Tryd.ntmps17
  go_wp2_with fail
  refine RA.mono ?_
  clear RA
  rintro e w1 ⟨rfl, b1⟩
  have K1 : Hid (Blk2 w1 w.heap.size 35 (.int .i64 0) (.int .i64 0)) := K0.out.keep b1 (by simp)
  have B1 : Hid (Below w.heap.size w w1) := B0.out.trans (b1.mono (by simp))
  obtain ⟨k0, k1, k2, k3⟩ := K1.out.all
  clear b1
  go_wp2_with fail
  have KF := (K1.out.set0 (.int .i64 n)).set1 (.int .i64 d)
  have e0 := KF.cell0
  have e1 := KF.cell1
  refine bodyPost_ret (v := parV ((n, d), b)) (by simp [results, Tryd.results17, go_sem, parV, ratV, e0, e1]) rfl ?_
  exact ⟨rfl, (B1.out.setCell (by simp) _).setCell (by simp) _⟩
end Go.Proofs.YtihgcccdahmmmaaDoor
