/-
  The drawing of ratios: two ints of whatever size are returned as a ratio; of what was there only the cursor has changed.
-/
import Derived.Test.YtkphlfcbinjknaaDraw
import Derived.Test.YtkphlfcbinjknaaRatS
namespace Go.Proofs.Ytkphlfcbinjknaa
open Go.RowKit

/-- A ratio (or what is none) is returned, and of all that was there only the cursor has changed. -/
def CurRat (cb : Nat) (w : World) (e : Ending) (w' : World) : Prop := ∃ p q : Int, e = .returned (.agg #[.int .i64 p, .int .i64 q]) ∧ Cur w' cb ∧ w.grownBy w' (some cb)

set_option maxHeartbeats 1000000 in
theorem l2Any (w : World) (cb : Nat) (hc : Cur w cb) : Calls Try.prog 19 #[.pointer (some ⟨cb, 0, none⟩)] w (CurRat cb w) := by
  have hlt := hc.lt
  have HC := Lib.hid hc
  clear hc
  go_enter Try.func19, Try.ntmps19
  go_wp2_with fail
  refine (l1Below _ cb 12 (HC.out.alloc _) (by omega)).mono ?_
  rintro e w1 ⟨r, ⟨r0, r1⟩, rfl, hc1, hg1⟩
  have K1 : Hid (Blk2 w1 w.heap.size 25 (.int .i64 0) (.int .i64 0)) := (Blk2.at_ _ _ _ rfl).keepOne hg1 (by omega)
  have C1 := Lib.hid hc1
  have G1 : Hid (w.grownBy w1 (some cb)) := (World.grownBy_alloc w _ _).trans hg1
  clear hc1 hg1
  obtain ⟨a1, b1, f1, g1⟩ := K1.out.all
  by_cases e0 : r = 0
  · subst e0
    go_wp2_with fail
    obtain ⟨E0, E1, -, -⟩ := ((K1.out.set0 (.int .i64 0)).set1 (.int .i64 0)).all
    refine bodyPost_ret (v := .agg #[.int .i64 0, .int .i64 0]) (by simp [results, Try.results19, go_sem, E0, E1]) rfl ⟨0, 0, rfl, ?_, ?_⟩
    · exact (C1.out.setFar hlt _).setFar hlt _
    · exact grown_set_new (grown_set_new G1.out (Nat.le_refl _) _) (Nat.le_refl _) _
  by_cases e1 : r = 1
  · subst e1
    go_wp2_with fail
    refine (l1Odd w1 cb C1.out).mono ?_
    rintro e w2 ⟨s, -, rfl, hc2, hg2⟩
    have K2 := Lib.hid (K1.out.keepOne hg2 (by omega))
    have C2 := Lib.hid hc2
    have G2 := Lib.hid (G1.out.trans hg2)
    clear hc2 hg2
    go_wp2_with fail
    refine (l1PickInt (fun _ => True) _ cb w2.heap.size 5 (C2.out.alloc _) ?_ (by omega) (by omega) (by have := C2.out.lt; omega)).mono ?_
    · exact IntList.new [1, 2, 400000000, -1, 4] (fun _ _ => trivial) w2 3
    rintro e w3 ⟨t, -, rfl, hc3, hg3⟩
    have K3 := Lib.hid ((K2.out.old _).keepOne hg3 (by omega))
    have C3 := Lib.hid hc3
    have G3 : Hid (w.grownBy w3 (some cb)) := G2.out.trans ((World.grownBy_alloc w2 _ _).trans hg3)
    clear hc3 hg3
    obtain ⟨a3, b3, f3, g3⟩ := K3.out.all
    go_wp2_with fail
    obtain ⟨E0, E1, -, -⟩ := ((K3.out.set0 (.int .i64 s)).set1 (.int .i64 t)).all
    refine bodyPost_ret (v := .agg #[.int .i64 s, .int .i64 t]) (by simp [results, Try.results19, go_sem, E0, E1]) rfl ⟨s, t, rfl, ?_, ?_⟩
    · exact (C3.out.setFar hlt _).setFar hlt _
    · exact grown_set_new (grown_set_new G3.out (Nat.le_refl _) _) (Nat.le_refl _) _
  by_cases e2 : r = 2
  · subst e2
    go_wp2_with fail
    refine (l1Below w1 cb 400000000 C1.out (by omega)).mono ?_
    rintro e w2 ⟨s, ⟨s0, s1⟩, rfl, hc2, hg2⟩
    have K2 := Lib.hid (K1.out.keepOne hg2 (by omega))
    have C2 := Lib.hid hc2
    have G2 := Lib.hid (G1.out.trans hg2)
    clear hc2 hg2
    go_wp2_with fail
    refine (l1Below w2 cb 400000000 C2.out (by omega)).mono ?_
    rintro e w3 ⟨t, ⟨t0, t1⟩, rfl, hc3, hg3⟩
    have K3 := Lib.hid (K2.out.keepOne hg3 (by omega))
    have C3 := Lib.hid hc3
    have G3 := Lib.hid (G2.out.trans hg3)
    clear hc3 hg3
    go_wp2_with fail
    refine (sMk s (1 + t) _).mono ?_
    rintro e w4 ⟨rfl, hb⟩
    have K4 := Lib.hid (K3.out.keep hb K3.out.lt)
    have C4 := Lib.hid (C3.out.grown (grown_of_below hb none) (by simp))
    have G4 := Lib.hid (G3.out.trans (grown_of_below hb _))
    clear hb
    obtain ⟨a4, b4, f4, g4⟩ := K4.out.all
    unfold ratV
    go_wp2_with fail
    obtain ⟨E0, E1, -, -⟩ := ((K4.out.set0 (.int .i64 (mkRat s (1 + t)).1)).set1 (.int .i64 (mkRat s (1 + t)).2)).all
    refine bodyPost_ret (v := .agg #[.int .i64 (mkRat s (1 + t)).1, .int .i64 (mkRat s (1 + t)).2]) (by simp [results, Try.results19, go_sem, E0, E1]) rfl ⟨_, _, rfl, ?_, ?_⟩
    · exact (C4.out.setFar hlt _).setFar hlt _
    · exact grown_set_new (grown_set_new G4.out (Nat.le_refl _) _) (Nat.le_refl _) _
  · go_wp2_with fail
    refine (l1Below w1 cb 41 C1.out (by omega)).mono ?_
    rintro e w2 ⟨s, ⟨s0, s1⟩, rfl, hc2, hg2⟩
    have K2 := Lib.hid (K1.out.keepOne hg2 (by omega))
    have C2 := Lib.hid hc2
    have G2 := Lib.hid (G1.out.trans hg2)
    clear hc2 hg2
    go_wp2_with fail
    refine (l1Below w2 cb 12 C2.out (by omega)).mono ?_
    rintro e w3 ⟨t, ⟨t0, t1⟩, rfl, hc3, hg3⟩
    have K3 := Lib.hid (K2.out.keepOne hg3 (by omega))
    have C3 := Lib.hid hc3
    have G3 := Lib.hid (G2.out.trans hg3)
    clear hc3 hg3
    go_wp2_with fail
    refine (sMk (s - 20) (1 + t) _).mono ?_
    rintro e w4 ⟨rfl, hb⟩
    have K4 := Lib.hid (K3.out.keep hb K3.out.lt)
    have C4 := Lib.hid (C3.out.grown (grown_of_below hb none) (by simp))
    have G4 := Lib.hid (G3.out.trans (grown_of_below hb _))
    clear hb
    obtain ⟨a4, b4, f4, g4⟩ := K4.out.all
    unfold ratV
    go_wp2_with fail
    obtain ⟨E0, E1, -, -⟩ := ((K4.out.set0 (.int .i64 (mkRat (s - 20) (1 + t)).1)).set1 (.int .i64 (mkRat (s - 20) (1 + t)).2)).all
    refine bodyPost_ret (v := .agg #[.int .i64 (mkRat (s - 20) (1 + t)).1, .int .i64 (mkRat (s - 20) (1 + t)).2]) (by simp [results, Try.results19, go_sem, E0, E1]) rfl ⟨_, _, rfl, ?_, ?_⟩
    · exact (C4.out.setFar hlt _).setFar hlt _
    · exact grown_set_new (grown_set_new G4.out (Nat.le_refl _) _) (Nat.le_refl _) _
end Go.Proofs.Ytkphlfcbinjknaa
