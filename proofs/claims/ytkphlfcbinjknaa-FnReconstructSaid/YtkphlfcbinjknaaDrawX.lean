/-
  The drawing of a ratio and a modulus: nothing that was there changes.
-/
import Derived.Test.YtkphlfcbinjknaaDrawRat
import Derived.Test.YtkphlfcbinjknaaDrawTwo
import Derived.Test.YtkphlfcbinjknaaCode
namespace Go.Proofs.Ytkphlfcbinjknaa
set_option maxRecDepth 100000
open Go.RowKit

set_option maxHeartbeats 1000000 in
theorem l10Mo (w : World) (cb : Nat) (hc : Cur w cb) : Calls Try.prog 20 #[.pointer (some ⟨cb, 0, none⟩)] w (CurInt (fun _ => True) cb w) := by
  have hlt := hc.lt
  have HC := Lib.hid hc
  clear hc
  go_enter Try.func20, Try.ntmps20
  go_wp2_with fail
  refine (l1PickInt (fun _ => True) _ cb w.heap.size 9 (HC.out.alloc _) ?_ (by omega) (by omega) (by omega)).mono ?_
  · exact IntList.new [1, 10, 101, 1000, 10201, 1030301, 399999959, 400000001, 0] (by decide) w 3
  rintro e w2 ⟨z, -, rfl, hc2, hg2⟩
  have C2 := Lib.hid hc2
  have G2 : Hid (w.grownBy w2 (some cb)) := (World.grownBy_alloc w _ _).trans hg2
  clear hc2 hg2
  go_wp2_with fail
  exact bodyPost_ret (v := .int .i64 z) (by simp [results, Try.results20, go_sem]) rfl ⟨z, trivial, rfl, C2.out, G2.out⟩
/-- A ratio (or what is none) and an int. -/
def RatMod (w : World) (e : Ending) (w' : World) : Prop := ∃ p q m : Int, e = .returned (.tuple #[.agg #[.int .i64 p, .int .i64 q], .int .i64 m]) ∧ Below w.heap.size w w'
set_option maxHeartbeats 1000000 in
theorem drawRes (w : World) (a : Option Addr) (len cap : Nat) (hc : CodeIn w a len) : Calls Try.prog 8 #[.slice a len cap] w (RatMod w) := by
  have HC := Lib.hid hc
  clear hc
  go_enter Try.func8, Try.ntmps8
  go_wp2_with (fail)
  refine (l1New _ a len cap (HC.out.below ((Below.refl _ _).alloc (Nat.le_refl _) _))).mono ?_
  rintro e w1 ⟨cb, rfl, hcb, hc1, hb1⟩
  have CB : Hid (w.heap.size < cb) := by simp at hcb; exact hcb
  have K1 : Hid (Blk2 w1 w.heap.size 25 (.int .i64 0) (.int .i64 0)) := (Blk2.at_ _ _ _ rfl).keep hb1 (by simp)
  have C1 := Lib.hid hc1
  have B1 : Hid (Below w.heap.size w w1) := ((Below.refl _ _).alloc (Nat.le_refl _) _).trans (hb1.mono (by simp))
  clear hcb hc1 hb1
  go_wp2_with (fail)
  refine (l2Any w1 cb C1.out).mono ?_
  rintro e w2 ⟨p, q, rfl, hc2, hg2⟩
  have K2 := Lib.hid (K1.out.keepOne hg2 (by have := CB.out; omega))
  have B2 := Lib.hid (B1.out.trans (below_of_one hg2 (Nat.le_of_lt CB.out) B1.out.size))
  have C2 := Lib.hid hc2
  clear hc2 hg2
  go_wp2_with (fail)
  refine (l10Mo w2 cb C2.out).mono ?_
  rintro e w3 ⟨m, -, rfl, hc3, hg3⟩
  have K3 := Lib.hid (K2.out.keepOne hg3 (by have := CB.out; omega))
  have B3 := Lib.hid (B2.out.trans (below_of_one hg3 (Nat.le_of_lt CB.out) B2.out.size))
  clear hc3 hg3
  obtain ⟨a2, b2, f2, g2⟩ := K3.out.all
  go_wp2_with (fail)
  obtain ⟨E0, E1, -, -⟩ := ((K3.out.set0 (.int .i64 p)).set1 (.int .i64 q)).all
  refine bodyPost_ret (v := .tuple #[.agg #[.int .i64 p, .int .i64 q], .int .i64 m]) (by simp [results, Try.results8, go_sem, E0, E1]) rfl ⟨p, q, m, rfl, ?_⟩
  exact (B3.out.setCell (Nat.le_refl _) _).setCell (Nat.le_refl _) _
end Go.Proofs.Ytkphlfcbinjknaa
