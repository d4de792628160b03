/-
  The drawing of one ratio and of two: nothing that was there changes.
-/
import Derived.Test.YtgoephocgefokaaDrawRat
namespace Go.Proofs.Ytgoephocgefokaa
open Go.RowKit

def OneRat (w : World) (e : Ending) (w' : World) : Prop := ∃ p q : Int, e = .returned (.agg #[.int .i64 p, .int .i64 q]) ∧ Below w.heap.size w w'
def TwoRats (w : World) (e : Ending) (w' : World) : Prop := ∃ p q r s : Int, e = .returned (.tuple #[.agg #[.int .i64 p, .int .i64 q], .agg #[.int .i64 r, .int .i64 s]]) ∧ Below w.heap.size w w'

set_option maxHeartbeats 1000000 in
theorem drawRnd (w : World) (a : Option Addr) (len cap : Nat) (hc : CodeIn w a len) : Calls Try.prog 38 #[.slice a len cap] w (OneRat w) := by
  have HC := Lib.hid hc
  clear hc
  go_enter Try.func38, Try.ntmps38
  go_wp2_with (fail)
  refine (l1New _ a len cap (HC.out.below ((Below.refl _ _).alloc (Nat.le_refl _) _))).mono ?_
  rintro e w1 ⟨cb, rfl, hcb, hc1, hb1⟩
  have CB : Hid (w.heap.size < cb) := by simp at hcb; exact hcb
  have K1 : Hid (Blk2 w1 w.heap.size 25 (.int .i64 0) (.int .i64 0)) := (Blk2.at_ _ _ _ rfl).keep hb1 (by simp)
  have C1 := Lib.hid hc1
  have B1 : Hid (Below w.heap.size w w1) := ((Below.refl _ _).alloc (Nat.le_refl _) _).trans (hb1.mono (by simp))
  clear hcb hc1 hb1
  go_wp2_with (fail)
  refine (l2Any w1 cb C1.out).mono ?_
  rintro e w2 ⟨p, q, rfl, hc2, hg2⟩
  have K2 := Lib.hid (K1.out.keepOne hg2 (by have := CB.out; omega))
  have B2 := Lib.hid (B1.out.trans (below_of_one hg2 (Nat.le_of_lt CB.out) B1.out.size))
  clear hc2 hg2
  obtain ⟨a2, b2, f2, g2⟩ := K2.out.all
  go_wp2_with (fail)
  obtain ⟨E0, E1, -, -⟩ := ((K2.out.set0 (.int .i64 p)).set1 (.int .i64 q)).all
  refine bodyPost_ret (v := .agg #[.int .i64 p, .int .i64 q]) (by simp [results, Try.results38, go_sem, E0, E1]) rfl ⟨p, q, rfl, ?_⟩
  exact (B2.out.setCell (Nat.le_refl _) _).setCell (Nat.le_refl _) _

set_option maxHeartbeats 1000000 in
theorem l2Two (w : World) (a : Option Addr) (len cap : Nat) (hc : CodeIn w a len) : Calls Try.prog 53 #[.slice a len cap] w (TwoRats w) := by
  have HC := Lib.hid hc
  clear hc
  go_enter Try.func53, Try.ntmps53
  go_wp2_with (fail)
  refine (l1New _ a len cap (HC.out.below (((Below.refl _ _).alloc (Nat.le_refl _) _).alloc (by simp) _))).mono ?_
  rintro e w1 ⟨cb, rfl, hcb, hc1, hb1⟩
  have CB : Hid (w.heap.size + 1 < cb) := by simp at hcb; exact hcb
  have K1 : Hid (Blk2 w1 w.heap.size 25 (.int .i64 0) (.int .i64 0)) := ((Blk2.at_ _ _ _ rfl).old _).keep hb1 (by simp; omega)
  have J1 : Hid (Blk2 w1 (w.heap.size + 1) 25 (.int .i64 0) (.int .i64 0)) := (Blk2.at_ _ _ _ (by simp)).keep hb1 (by simp)
  have C1 := Lib.hid hc1
  have B1 : Hid (Below w.heap.size w w1) := (((Below.refl _ _).alloc (Nat.le_refl _) _).alloc (by simp) _).trans (hb1.mono (by simp; omega))
  clear hcb hc1 hb1
  go_wp2_with (fail)
  refine (l2Any w1 cb C1.out).mono ?_
  rintro e w2 ⟨p, q, rfl, hc2, hg2⟩
  have K2 := Lib.hid (K1.out.keepOne hg2 (by have := CB.out; omega))
  have J2 := Lib.hid (J1.out.keepOne hg2 (by have := CB.out; omega))
  have B2 := Lib.hid (B1.out.trans (below_of_one hg2 (by have := CB.out; omega) B1.out.size))
  have C2 := Lib.hid hc2
  clear hc2 hg2
  go_wp2_with (fail)
  refine (l2Any w2 cb C2.out).mono ?_
  rintro e w3 ⟨r, s, rfl, hc3, hg3⟩
  have K3 := Lib.hid (K2.out.keepOne hg3 (by have := CB.out; omega))
  have J3 := Lib.hid (J2.out.keepOne hg3 (by have := CB.out; omega))
  have B3 := Lib.hid (B2.out.trans (below_of_one hg3 (by have := CB.out; omega) B2.out.size))
  clear hc3 hg3
  obtain ⟨a3, b3, f3, g3⟩ := K3.out.all
  obtain ⟨c3, d3, h3, i3⟩ := J3.out.all
  go_wp2_with (fail)
  obtain ⟨E0, E1, -, -⟩ := ((((K3.out.set0 (.int .i64 p)).set1 (.int .i64 q)).far (a := ⟨w.heap.size + 1, 0, none⟩) (by simp) (.int .i64 r)).far (a := ⟨w.heap.size + 1, 1, none⟩) (by simp) (.int .i64 s)).all
  obtain ⟨F0, F1, -, -⟩ := ((((J3.out.far (a := ⟨w.heap.size, 0, none⟩) (by simp) (.int .i64 p)).far (a := ⟨w.heap.size, 1, none⟩) (by simp) (.int .i64 q)).set0 (.int .i64 r)).set1 (.int .i64 s)).all
  refine bodyPost_ret (v := .tuple #[.agg #[.int .i64 p, .int .i64 q], .agg #[.int .i64 r, .int .i64 s]]) (by simp [results, Try.results53, go_sem, E0, E1, F0, F1]) rfl ⟨p, q, r, s, rfl, ?_⟩
  exact (((B3.out.setCell (Nat.le_refl _) _).setCell (Nat.le_refl _) _).setCell (Nat.le_succ _) _).setCell (Nat.le_succ _) _

set_option maxHeartbeats 1000000 in
theorem drawAdd (w : World) (a : Option Addr) (len cap : Nat) (hc : CodeIn w a len) : Calls Try.prog 37 #[.slice a len cap] w (TwoRats w) := by
  have HC := Lib.hid hc
  clear hc
  go_enter Try.func37, Try.ntmps37
  go_wp2_with (fail)
  refine (l2Two _ a len cap (HC.out.below (((Below.refl _ _).alloc (Nat.le_refl _) _).alloc (by simp) _))).mono ?_
  rintro e w1 ⟨p, q, r, s, rfl, hb1⟩
  have K3 : Hid (Blk2 w1 w.heap.size 25 (.int .i64 0) (.int .i64 0)) := ((Blk2.at_ _ _ _ rfl).old _).keep hb1 (by simp; omega)
  have J3 : Hid (Blk2 w1 (w.heap.size + 1) 25 (.int .i64 0) (.int .i64 0)) := (Blk2.at_ _ _ _ (by simp)).keep hb1 (by simp)
  have B3 : Hid (Below w.heap.size w w1) := (((Below.refl _ _).alloc (Nat.le_refl _) _).alloc (by simp) _).trans (hb1.mono (by simp; omega))
  clear hb1
  obtain ⟨a3, b3, f3, g3⟩ := K3.out.all
  obtain ⟨c3, d3, h3, i3⟩ := J3.out.all
  go_wp2_with (fail)
  obtain ⟨E0, E1, -, -⟩ := ((((K3.out.set0 (.int .i64 p)).set1 (.int .i64 q)).far (a := ⟨w.heap.size + 1, 0, none⟩) (by simp) (.int .i64 r)).far (a := ⟨w.heap.size + 1, 1, none⟩) (by simp) (.int .i64 s)).all
  obtain ⟨F0, F1, -, -⟩ := ((((J3.out.far (a := ⟨w.heap.size, 0, none⟩) (by simp) (.int .i64 p)).far (a := ⟨w.heap.size, 1, none⟩) (by simp) (.int .i64 q)).set0 (.int .i64 r)).set1 (.int .i64 s)).all
  refine bodyPost_ret (v := .tuple #[.agg #[.int .i64 p, .int .i64 q], .agg #[.int .i64 r, .int .i64 s]]) (by simp [results, Try.results37, go_sem, E0, E1, F0, F1]) rfl ⟨p, q, r, s, rfl, ?_⟩
  exact (((B3.out.setCell (Nat.le_refl _) _).setCell (Nat.le_refl _) _).setCell (Nat.le_succ _) _).setCell (Nat.le_succ _) _
end Go.Proofs.Ytgoephocgefokaa
