/-
  The drawing of a matrix and of a ratio, for their texts: nothing that was there changes.
-/
import Derived.Test.YtihgcccdahmmmaaDoorDraw5
import Derived.Test.YtihgcccdahmmmaaDoorDrawRat
namespace Go.Proofs.YtihgcccdahmmmaaDoor
open Go.RowKit

theorem Own.farD {B : Nat} {w : World} {v : Value} {zs : List Int} (h : Own B w v zs) {a : Addr} (ha : a.block < B) (u : Value) : Own B (w.setCell a u) v zs := by
  rcases h with h | ⟨g, cap, hv, hB, hi, hl, hc⟩
  · exact .inl h
  · exact .inr ⟨g, cap, hv, hB, hi.far (by omega) u, hl, hc⟩
def OneRatF (w : World) (e : Ending) (w' : World) : Prop := ∃ p q : Int, e = .returned (.agg #[.int .i64 p, .int .i64 q]) ∧ Below w.heap.size w w'
def OneMatF (w : World) (e : Ending) (w' : World) : Prop := ∃ (r c : Int) (v : Value) (xs : List Int), e = .returned (.agg #[.int .i64 r, .int .i64 c, v]) ∧ Own w.heap.size w' v xs ∧ xs.length ≤ 600 ∧ Below w.heap.size w w'

set_option maxHeartbeats 1000000 in
theorem drawFR (w : World) (a : Option Addr) (len cap : Nat) (hc : CodeIn w a len) : Calls Tryd.prog 16 #[.slice a len cap] w (OneRatF w) := by
  have HC := Lib.hid hc
  clear hc
  go_enter Tryd.func16, Tryd.ntmps16
  go_wp2_with (fail)
  refine (l1New _ a len cap (HC.out.below ((Below.refl _ _).alloc (Nat.le_refl _) _))).mono ?_
  rintro e w1 ⟨cb, rfl, hcb, hc1, hb1⟩
  have CB : Hid (w.heap.size < cb) := by simp at hcb; exact hcb
  have K1 : Hid (Blk2 w1 w.heap.size 35 (.int .i64 0) (.int .i64 0)) := (Blk2.at_ _ _ _ rfl).keep hb1 (by simp)
  have C1 := Lib.hid hc1
  have B1 : Hid (Below w.heap.size w w1) := ((Below.refl _ _).alloc (Nat.le_refl _) _).trans (hb1.mono (by simp))
  clear hcb hc1 hb1
  go_wp2_with (fail)
  refine (l2Any w1 cb C1.out).mono ?_
  rintro e w2 ⟨p, q, rfl, hc2, hg2⟩
  have K2 := Lib.hid (K1.out.keepOne hg2 (by have := CB.out; omega))
  have B2 := Lib.hid (B1.out.trans (below_of_one hg2 (Nat.le_of_lt CB.out) B1.out.size))
  clear hc2 hg2
  obtain ⟨a2, b2, f2, g2⟩ := K2.out.all
  go_wp2_with (fail)
  obtain ⟨E0, E1, -, -⟩ := ((K2.out.set0 (.int .i64 p)).set1 (.int .i64 q)).all
  refine bodyPost_ret (v := .agg #[.int .i64 p, .int .i64 q]) (by simp [results, Tryd.results16, go_sem, E0, E1]) rfl ⟨p, q, rfl, ?_⟩
  exact (B2.out.setCell (Nat.le_refl _) _).setCell (Nat.le_refl _) _

set_option maxHeartbeats 1000000 in
theorem drawFM (w : World) (a : Option Addr) (len cap : Nat) (hc : CodeIn w a len) : Calls Tryd.prog 10 #[.slice a len cap] w (OneMatF w) := by
  have HC := Lib.hid hc
  clear hc
  go_enter Tryd.func10, Tryd.ntmps10
  go_wp2_with (fail)
  refine (l1New _ a len cap (HC.out.below ((Below.refl _ _).alloc (Nat.le_refl _) _))).mono ?_
  rintro e w1 ⟨cb, rfl, hcb, hc1, hb1⟩
  have CB : Hid (w.heap.size < cb) := by simp at hcb; exact hcb
  have K1 : Hid (Blk3 w1 w.heap.size 26 (.int .i64 0) (.int .i64 0) (.slice none 0 0)) := (Blk3.at_ _ _ _ _ rfl).keep hb1 (by simp)
  have C1 := Lib.hid hc1
  have B1 : Hid (Below w.heap.size w w1) := ((Below.refl _ _).alloc (Nat.le_refl _) _).trans (hb1.mono (by simp))
  clear hcb hc1 hb1
  go_wp2_with (fail)
  refine (l3Any w1 cb C1.out).mono ?_
  rintro e w2 ⟨r, c, v, xs, rfl, own, hl, hc2, hf⟩
  have l1 := K1.out.lt
  have K2 := Lib.hid (K1.out.frs hf (by have := CB.out; omega))
  have B2 : Hid (Below w.heap.size w w2) := Lib.hid (B1.out.trans (hf.below (fun k hk => by
    have := CB.out
    rcases hk with rfl | hk <;> omega) B1.out.size))
  have O2 : Hid (Own w1.heap.size w2 v xs) := Lib.hid (own.own (by omega))
  obtain ⟨q, qc, rfl, -, -⟩ := O2.out.form
  clear hc2 hf own
  obtain ⟨k0, k1, k2, f0, f1, f2⟩ := K2.out.all
  go_wp2_with (fail)
  obtain ⟨E0, E1, E2, -, -, -⟩ := (((K2.out.set0 (.int .i64 r)).set1 (.int .i64 c)).set2 (.slice q xs.length qc)).all
  refine bodyPost_ret (v := .agg #[.int .i64 r, .int .i64 c, .slice q xs.length qc]) (by simp [results, Tryd.results10, go_sem, E0, E1, E2]) rfl ⟨r, c, _, xs, rfl, ?_, hl, ?_⟩
  · exact (((O2.out.farD (by simp; omega) _).farD (by simp; omega) _).farD (by simp; omega) _).le (by omega)
  · exact ((B2.out.setCell (Nat.le_refl _) _).setCell (Nat.le_refl _) _).setCell (Nat.le_refl _) _
end Go.Proofs.YtihgcccdahmmmaaDoor
