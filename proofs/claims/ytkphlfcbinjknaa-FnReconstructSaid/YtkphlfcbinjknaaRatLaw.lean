/-
  Chapter 2, the laws' own helpers: a ratio carried over, two ratios held against each other.
-/
import Derived.Test.YtkphlfcbinjknaaRatS
import Derived.Deep.RegionHeld3
import Derived.Deep.DeepCutAuto
namespace Go.Proofs.Ytkphlfcbinjknaa
open Go.RowKit

theorem toRat (a b : Int) (w : World) : Calls Try.prog 15 #[.agg #[.int .i64 a, .int .i64 b]] w (Gives (.agg #[.int .i64 a, .int .i64 b]) w) := by
  go_enter Try.func15, Try.ntmps15
  go_wp2
  refine bodyPost_ret (v := .agg #[.int .i64 a, .int .i64 b]) (by simp [results, Try.results15, go_sem]) rfl ⟨rfl, ?_⟩
  repeat (first | exact Below.refl _ _ | refine Below.alloc ?_ (by simp <;> omega) _ | refine Below.setCell ?_ (by simp <;> omega) _)
theorem eqRat_t (a b : Int) (w : World) : Calls Try.prog 17 #[.agg #[.int .i64 a, .int .i64 b], .agg #[.int .i64 a, .int .i64 b]] w (Gives (.bool true) w) := by
  go_enter Try.func17, Try.ntmps17
  go_wp2
  go_ret
  exact ⟨rfl, ((Below.refl _ _).alloc (Nat.le_refl _) _).alloc (by simp) _⟩
/-- A cell stays. -/
theorem cellKeep {w w1 : World} {b o : Nat} {v : Value} (hb : Below w.heap.size w w1) (h : w.cell? ⟨b, o, none⟩ = some v) : w1.cell? ⟨b, o, none⟩ = some v :=
  (hb.cell (p := ⟨b, o, none⟩) (World.block_lt_of_cell? w _ h)).trans h
theorem cellLt {w : World} {b o : Nat} {v : Value} (h : w.cell? ⟨b, o, none⟩ = some v) : b < w.heap.size := World.block_lt_of_cell? w _ h
theorem keep4 {w w1 : World} {b c : Nat} {p q r s : Value} (hb : Below w.heap.size w w1)
    (h : w.cell? ⟨b, 0, none⟩ = some p ∧ w.cell? ⟨b, 1, none⟩ = some q ∧ w.cell? ⟨c, 0, none⟩ = some r ∧ w.cell? ⟨c, 1, none⟩ = some s) :
    w1.cell? ⟨b, 0, none⟩ = some p ∧ w1.cell? ⟨b, 1, none⟩ = some q ∧ w1.cell? ⟨c, 0, none⟩ = some r ∧ w1.cell? ⟨c, 1, none⟩ = some s :=
  ⟨cellKeep hb h.1, cellKeep hb h.2.1, cellKeep hb h.2.2.1, cellKeep hb h.2.2.2⟩
theorem keep2 {w w1 : World} {b : Nat} {p q : Value} (hb : Below w.heap.size w w1)
    (h : w.cell? ⟨b, 0, none⟩ = some p ∧ w.cell? ⟨b, 1, none⟩ = some q) : w1.cell? ⟨b, 0, none⟩ = some p ∧ w1.cell? ⟨b, 1, none⟩ = some q :=
  ⟨cellKeep hb h.1, cellKeep hb h.2⟩
theorem cellNew {w : World} {b o : Nat} {v : Value} (A B : Obj) (hb : b < w.heap.size) (h : (w.alloc A).cell? ⟨b, o, none⟩ = some v) : (w.alloc B).cell? ⟨b, o, none⟩ = some v := by
  have e : ∀ O : Obj, (w.alloc O).cell? ⟨b, o, none⟩ = w.cell? ⟨b, o, none⟩ := fun O => ((Below.refl w.heap.size w).alloc (Nat.le_refl _) O).cell (p := ⟨b, o, none⟩) hb
  rw [e] at h ⊢; exact h
theorem cellFar {w : World} {b o g i : Nat} {v : Value} (u : Value) (hb : b < g) (h : w.cell? ⟨b, o, none⟩ = some v) : (w.setCell ⟨g, i, none⟩ u).cell? ⟨b, o, none⟩ = some v :=
  (((Below.refl g w).setCell (Nat.le_refl _) u).cell (p := ⟨b, o, none⟩) hb).trans h
theorem keep4n {w : World} {A B : Obj} {b c : Nat} {p q r s : Value} (hb : b < w.heap.size) (hc : c < w.heap.size)
    (h : (w.alloc A).cell? ⟨b, 0, none⟩ = some p ∧ (w.alloc A).cell? ⟨b, 1, none⟩ = some q ∧ (w.alloc A).cell? ⟨c, 0, none⟩ = some r ∧ (w.alloc A).cell? ⟨c, 1, none⟩ = some s) :
    (w.alloc B).cell? ⟨b, 0, none⟩ = some p ∧ (w.alloc B).cell? ⟨b, 1, none⟩ = some q ∧ (w.alloc B).cell? ⟨c, 0, none⟩ = some r ∧ (w.alloc B).cell? ⟨c, 1, none⟩ = some s :=
  ⟨cellNew A B hb h.1, cellNew A B hb h.2.1, cellNew A B hc h.2.2.1, cellNew A B hc h.2.2.2⟩
theorem keep4s {w : World} {g b c : Nat} {x y p q r s : Value} (hb : b < g) (hc : c < g)
    (h : w.cell? ⟨b, 0, none⟩ = some p ∧ w.cell? ⟨b, 1, none⟩ = some q ∧ w.cell? ⟨c, 0, none⟩ = some r ∧ w.cell? ⟨c, 1, none⟩ = some s) :
    ((w.setCell ⟨g, 0, none⟩ x).setCell ⟨g, 1, none⟩ y).cell? ⟨b, 0, none⟩ = some p ∧ ((w.setCell ⟨g, 0, none⟩ x).setCell ⟨g, 1, none⟩ y).cell? ⟨b, 1, none⟩ = some q ∧
      ((w.setCell ⟨g, 0, none⟩ x).setCell ⟨g, 1, none⟩ y).cell? ⟨c, 0, none⟩ = some r ∧ ((w.setCell ⟨g, 0, none⟩ x).setCell ⟨g, 1, none⟩ y).cell? ⟨c, 1, none⟩ = some s :=
  ⟨cellFar y hb (cellFar x hb h.1), cellFar y hb (cellFar x hb h.2.1), cellFar y hc (cellFar x hc h.2.2.1), cellFar y hc (cellFar x hc h.2.2.2)⟩
theorem keep2n {w : World} {A B : Obj} {b : Nat} {p q : Value} (hb : b < w.heap.size) (h : (w.alloc A).cell? ⟨b, 0, none⟩ = some p ∧ (w.alloc A).cell? ⟨b, 1, none⟩ = some q) :
    (w.alloc B).cell? ⟨b, 0, none⟩ = some p ∧ (w.alloc B).cell? ⟨b, 1, none⟩ = some q := ⟨cellNew A B hb h.1, cellNew A B hb h.2⟩
theorem keep2s {w : World} {g b : Nat} {x y p q : Value} (hb : b < g) (h : w.cell? ⟨b, 0, none⟩ = some p ∧ w.cell? ⟨b, 1, none⟩ = some q) :
    ((w.setCell ⟨g, 0, none⟩ x).setCell ⟨g, 1, none⟩ y).cell? ⟨b, 0, none⟩ = some p ∧ ((w.setCell ⟨g, 0, none⟩ x).setCell ⟨g, 1, none⟩ y).cell? ⟨b, 1, none⟩ = some q :=
  ⟨cellFar y hb (cellFar x hb h.1), cellFar y hb (cellFar x hb h.2)⟩
theorem fin4 {w W0 wx : World} {b c g : Nat} {L T : TypeId} {p q r s x y : Value} (A0 : Blk2 W0 b L p q) (A1 : Blk2 W0 c L r s) (B0 : Below w.heap.size w W0) (B : Below W0.heap.size W0 wx) (K : Blk2 wx g T x y) :
    Blk2 wx b L p q ∧ Blk2 wx c L r s ∧ Blk2 wx g T x y ∧ Below w.heap.size w wx := ⟨A0.keep B A0.lt, A1.keep B A1.lt, K, B0.trans (B.mono B0.size)⟩
theorem fin2 {w W0 wx : World} {b g : Nat} {L T : TypeId} {p q x y : Value} (A0 : Blk2 W0 b L p q) (B0 : Below w.heap.size w W0) (B : Below W0.heap.size W0 wx) (K : Blk2 wx g T x y) :
    Blk2 wx b L p q ∧ Blk2 wx g T x y ∧ Below w.heap.size w wx := ⟨A0.keep B A0.lt, K, B0.trans (B.mono B0.size)⟩
theorem finT {w W0 wx : World} {h g : Nat} {T : TypeId} {p q x y : Value} (A0 : Blk2 W0 g T p q) (B0 : Below w.heap.size w W0) (B : Below W0.heap.size W0 wx) (K : Blk2 wx h T x y) :
    Blk2 wx g T p q ∧ Blk2 wx h T x y ∧ Below w.heap.size w wx := ⟨A0.keep B A0.lt, K, B0.trans (B.mono B0.size)⟩
theorem keep6 {w w1 : World} {b c d : Nat} {p q r s t u : Value} (hb : Below w.heap.size w w1)
    (h : w.cell? ⟨b, 0, none⟩ = some p ∧ w.cell? ⟨b, 1, none⟩ = some q ∧ w.cell? ⟨c, 0, none⟩ = some r ∧ w.cell? ⟨c, 1, none⟩ = some s ∧ w.cell? ⟨d, 0, none⟩ = some t ∧ w.cell? ⟨d, 1, none⟩ = some u) :
    w1.cell? ⟨b, 0, none⟩ = some p ∧ w1.cell? ⟨b, 1, none⟩ = some q ∧ w1.cell? ⟨c, 0, none⟩ = some r ∧ w1.cell? ⟨c, 1, none⟩ = some s ∧ w1.cell? ⟨d, 0, none⟩ = some t ∧ w1.cell? ⟨d, 1, none⟩ = some u :=
  ⟨cellKeep hb h.1, cellKeep hb h.2.1, cellKeep hb h.2.2.1, cellKeep hb h.2.2.2.1, cellKeep hb h.2.2.2.2.1, cellKeep hb h.2.2.2.2.2⟩
theorem keep8 {w w1 : World} {b c d e : Nat} {p q r s t u x y : Value} (hb : Below w.heap.size w w1)
    (h : w.cell? ⟨b, 0, none⟩ = some p ∧ w.cell? ⟨b, 1, none⟩ = some q ∧ w.cell? ⟨c, 0, none⟩ = some r ∧ w.cell? ⟨c, 1, none⟩ = some s ∧ w.cell? ⟨d, 0, none⟩ = some t ∧ w.cell? ⟨d, 1, none⟩ = some u ∧ w.cell? ⟨e, 0, none⟩ = some x ∧ w.cell? ⟨e, 1, none⟩ = some y) :
    w1.cell? ⟨b, 0, none⟩ = some p ∧ w1.cell? ⟨b, 1, none⟩ = some q ∧ w1.cell? ⟨c, 0, none⟩ = some r ∧ w1.cell? ⟨c, 1, none⟩ = some s ∧ w1.cell? ⟨d, 0, none⟩ = some t ∧ w1.cell? ⟨d, 1, none⟩ = some u ∧ w1.cell? ⟨e, 0, none⟩ = some x ∧ w1.cell? ⟨e, 1, none⟩ = some y :=
  ⟨cellKeep hb h.1, cellKeep hb h.2.1, cellKeep hb h.2.2.1, cellKeep hb h.2.2.2.1, cellKeep hb h.2.2.2.2.1, cellKeep hb h.2.2.2.2.2.1, cellKeep hb h.2.2.2.2.2.2.1, cellKeep hb h.2.2.2.2.2.2.2⟩
/-- Four ratios lie in four blocks. -/
def Four (w : World) (T : TypeId) (b c d e : Nat) (p q r s x y u v : Int) : Prop := Blk2 w b T (.int .i64 p) (.int .i64 q) ∧ Blk2 w c T (.int .i64 r) (.int .i64 s) ∧ Blk2 w d T (.int .i64 x) (.int .i64 y) ∧ Blk2 w e T (.int .i64 u) (.int .i64 v)
theorem Four.keep {w w1 : World} {T : TypeId} {b c d e : Nat} {p q r s x y u v : Int} (h : Four w T b c d e p q r s x y u v) (hb : Below w.heap.size w w1) : Four w1 T b c d e p q r s x y u v :=
  ⟨h.1.keep hb h.1.lt, h.2.1.keep hb h.2.1.lt, h.2.2.1.keep hb h.2.2.1.lt, h.2.2.2.keep hb h.2.2.2.lt⟩
theorem Four.cells {w : World} {T : TypeId} {b c d e : Nat} {p q r s x y u v : Int} (h : Four w T b c d e p q r s x y u v) :
    w.cell? ⟨b, 0, none⟩ = some (.int .i64 p) ∧ w.cell? ⟨b, 1, none⟩ = some (.int .i64 q) ∧ w.cell? ⟨c, 0, none⟩ = some (.int .i64 r) ∧ w.cell? ⟨c, 1, none⟩ = some (.int .i64 s) ∧ w.cell? ⟨d, 0, none⟩ = some (.int .i64 x) ∧ w.cell? ⟨d, 1, none⟩ = some (.int .i64 y) ∧
      w.cell? ⟨e, 0, none⟩ = some (.int .i64 u) ∧ w.cell? ⟨e, 1, none⟩ = some (.int .i64 v) :=
  ⟨h.1.cell0, h.1.cell1, h.2.1.cell0, h.2.1.cell1, h.2.2.1.cell0, h.2.2.1.cell1, h.2.2.2.cell0, h.2.2.2.cell1⟩
theorem fourEnd {w W wx : World} {T : TypeId} {b c d e : Nat} {p q r s x y u v : Int} (h : Four W T b c d e p q r s x y u v) (B : Below w.heap.size w W) (hb : Below W.heap.size W wx) :
    Four wx T b c d e p q r s x y u v ∧ Below w.heap.size w wx := ⟨h.keep hb, B.trans (hb.mono B.size)⟩
end Go.Proofs.Ytkphlfcbinjknaa
