/-
  A block of four cells.
-/
import Derived.Test.YtpelnfenfeoeeaaMem
namespace Go.Proofs.Ytpelnfenfeoeeaa
open Go.RowKit

/-- A block of four cells, none of them frozen. -/
def Blk4 (w : World) (b : Nat) (t : TypeId) (p q r s : Value) : Prop := w.heap[b]? = some (.cells #[p, q, r, s] t (0, 0))
theorem Blk4.cell0 {w : World} {b : Nat} {t : TypeId} {p q r s : Value} (h : Blk4 w b t p q r s) : w.cell? ⟨b, 0, none⟩ = some p := by unfold Blk4 at h; simp [World.cell?, h]
theorem Blk4.cell1 {w : World} {b : Nat} {t : TypeId} {p q r s : Value} (h : Blk4 w b t p q r s) : w.cell? ⟨b, 1, none⟩ = some q := by unfold Blk4 at h; simp [World.cell?, h]
theorem Blk4.cell2 {w : World} {b : Nat} {t : TypeId} {p q r s : Value} (h : Blk4 w b t p q r s) : w.cell? ⟨b, 2, none⟩ = some r := by unfold Blk4 at h; simp [World.cell?, h]
theorem Blk4.cell3 {w : World} {b : Nat} {t : TypeId} {p q r s : Value} (h : Blk4 w b t p q r s) : w.cell? ⟨b, 3, none⟩ = some s := by unfold Blk4 at h; simp [World.cell?, h]
theorem Blk4.free {w : World} {b : Nat} {t : TypeId} {p q r s : Value} (h : Blk4 w b t p q r s) (o : Nat) : w.frozen? ⟨b, o, none⟩ = false := by unfold Blk4 at h; simp [World.frozen?, h]
theorem Blk4.lt {w : World} {b : Nat} {t : TypeId} {p q r s : Value} (h : Blk4 w b t p q r s) : b < w.heap.size := lt_of_block h
theorem Blk4.all {w : World} {b : Nat} {t : TypeId} {p q r s : Value} (h : Blk4 w b t p q r s) : w.cell? ⟨b, 0, none⟩ = some p ∧ w.cell? ⟨b, 1, none⟩ = some q ∧ w.cell? ⟨b, 2, none⟩ = some r ∧ w.cell? ⟨b, 3, none⟩ = some s :=
  ⟨h.cell0, h.cell1, h.cell2, h.cell3⟩
theorem Blk4.keep {w : World} {b : Nat} {t : TypeId} {p q r s : Value} (h : Blk4 w b t p q r s) {w' : World} {B : Nat} (hb : Below B w w') (hB : b < B) : Blk4 w' b t p q r s := (hb.block b hB).trans h
theorem Blk4.step {w : World} {b : Nat} {t : TypeId} {p q r s : Value} (h : Blk4 w b t p q r s) {w' : World} (hb : Below w.heap.size w w') : Blk4 w' b t p q r s := h.keep hb h.lt
theorem Blk4.at_ {w : World} {b : Nat} (t : TypeId) (p q r s : Value) (hb : b = w.heap.size) : Blk4 (w.alloc (.cells #[p, q, r, s] t)) b t p q r s := by
  subst hb; unfold Blk4; show (w.heap.push _)[w.heap.size]? = _
  rw [Array.getElem?_push, if_pos rfl]
theorem Blk4.old {w : World} {b : Nat} {t : TypeId} {p q r s : Value} (h : Blk4 w b t p q r s) (o : Obj) : Blk4 (w.alloc o) b t p q r s := (Below.heap_alloc w o b h.lt).trans h
theorem Blk4.keepOne {w : World} {b : Nat} {t : TypeId} {p q r s : Value} (h : Blk4 w b t p q r s) {w' : World} {c : Nat} (hg : w.grownBy w' (some c)) (hne : b ≠ c) : Blk4 w' b t p q r s := (hg.block b h.lt (by simpa using hne)).trans h
end Go.Proofs.Ytpelnfenfeoeeaa
