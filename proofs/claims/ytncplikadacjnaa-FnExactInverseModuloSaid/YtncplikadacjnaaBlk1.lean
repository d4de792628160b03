/-
  A block of one cell. No function of the program is named.
-/
import Derived.Test.YtncplikadacjnaaBlk
namespace Go.Proofs.Ytncplikadacjnaa
open Go.RowKit

/-- A block of one cell, not frozen. -/
def Blk1 (w : World) (b : Nat) (t : TypeId) (p : Value) : Prop := w.heap[b]? = some (.cells #[p] t (0, 0))
theorem Blk1.cell0 {w : World} {b : Nat} {t : TypeId} {p : Value} (h : Blk1 w b t p) : w.cell? ⟨b, 0, none⟩ = some p := by unfold Blk1 at h; simp [World.cell?, h]
theorem Blk1.free {w : World} {b : Nat} {t : TypeId} {p : Value} (h : Blk1 w b t p) (o : Nat) : w.frozen? ⟨b, o, none⟩ = false := by unfold Blk1 at h; simp [World.frozen?, h]
theorem Blk1.lt {w : World} {b : Nat} {t : TypeId} {p : Value} (h : Blk1 w b t p) : b < w.heap.size := lt_of_block h
theorem Blk1.set0 {w : World} {b : Nat} {t : TypeId} {p : Value} (h : Blk1 w b t p) (u : Value) : Blk1 (w.setCell ⟨b, 0, none⟩ u) b t u := by
  have hlt := h.lt
  unfold Blk1 at h ⊢
  have h' : w.heap[b] = .cells #[p] t (0, 0) := by simpa [Array.getElem?_eq_getElem hlt] using h
  show (w.heap.modify b _)[b]? = _
  rw [Array.getElem?_eq_getElem (by simpa using hlt), Array.getElem_modify_self, h']
  rfl
theorem Blk1.far {w : World} {b : Nat} {t : TypeId} {p : Value} (h : Blk1 w b t p) {a : Addr} (ha : b ≠ a.block) (u : Value) : Blk1 (w.setCell a u) b t p := (Below.heap_setCell w a u b ha).trans h
theorem Blk1.keep {w w' : World} {b B : Nat} {t : TypeId} {p : Value} (h : Blk1 w b t p) (hb : Below B w w') (hB : b < B) : Blk1 w' b t p := (hb.block b hB).trans h
theorem Blk1.drewN {w : World} {b : Nat} {t : TypeId} {p : Value} (h : Blk1 w b t p) (n : Nat) : Blk1 (w.drewN n) b t p := h
theorem Blk1.drew {w : World} {b : Nat} {t : TypeId} {p : Value} (h : Blk1 w b t p) : Blk1 w.drew b t p := h
theorem Blk1.at_ {w : World} {b : Nat} (t : TypeId) (p : Value) (hb : b = w.heap.size) : Blk1 (w.alloc (.cells #[p] t)) b t p := by
  subst hb; unfold Blk1; show (w.heap.push _)[w.heap.size]? = _
  rw [Array.getElem?_push, if_pos rfl]
theorem Blk1.old {w : World} {b : Nat} {t : TypeId} {p : Value} (h : Blk1 w b t p) (o : Obj) : Blk1 (w.alloc o) b t p := (Below.heap_alloc w o b h.lt).trans h
theorem Blk1.keepOne {w w' : World} {b c : Nat} {t : TypeId} {p : Value} (h : Blk1 w b t p) (hg : w.grownBy w' (some c)) (hne : b ≠ c) : Blk1 w' b t p :=
  (hg.block b h.lt (by simpa using hne)).trans h
end Go.Proofs.Ytncplikadacjnaa
