/-
  Small facts on worlds that all walks of this seat use: a block of three cells; what stays as it was; four results. No program is imported.
-/
import Derived.WalkKit
import Derived.OneCell
import Derived.WalkSmall
import Derived.Maps.AppendAt
import Derived.Lib.Hide
namespace Go.Proofs.Ytpelnfenfeoeeaa
open Go.RowKit

/-- A value is returned; of what was there nothing has changed. -/
def Gives (v : Value) (w : World) (e : Ending) (w' : World) : Prop := e = .returned v ∧ Below w.heap.size w w'

/-- A function with four results hands back what its four slots hold. -/
theorem retFour {fn : Func} {i j k l : Tmp} (hr : fn.results = #[.tmp i, .tmp j, .tmp k, .tmp l]) (ts : Array Value) (P : Program) (w : World) :
    (results fn ts).run P w = .ok (.tuple #[ts.getD i undef, ts.getD j undef, ts.getD k undef, ts.getD l undef]) w := by
  simp [results, hr]

theorem bcell {W w1 : World} (hb : Below W.heap.size W w1) : (∀ b o, b < W.heap.size → w1.cell? ⟨b, o, none⟩ = W.cell? ⟨b, o, none⟩) ∧ (∀ b o, b < W.heap.size → w1.frozen? ⟨b, o, none⟩ = W.frozen? ⟨b, o, none⟩) :=
  ⟨fun b o h => hb.cell (p := ⟨b, o, none⟩) h, fun b o h => hb.frozen (p := ⟨b, o, none⟩) h⟩

/-- A block of three cells, none of them frozen. -/
def Blk3 (w : World) (b : Nat) (t : TypeId) (p q r : Value) : Prop := w.heap[b]? = some (.cells #[p, q, r] t (0, 0))
theorem Blk3.cell0 {w : World} {b : Nat} {t : TypeId} {p q r : Value} (h : Blk3 w b t p q r) : w.cell? ⟨b, 0, none⟩ = some p := by unfold Blk3 at h; simp [World.cell?, h]
theorem Blk3.cell1 {w : World} {b : Nat} {t : TypeId} {p q r : Value} (h : Blk3 w b t p q r) : w.cell? ⟨b, 1, none⟩ = some q := by unfold Blk3 at h; simp [World.cell?, h]
theorem Blk3.cell2 {w : World} {b : Nat} {t : TypeId} {p q r : Value} (h : Blk3 w b t p q r) : w.cell? ⟨b, 2, none⟩ = some r := by unfold Blk3 at h; simp [World.cell?, h]
theorem Blk3.free {w : World} {b : Nat} {t : TypeId} {p q r : Value} (h : Blk3 w b t p q r) (o : Nat) : w.frozen? ⟨b, o, none⟩ = false := by unfold Blk3 at h; simp [World.frozen?, h]
theorem Blk3.lt {w : World} {b : Nat} {t : TypeId} {p q r : Value} (h : Blk3 w b t p q r) : b < w.heap.size := lt_of_block h
theorem Blk3.all {w : World} {b : Nat} {t : TypeId} {p q r : Value} (h : Blk3 w b t p q r) : w.cell? ⟨b, 0, none⟩ = some p ∧ w.cell? ⟨b, 1, none⟩ = some q ∧ w.cell? ⟨b, 2, none⟩ = some r ∧ w.frozen? ⟨b, 0, none⟩ = false ∧ w.frozen? ⟨b, 1, none⟩ = false ∧ w.frozen? ⟨b, 2, none⟩ = false :=
  ⟨h.cell0, h.cell1, h.cell2, h.free 0, h.free 1, h.free 2⟩
theorem Blk3.set0 {w : World} {b : Nat} {t : TypeId} {p q r : Value} (h : Blk3 w b t p q r) (u : Value) : Blk3 (w.setCell ⟨b, 0, none⟩ u) b t u q r := by
  have hlt := h.lt
  unfold Blk3 at h ⊢
  have h' : w.heap[b] = .cells #[p, q, r] t (0, 0) := by simpa [Array.getElem?_eq_getElem hlt] using h
  show (w.heap.modify b _)[b]? = _
  rw [Array.getElem?_eq_getElem (by simpa using hlt), Array.getElem_modify_self, h']
  rfl
theorem Blk3.set1 {w : World} {b : Nat} {t : TypeId} {p q r : Value} (h : Blk3 w b t p q r) (u : Value) : Blk3 (w.setCell ⟨b, 1, none⟩ u) b t p u r := by
  have hlt := h.lt
  unfold Blk3 at h ⊢
  have h' : w.heap[b] = .cells #[p, q, r] t (0, 0) := by simpa [Array.getElem?_eq_getElem hlt] using h
  show (w.heap.modify b _)[b]? = _
  rw [Array.getElem?_eq_getElem (by simpa using hlt), Array.getElem_modify_self, h']
  rfl
theorem Blk3.set2 {w : World} {b : Nat} {t : TypeId} {p q r : Value} (h : Blk3 w b t p q r) (u : Value) : Blk3 (w.setCell ⟨b, 2, none⟩ u) b t p q u := by
  have hlt := h.lt
  unfold Blk3 at h ⊢
  have h' : w.heap[b] = .cells #[p, q, r] t (0, 0) := by simpa [Array.getElem?_eq_getElem hlt] using h
  show (w.heap.modify b _)[b]? = _
  rw [Array.getElem?_eq_getElem (by simpa using hlt), Array.getElem_modify_self, h']
  rfl
theorem Blk3.far {w : World} {b : Nat} {t : TypeId} {p q r : Value} (h : Blk3 w b t p q r) {a : Addr} (ha : b ≠ a.block) (u : Value) : Blk3 (w.setCell a u) b t p q r := (Below.heap_setCell w a u b ha).trans h
theorem Blk3.keep {w w' : World} {b B : Nat} {t : TypeId} {p q r : Value} (h : Blk3 w b t p q r) (hb : Below B w w') (hB : b < B) : Blk3 w' b t p q r := (hb.block b hB).trans h
theorem Blk3.drewN {w : World} {b : Nat} {t : TypeId} {p q r : Value} (h : Blk3 w b t p q r) (n : Nat) : Blk3 (w.drewN n) b t p q r := h
theorem Blk3.new (w : World) (t : TypeId) (p q r : Value) : Blk3 (w.alloc (.cells #[p, q, r] t)) w.heap.size t p q r := by
  unfold Blk3; show (w.heap.push _)[w.heap.size]? = _
  rw [Array.getElem?_push, if_pos rfl]
theorem Blk3.at_ {w : World} {b : Nat} (t : TypeId) (p q r : Value) (hb : b = w.heap.size) : Blk3 (w.alloc (.cells #[p, q, r] t)) b t p q r := by
  subst hb; exact Blk3.new w t p q r
theorem Blk3.drew {w : World} {b : Nat} {t : TypeId} {p q r : Value} (h : Blk3 w b t p q r) : Blk3 w.drew b t p q r := h
theorem Blk3.old {w : World} {b : Nat} {t : TypeId} {p q r : Value} (h : Blk3 w b t p q r) (o : Obj) : Blk3 (w.alloc o) b t p q r := (Below.heap_alloc w o b h.lt).trans h


/-- A block of two cells, none of them frozen. -/
def Blk2 (w : World) (b : Nat) (t : TypeId) (p q : Value) : Prop := w.heap[b]? = some (.cells #[p, q] t (0, 0))
theorem Blk2.cell0 {w : World} {b : Nat} {t : TypeId} {p q : Value} (h : Blk2 w b t p q) : w.cell? ⟨b, 0, none⟩ = some p := by unfold Blk2 at h; simp [World.cell?, h]
theorem Blk2.cell1 {w : World} {b : Nat} {t : TypeId} {p q : Value} (h : Blk2 w b t p q) : w.cell? ⟨b, 1, none⟩ = some q := by unfold Blk2 at h; simp [World.cell?, h]
theorem Blk2.free {w : World} {b : Nat} {t : TypeId} {p q : Value} (h : Blk2 w b t p q) (o : Nat) : w.frozen? ⟨b, o, none⟩ = false := by unfold Blk2 at h; simp [World.frozen?, h]
theorem Blk2.lt {w : World} {b : Nat} {t : TypeId} {p q : Value} (h : Blk2 w b t p q) : b < w.heap.size := lt_of_block h
theorem Blk2.all {w : World} {b : Nat} {t : TypeId} {p q : Value} (h : Blk2 w b t p q) : w.cell? ⟨b, 0, none⟩ = some p ∧ w.cell? ⟨b, 1, none⟩ = some q ∧ w.frozen? ⟨b, 0, none⟩ = false ∧ w.frozen? ⟨b, 1, none⟩ = false :=
  ⟨h.cell0, h.cell1, h.free 0, h.free 1⟩
theorem Blk2.set0 {w : World} {b : Nat} {t : TypeId} {p q : Value} (h : Blk2 w b t p q) (u : Value) : Blk2 (w.setCell ⟨b, 0, none⟩ u) b t u q := by
  have hlt := h.lt
  unfold Blk2 at h ⊢
  have h' : w.heap[b] = .cells #[p, q] t (0, 0) := by simpa [Array.getElem?_eq_getElem hlt] using h
  show (w.heap.modify b _)[b]? = _
  rw [Array.getElem?_eq_getElem (by simpa using hlt), Array.getElem_modify_self, h']
  rfl
theorem Blk2.set1 {w : World} {b : Nat} {t : TypeId} {p q : Value} (h : Blk2 w b t p q) (u : Value) : Blk2 (w.setCell ⟨b, 1, none⟩ u) b t p u := by
  have hlt := h.lt
  unfold Blk2 at h ⊢
  have h' : w.heap[b] = .cells #[p, q] t (0, 0) := by simpa [Array.getElem?_eq_getElem hlt] using h
  show (w.heap.modify b _)[b]? = _
  rw [Array.getElem?_eq_getElem (by simpa using hlt), Array.getElem_modify_self, h']
  rfl
theorem Blk2.far {w : World} {b : Nat} {t : TypeId} {p q : Value} (h : Blk2 w b t p q) {a : Addr} (ha : b ≠ a.block) (u : Value) : Blk2 (w.setCell a u) b t p q := (Below.heap_setCell w a u b ha).trans h
theorem Blk2.keep {w w' : World} {b B : Nat} {t : TypeId} {p q : Value} (h : Blk2 w b t p q) (hb : Below B w w') (hB : b < B) : Blk2 w' b t p q := (hb.block b hB).trans h
theorem Blk2.drewN {w : World} {b : Nat} {t : TypeId} {p q : Value} (h : Blk2 w b t p q) (n : Nat) : Blk2 (w.drewN n) b t p q := h
theorem Blk2.drew {w : World} {b : Nat} {t : TypeId} {p q : Value} (h : Blk2 w b t p q) : Blk2 w.drew b t p q := h
theorem Blk2.at_ {w : World} {b : Nat} (t : TypeId) (p q : Value) (hb : b = w.heap.size) : Blk2 (w.alloc (.cells #[p, q] t)) b t p q := by
  subst hb; unfold Blk2; show (w.heap.push _)[w.heap.size]? = _
  rw [Array.getElem?_push, if_pos rfl]
theorem Blk2.old {w : World} {b : Nat} {t : TypeId} {p q : Value} (h : Blk2 w b t p q) (o : Obj) : Blk2 (w.alloc o) b t p q := (Below.heap_alloc w o b h.lt).trans h

/-! ### Only one block has changed -/
theorem grown_drewN_one {w w' : World} {row : Option Nat} (h : w.grownBy w' row) (n : Nat) : w.grownBy (w'.drewN n) row := ⟨h.os, h.tape, h.output, h.size, h.block⟩
theorem grown_drew_one {w w' : World} {row : Option Nat} (h : w.grownBy w' row) : w.grownBy w'.drew row := ⟨h.os, h.tape, h.output, h.size, h.block⟩
theorem grown_set_one {w w' : World} {b : Nat} (h : w.grownBy w' (some b)) {a : Addr} (ha : a.block = b) (u : Value) : w.grownBy (w'.setCell a u) (some b) :=
  ⟨h.os, h.tape, h.output, by simpa [World.setCell] using h.size, fun k hk hne => (Below.heap_setCell w' a u k (by rintro rfl; exact hne (by rw [ha]))).trans (h.block k hk hne)⟩
theorem below_of_one {w w' : World} {b B : Nat} (h : w.grownBy w' (some b)) (hB : B ≤ b) (hw : B ≤ w.heap.size) : Below B w w' :=
  ⟨h.os, h.tape, h.output, h.size, fun k hk => h.block k (by omega) (by simp; omega)⟩
theorem Blk3.keepOne {w w' : World} {b c : Nat} {t : TypeId} {p q r : Value} (h : Blk3 w b t p q r) (hg : w.grownBy w' (some c)) (hne : b ≠ c) : Blk3 w' b t p q r :=
  (hg.block b h.lt (by simpa using hne)).trans h

theorem Blk2.keepOne {w w' : World} {b c : Nat} {t : TypeId} {p q : Value} (h : Blk2 w b t p q) (hg : w.grownBy w' (some c)) (hne : b ≠ c) : Blk2 w' b t p q :=
  (hg.block b h.lt (by simpa using hne)).trans h
theorem grown_of_below {w w' : World} (h : Below w.heap.size w w') (row : Option Nat) : w.grownBy w' row := ⟨h.os, h.tape, h.output, h.size, fun k hk _ => h.block k hk⟩
theorem grown_set_new {w w' : World} {row : Option Nat} (h : w.grownBy w' row) {a : Addr} (ha : w.heap.size ≤ a.block) (u : Value) : w.grownBy (w'.setCell a u) row :=
  ⟨h.os, h.tape, h.output, by simpa [World.setCell] using h.size, fun k hk hne => (Below.heap_setCell w' a u k (by omega)).trans (h.block k hk hne)⟩
end Go.Proofs.Ytpelnfenfeoeeaa
