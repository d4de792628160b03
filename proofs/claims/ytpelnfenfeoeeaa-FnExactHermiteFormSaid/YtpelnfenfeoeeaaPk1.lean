/-
  Texts of this seat, joined: Blk · Ints · NumIs · LawInts · LawMat · MatMath · MatS · Mem · SumMath · Det1 · Spn · LatM · Blk4 · RowS · RowMath
-/
import Derived.WalkKit
import Derived.OneCell
import Derived.WalkSmall
import Derived.Maps.AppendAt
import Derived.Lib.Hide
import Derived.Test.YtpelnfenfeoeeaaRows
import Derived.Deep.OwnRows
import Derived.KernelRfl
import Derived.BigQuiet
import Derived.Deep.QuietTactic
import Derived.Deep.LoopGhost
import Derived.IntWalk

section
/-
  Small facts on worlds that all walks of this seat use: a block of three cells; what stays as it was; four results. No program is imported.
-/
namespace Go.Proofs.Ytpelnfenfeoeeaa
open Go.RowKit

/-- A value is returned; of what was there nothing has changed. -/
def Gives (v : Value) (w : World) (e : Ending) (w' : World) : Prop := e = .returned v ∧ Below w.heap.size w w'

/-- A function with four results hands back what its four slots hold. -/
theorem retFour {fn : Func} {i j k l : Tmp} (hr : fn.results = #[.tmp i, .tmp j, .tmp k, .tmp l]) (ts : Array Value) (P : Program) (w : World) :
    (results fn ts).run P w = .ok (.tuple #[ts.getD i undef, ts.getD j undef, ts.getD k undef, ts.getD l undef]) w := by
  simp [results, hr]

theorem bcell {W w1 : World} (hb : Below W.heap.size W w1) : (∀ b o, b < W.heap.size → w1.cell? ⟨b, o, none⟩ = W.cell? ⟨b, o, none⟩) ∧ (∀ b o, b < W.heap.size → w1.frozen? ⟨b, o, none⟩ = W.frozen? ⟨b, o, none⟩) :=
  ⟨fun b o h => hb.cell (p := ⟨b, o, none⟩) h, fun b o h => hb.frozen (p := ⟨b, o, none⟩) h⟩

/-- A block of three cells, none of them frozen. -/
def Blk3 (w : World) (b : Nat) (t : TypeId) (p q r : Value) : Prop := w.heap[b]? = some (.cells #[p, q, r] t (0, 0))
theorem Blk3.cell0 {w : World} {b : Nat} {t : TypeId} {p q r : Value} (h : Blk3 w b t p q r) : w.cell? ⟨b, 0, none⟩ = some p := by unfold Blk3 at h; simp [World.cell?, h]
theorem Blk3.cell1 {w : World} {b : Nat} {t : TypeId} {p q r : Value} (h : Blk3 w b t p q r) : w.cell? ⟨b, 1, none⟩ = some q := by unfold Blk3 at h; simp [World.cell?, h]
theorem Blk3.cell2 {w : World} {b : Nat} {t : TypeId} {p q r : Value} (h : Blk3 w b t p q r) : w.cell? ⟨b, 2, none⟩ = some r := by unfold Blk3 at h; simp [World.cell?, h]
theorem Blk3.free {w : World} {b : Nat} {t : TypeId} {p q r : Value} (h : Blk3 w b t p q r) (o : Nat) : w.frozen? ⟨b, o, none⟩ = false := by unfold Blk3 at h; simp [World.frozen?, h]
theorem Blk3.lt {w : World} {b : Nat} {t : TypeId} {p q r : Value} (h : Blk3 w b t p q r) : b < w.heap.size := lt_of_block h
theorem Blk3.all {w : World} {b : Nat} {t : TypeId} {p q r : Value} (h : Blk3 w b t p q r) : w.cell? ⟨b, 0, none⟩ = some p ∧ w.cell? ⟨b, 1, none⟩ = some q ∧ w.cell? ⟨b, 2, none⟩ = some r ∧ w.frozen? ⟨b, 0, none⟩ = false ∧ w.frozen? ⟨b, 1, none⟩ = false ∧ w.frozen? ⟨b, 2, none⟩ = false :=
  ⟨h.cell0, h.cell1, h.cell2, h.free 0, h.free 1, h.free 2⟩
theorem Blk3.set0 {w : World} {b : Nat} {t : TypeId} {p q r : Value} (h : Blk3 w b t p q r) (u : Value) : Blk3 (w.setCell ⟨b, 0, none⟩ u) b t u q r := by
  have hlt := h.lt
  unfold Blk3 at h ⊢
  have h' : w.heap[b] = .cells #[p, q, r] t (0, 0) := by simpa [Array.getElem?_eq_getElem hlt] using h
  show (w.heap.modify b _)[b]? = _
  rw [Array.getElem?_eq_getElem (by simpa using hlt), Array.getElem_modify_self, h']
  rfl
theorem Blk3.set1 {w : World} {b : Nat} {t : TypeId} {p q r : Value} (h : Blk3 w b t p q r) (u : Value) : Blk3 (w.setCell ⟨b, 1, none⟩ u) b t p u r := by
  have hlt := h.lt
  unfold Blk3 at h ⊢
  have h' : w.heap[b] = .cells #[p, q, r] t (0, 0) := by simpa [Array.getElem?_eq_getElem hlt] using h
  show (w.heap.modify b _)[b]? = _
  rw [Array.getElem?_eq_getElem (by simpa using hlt), Array.getElem_modify_self, h']
  rfl
theorem Blk3.set2 {w : World} {b : Nat} {t : TypeId} {p q r : Value} (h : Blk3 w b t p q r) (u : Value) : Blk3 (w.setCell ⟨b, 2, none⟩ u) b t p q u := by
  have hlt := h.lt
  unfold Blk3 at h ⊢
  have h' : w.heap[b] = .cells #[p, q, r] t (0, 0) := by simpa [Array.getElem?_eq_getElem hlt] using h
  show (w.heap.modify b _)[b]? = _
  rw [Array.getElem?_eq_getElem (by simpa using hlt), Array.getElem_modify_self, h']
  rfl
theorem Blk3.far {w : World} {b : Nat} {t : TypeId} {p q r : Value} (h : Blk3 w b t p q r) {a : Addr} (ha : b ≠ a.block) (u : Value) : Blk3 (w.setCell a u) b t p q r := (Below.heap_setCell w a u b ha).trans h
theorem Blk3.keep {w w' : World} {b B : Nat} {t : TypeId} {p q r : Value} (h : Blk3 w b t p q r) (hb : Below B w w') (hB : b < B) : Blk3 w' b t p q r := (hb.block b hB).trans h
theorem Blk3.drewN {w : World} {b : Nat} {t : TypeId} {p q r : Value} (h : Blk3 w b t p q r) (n : Nat) : Blk3 (w.drewN n) b t p q r := h
theorem Blk3.new (w : World) (t : TypeId) (p q r : Value) : Blk3 (w.alloc (.cells #[p, q, r] t)) w.heap.size t p q r := by
  unfold Blk3; show (w.heap.push _)[w.heap.size]? = _
  rw [Array.getElem?_push, if_pos rfl]
theorem Blk3.at_ {w : World} {b : Nat} (t : TypeId) (p q r : Value) (hb : b = w.heap.size) : Blk3 (w.alloc (.cells #[p, q, r] t)) b t p q r := by
  subst hb; exact Blk3.new w t p q r
theorem Blk3.drew {w : World} {b : Nat} {t : TypeId} {p q r : Value} (h : Blk3 w b t p q r) : Blk3 w.drew b t p q r := h
theorem Blk3.old {w : World} {b : Nat} {t : TypeId} {p q r : Value} (h : Blk3 w b t p q r) (o : Obj) : Blk3 (w.alloc o) b t p q r := (Below.heap_alloc w o b h.lt).trans h


/-- A block of two cells, none of them frozen. -/
def Blk2 (w : World) (b : Nat) (t : TypeId) (p q : Value) : Prop := w.heap[b]? = some (.cells #[p, q] t (0, 0))
theorem Blk2.cell0 {w : World} {b : Nat} {t : TypeId} {p q : Value} (h : Blk2 w b t p q) : w.cell? ⟨b, 0, none⟩ = some p := by unfold Blk2 at h; simp [World.cell?, h]
theorem Blk2.cell1 {w : World} {b : Nat} {t : TypeId} {p q : Value} (h : Blk2 w b t p q) : w.cell? ⟨b, 1, none⟩ = some q := by unfold Blk2 at h; simp [World.cell?, h]
theorem Blk2.free {w : World} {b : Nat} {t : TypeId} {p q : Value} (h : Blk2 w b t p q) (o : Nat) : w.frozen? ⟨b, o, none⟩ = false := by unfold Blk2 at h; simp [World.frozen?, h]
theorem Blk2.lt {w : World} {b : Nat} {t : TypeId} {p q : Value} (h : Blk2 w b t p q) : b < w.heap.size := lt_of_block h
theorem Blk2.all {w : World} {b : Nat} {t : TypeId} {p q : Value} (h : Blk2 w b t p q) : w.cell? ⟨b, 0, none⟩ = some p ∧ w.cell? ⟨b, 1, none⟩ = some q ∧ w.frozen? ⟨b, 0, none⟩ = false ∧ w.frozen? ⟨b, 1, none⟩ = false :=
  ⟨h.cell0, h.cell1, h.free 0, h.free 1⟩
theorem Blk2.set0 {w : World} {b : Nat} {t : TypeId} {p q : Value} (h : Blk2 w b t p q) (u : Value) : Blk2 (w.setCell ⟨b, 0, none⟩ u) b t u q := by
  have hlt := h.lt
  unfold Blk2 at h ⊢
  have h' : w.heap[b] = .cells #[p, q] t (0, 0) := by simpa [Array.getElem?_eq_getElem hlt] using h
  show (w.heap.modify b _)[b]? = _
  rw [Array.getElem?_eq_getElem (by simpa using hlt), Array.getElem_modify_self, h']
  rfl
theorem Blk2.set1 {w : World} {b : Nat} {t : TypeId} {p q : Value} (h : Blk2 w b t p q) (u : Value) : Blk2 (w.setCell ⟨b, 1, none⟩ u) b t p u := by
  have hlt := h.lt
  unfold Blk2 at h ⊢
  have h' : w.heap[b] = .cells #[p, q] t (0, 0) := by simpa [Array.getElem?_eq_getElem hlt] using h
  show (w.heap.modify b _)[b]? = _
  rw [Array.getElem?_eq_getElem (by simpa using hlt), Array.getElem_modify_self, h']
  rfl
theorem Blk2.far {w : World} {b : Nat} {t : TypeId} {p q : Value} (h : Blk2 w b t p q) {a : Addr} (ha : b ≠ a.block) (u : Value) : Blk2 (w.setCell a u) b t p q := (Below.heap_setCell w a u b ha).trans h
theorem Blk2.keep {w w' : World} {b B : Nat} {t : TypeId} {p q : Value} (h : Blk2 w b t p q) (hb : Below B w w') (hB : b < B) : Blk2 w' b t p q := (hb.block b hB).trans h
theorem Blk2.drewN {w : World} {b : Nat} {t : TypeId} {p q : Value} (h : Blk2 w b t p q) (n : Nat) : Blk2 (w.drewN n) b t p q := h
theorem Blk2.drew {w : World} {b : Nat} {t : TypeId} {p q : Value} (h : Blk2 w b t p q) : Blk2 w.drew b t p q := h
theorem Blk2.at_ {w : World} {b : Nat} (t : TypeId) (p q : Value) (hb : b = w.heap.size) : Blk2 (w.alloc (.cells #[p, q] t)) b t p q := by
  subst hb; unfold Blk2; show (w.heap.push _)[w.heap.size]? = _
  rw [Array.getElem?_push, if_pos rfl]
theorem Blk2.old {w : World} {b : Nat} {t : TypeId} {p q : Value} (h : Blk2 w b t p q) (o : Obj) : Blk2 (w.alloc o) b t p q := (Below.heap_alloc w o b h.lt).trans h

/-! ### Only one block has changed -/
theorem grown_drewN_one {w w' : World} {row : Option Nat} (h : w.grownBy w' row) (n : Nat) : w.grownBy (w'.drewN n) row := ⟨h.os, h.tape, h.output, h.size, h.block⟩
theorem grown_drew_one {w w' : World} {row : Option Nat} (h : w.grownBy w' row) : w.grownBy w'.drew row := ⟨h.os, h.tape, h.output, h.size, h.block⟩
theorem grown_set_one {w w' : World} {b : Nat} (h : w.grownBy w' (some b)) {a : Addr} (ha : a.block = b) (u : Value) : w.grownBy (w'.setCell a u) (some b) :=
  ⟨h.os, h.tape, h.output, by simpa [World.setCell] using h.size, fun k hk hne => (Below.heap_setCell w' a u k (by rintro rfl; exact hne (by rw [ha]))).trans (h.block k hk hne)⟩
theorem below_of_one {w w' : World} {b B : Nat} (h : w.grownBy w' (some b)) (hB : B ≤ b) (hw : B ≤ w.heap.size) : Below B w w' :=
  ⟨h.os, h.tape, h.output, h.size, fun k hk => h.block k (by omega) (by simp; omega)⟩
theorem Blk3.keepOne {w w' : World} {b c : Nat} {t : TypeId} {p q r : Value} (h : Blk3 w b t p q r) (hg : w.grownBy w' (some c)) (hne : b ≠ c) : Blk3 w' b t p q r :=
  (hg.block b h.lt (by simpa using hne)).trans h

theorem Blk2.keepOne {w w' : World} {b c : Nat} {t : TypeId} {p q : Value} (h : Blk2 w b t p q) (hg : w.grownBy w' (some c)) (hne : b ≠ c) : Blk2 w' b t p q :=
  (hg.block b h.lt (by simpa using hne)).trans h
theorem grown_of_below {w w' : World} (h : Below w.heap.size w w') (row : Option Nat) : w.grownBy w' row := ⟨h.os, h.tape, h.output, h.size, fun k hk _ => h.block k hk⟩
theorem grown_set_new {w w' : World} {row : Option Nat} (h : w.grownBy w' row) {a : Addr} (ha : w.heap.size ≤ a.block) (u : Value) : w.grownBy (w'.setCell a u) row :=
  ⟨h.os, h.tape, h.output, by simpa [World.setCell] using h.size, fun k hk hne => (Below.heap_setCell w' a u k (by omega)).trans (h.block k hk hne)⟩
end Go.Proofs.Ytpelnfenfeoeeaa
end

section
/-
  Slices of ints: what is read through one, a block of the call's own that is one; worlds. No function of the program is named.
-/
namespace Go.Proofs.Ytpelnfenfeoeeaa
open Go.RowKit

theorem info_int : (Try.prog.info? 3).map (fun i => (i.zero, i.size, i.bytes)) = some (some (.int .i64 0), 1, 8) := by kernel_rfl
theorem cells_int : Try.prog.cellsOf 3 = 1 := by kernel_rfl
theorem underlying_ints : Try.prog.underlying 22 = some (.slice 3) := by kernel_rfl
theorem facts_int : ∃ i, Try.prog.info? 3 = some i ∧ i.zero = some (.int .i64 0) ∧ i.size = 1 ∧ i.bytes = 8 := by
  obtain ⟨i, h, e⟩ := Option.map_eq_some_iff.mp info_int
  injection e with e1 e2
  injection e2 with e2 e3
  exact ⟨i, h, e1, e2, e3⟩
/-- make, for every world. -/
theorem makeInts (n : Nat) (h : n ≤ 16777216) (w : World) : (Instr.makeSlice 22 (.int .i64 (n : Int)) (.int .i64 (n : Int))).run Try.prog w = .ok (.slice (some ⟨w.heap.size, 0, none⟩) n n) (w.alloc (.cells (madeCells #[.int .i64 0] n) 3)) :=
  run_make_row' (P := Try.prog) 22 3 (.int .i64 0) 8 Try.underlying22 info_int rfl .i64 .i64 n (by omega) (by omega) w
theorem makeProd (R C : Nat) (h : R * C ≤ 16777216) (w : World) : (Instr.makeSlice 22 (.int .i64 ((R : Int) * (C : Int))) (.int .i64 ((R : Int) * (C : Int)))).run Try.prog w = .ok (.slice (some ⟨w.heap.size, 0, none⟩) (R * C) (R * C)) (w.alloc (.cells (madeCells #[.int .i64 0] (R * C)) 3)) := by
  rw [← Int.natCast_mul]; exact makeInts (R * C) h w

/-! ### What is read through a slice -/
/-- Through address a the ints zs are read. -/
def Rd (w : World) (a : Option Addr) (zs : List Int) : Prop :=
  ∀ i : Nat, i < zs.length → ∃ b o : Nat, a = some ⟨b, o, none⟩ ∧ w.cell? ⟨b, o + i, none⟩ = some (.int .i64 (zs.getD i 0))
theorem Rd.nil (w : World) (a : Option Addr) : Rd w a [] := fun _ h => absurd h (Nat.not_lt_zero _)
theorem Rd.below {w w' : World} {a : Option Addr} {zs : List Int} (h : Rd w a zs) (hb : Below w.heap.size w w') : Rd w' a zs := fun i hi => by
  obtain ⟨b, o, ha, hc⟩ := h i hi
  exact ⟨b, o, ha, (hb.cell (World.block_lt_of_cell? w _ hc)).trans hc⟩
theorem Rd.drewN {w : World} {a : Option Addr} {zs : List Int} (h : Rd w a zs) (n : Nat) : Rd (w.drewN n) a zs := h
/-- Only one block has changed, and it is not this one. -/
theorem Rd.one {w w' : World} {g : Nat} {a : Option Addr} {zs : List Int} (h : Rd w a zs) (hg : w.grownBy w' (some g)) (hne : ∀ b o : Nat, a = some ⟨b, o, none⟩ → b ≠ g) : Rd w' a zs := fun i hi => by
  obtain ⟨b, o, ha, hc⟩ := h i hi
  exact ⟨b, o, ha, hg.cell hc (by simpa using hne b o ha)⟩
theorem Rd.take {w : World} {a : Option Addr} {zs : List Int} (h : Rd w a zs) (n : Nat) : Rd w a (zs.take n) := fun i hi => by
  simp only [List.length_take] at hi
  obtain ⟨b, o, ha, hc⟩ := h i (by omega)
  refine ⟨b, o, ha, ?_⟩
  rw [hc]
  simp [List.getD, show i < n by omega]

/-! ### A block of ints -/
/-- Block g begins with the row of ints zs, none of its cells frozen. -/
def Ints (w : World) (g : Nat) (zs : List Int) : Prop := ∃ rest : List Value, w.heap[g]? = some (.cells (zs.map (Value.int .i64) ++ rest).toArray 3 (0, 0))
theorem Ints.move {w w' : World} {g : Nat} {zs : List Int} (h : Ints w g zs) (e : w'.heap[g]? = w.heap[g]?) : Ints w' g zs := by
  obtain ⟨rest, h⟩ := h
  exact ⟨rest, e.trans h⟩
theorem Ints.lt {w : World} {g : Nat} {zs : List Int} (h : Ints w g zs) : g < w.heap.size := by
  obtain ⟨_, h⟩ := h
  exact lt_of_block h
theorem Ints.cell {w : World} {g : Nat} {zs : List Int} (h : Ints w g zs) {i : Nat} (hi : i < zs.length) : w.cell? ⟨g, i, none⟩ = some (.int .i64 (zs.getD i 0)) := by
  obtain ⟨rest, h⟩ := h
  simp [World.cell?, h, List.getElem?_append, hi, List.getD]
theorem Ints.free {w : World} {g : Nat} {zs : List Int} (h : Ints w g zs) (i : Nat) : w.frozen? ⟨g, i, none⟩ = false := by
  obtain ⟨_, h⟩ := h
  simp [World.frozen?, h]
theorem Ints.rd {w : World} {g : Nat} {zs : List Int} (h : Ints w g zs) : Rd w (some ⟨g, 0, none⟩) zs := fun i hi => ⟨g, 0, rfl, by rw [Nat.zero_add]; exact h.cell hi⟩
theorem Ints.set {w : World} {g : Nat} {zs : List Int} (h : Ints w g zs) (i : Nat) (z : Int) : Ints (w.setCell ⟨g, i, none⟩ (.int .i64 z)) g (zs.set i z) := by
  obtain ⟨rest, h⟩ := h
  rcases Nat.lt_or_ge i zs.length with hi | hi
  · refine ⟨rest, ?_⟩
    simp [World.setCell, Array.getElem?_modify, h, hi]
  · refine ⟨rest.set (i - zs.length) (.int .i64 z), ?_⟩
    simp [World.setCell, Array.getElem?_modify, h, List.set_append, Nat.not_lt.mpr hi, List.set_eq_of_length_le hi]
theorem Ints.far {w : World} {g : Nat} {zs : List Int} (h : Ints w g zs) {a : Addr} (ha : g ≠ a.block) (u : Value) : Ints (w.setCell a u) g zs := h.move (Below.heap_setCell w a u g ha)
theorem Ints.keep {w w' : World} {g B : Nat} {zs : List Int} (h : Ints w g zs) (hb : Below B w w') (hB : g < B) : Ints w' g zs := h.move (hb.block g hB)
theorem Ints.one {w w' : World} {g c : Nat} {zs : List Int} (h : Ints w g zs) (hg : w.grownBy w' (some c)) (hne : g ≠ c) : Ints w' g zs := h.move (hg.block g h.lt (by simpa using hne))
theorem Ints.drewN {w : World} {g : Nat} {zs : List Int} (h : Ints w g zs) (n : Nat) : Ints (w.drewN n) g zs := h
theorem Ints.drew {w : World} {g : Nat} {zs : List Int} (h : Ints w g zs) : Ints w.drew g zs := h
theorem Ints.old {w : World} {g : Nat} {zs : List Int} (h : Ints w g zs) (o : Obj) : Ints (w.alloc o) g zs := h.move (Below.heap_alloc w o g h.lt)
theorem madeCells_ints (n : Nat) : madeCells #[.int .i64 0] n = ((List.replicate n (0 : Int)).map (Value.int .i64)).toArray := by
  apply Array.ext
  · simp [madeCells]
  · intro i h1 h2
    simp [madeCells, Nat.mod_one]
theorem Ints.made {w : World} {g : Nat} (n : Nat) (hg : g = w.heap.size) : Ints (w.alloc (.cells (madeCells #[.int .i64 0] n) 3)) g (List.replicate n 0) := by
  subst hg
  refine ⟨[], ?_⟩
  rw [madeCells_ints, List.append_nil]
  exact heap_alloc_new w _

theorem Ints.ne_blk {w : World} {g b : Nat} {zs : List Int} {p q r : Value} (h : Ints w g zs) (k : Blk3 w b 26 p q r) : g ≠ b := by
  rintro rfl
  obtain ⟨rest, h⟩ := h
  unfold Blk3 at k
  rw [h] at k
  injection k with k
  injection k with _ k2 _
  exact absurd k2 (by decide)

/-! ### Lists -/
theorem set_step (zs : List Int) (k : Nat) (hk : k < zs.length) : (zs.take k ++ List.replicate (zs.length - k) 0).set k (zs.getD k 0) = zs.take (k + 1) ++ List.replicate (zs.length - (k + 1)) 0 := by
  rw [List.set_append]
  have e : (zs.take k).length = k := by simp; omega
  rw [if_neg (by omega), e, Nat.sub_self]
  have e2 : zs.length - k = (zs.length - (k + 1)) + 1 := by omega
  rw [e2, List.replicate_succ, List.set_cons_zero]
  have e3 : zs.take (k + 1) = zs.take k ++ [zs.getD k 0] := by
    rw [List.take_succ_eq_append_getElem hk]
    simp [List.getD, hk]
  rw [e3, List.append_assoc]
  rfl
theorem mid_zero (zs : List Int) (m k : Nat) (hk : k ≤ zs.length) : (zs.take k ++ List.replicate m (0 : Int)).getD k 0 = 0 := by
  have e : (zs.take k).length = k := by simp; omega
  unfold List.getD
  rw [List.getElem?_append_right (by omega), e, Nat.sub_self]
  cases m <;> simp [List.replicate_succ]
/-- The marks k, k + 1 .. -/
def marks (k : Int) (n : Nat) : List Int := (List.range n).map fun (i : Nat) => k + (i : Int)
theorem marks_length (k : Int) (n : Nat) : (marks k n).length = n := by simp [marks]
theorem marks_getD (k : Int) (n i : Nat) (h : i < n) : (marks k n).getD i 0 = k + (i : Int) := by simp [marks, List.getD, h]
theorem mark_step (zs : List Int) (c : Int) (k : Nat) (hk : k < zs.length) : (marks c k ++ zs.drop k).set k (c + (k : Int)) = marks c (k + 1) ++ zs.drop (k + 1) := by
  rw [List.set_append, if_neg (by rw [marks_length]; omega), marks_length, Nat.sub_self, List.drop_eq_getElem_cons hk, List.set_cons_zero]
  have e : marks c (k + 1) = marks c k ++ [c + (k : Int)] := by simp [marks, List.range_succ]
  rw [e, List.append_assoc]
  rfl

/-! ### A slice of the call's own -/
/-- The slice value v shows the ints zs; it is nil, or it begins a block from B on that nothing else shows. -/
def Own (B : Nat) (w : World) (v : Value) (zs : List Int) : Prop :=
  (v = .slice none 0 0 ∧ zs = []) ∨ ∃ (g cap : Nat), v = .slice (some ⟨g, 0, none⟩) zs.length cap ∧ B ≤ g ∧ Ints w g zs ∧ zs.length ≤ cap ∧ zs.length ≤ 16777216
theorem Own.form {B : Nat} {w : World} {v : Value} {zs : List Int} (h : Own B w v zs) : ∃ (a : Option Addr) (cap : Nat), v = .slice a zs.length cap ∧ Rd w a zs ∧ zs.length ≤ 16777216 := by
  rcases h with ⟨rfl, rfl⟩ | ⟨g, cap, rfl, _, hi, hl, hc⟩
  · exact ⟨none, 0, rfl, Rd.nil _ _, by simp⟩
  · exact ⟨_, _, rfl, hi.rd, hc⟩
theorem Own.keep {B : Nat} {w w' : World} {v : Value} {zs : List Int} (h : Own B w v zs) (hb : Below w.heap.size w w') : Own B w' v zs := by
  rcases h with h | ⟨g, cap, hv, hB, hi, hl, hc⟩
  · exact .inl h
  · exact .inr ⟨g, cap, hv, hB, hi.keep hb hi.lt, hl, hc⟩
theorem Own.le {B B' : Nat} {w : World} {v : Value} {zs : List Int} (h : Own B w v zs) (hB : B' ≤ B) : Own B' w v zs := by
  rcases h with h | ⟨g, cap, hv, hB', hi, hl, hc⟩
  · exact .inl h
  · exact .inr ⟨g, cap, hv, by omega, hi, hl, hc⟩
theorem Own.small {B : Nat} {w : World} {v : Value} {zs : List Int} (h : Own B w v zs) : zs.length ≤ 16777216 := by
  obtain ⟨a, cap, _, _, h1⟩ := h.form
  exact h1
/-- What a call has built by append is its own. -/
theorem Own.of_row {B : Nat} {w : World} {v : Value} {zs : List Int} (h : w.ownsRow B 3 1 v zs.length (zs.map (Value.int .i64))) (hl : zs.length ≤ 16777216) : Own B w v zs := by
  rcases h.2 with ⟨rfl, h0⟩ | ⟨g, cap, cur, rfl, hB, hg, hc, -, -, ht⟩
  · exact .inl ⟨rfl, List.eq_nil_of_length_eq_zero h0⟩
  · refine .inr ⟨g, cap, rfl, hB, ⟨cur.toList.drop zs.length, ?_⟩, hc, hl⟩
    rw [hg]
    congr 1
    congr 1
    rw [Nat.mul_one] at ht
    rw [← ht, List.take_append_drop]
end Go.Proofs.Ytpelnfenfeoeeaa
end

section
/-
  Chapter 1, in the model and in the program: IsNumber.
-/
namespace Go.Proofs.Ytpelnfenfeoeeaa
open Go.RowKit

theorem ret_int {k : IntKind} {a b : Int} (h : a = b) : Ending.returned (.int k a) = .returned (.int k b) := by rw [h]
theorem grown_drewN (w : World) (n : Nat) : Grown w (w.drewN n) := by
  induction n with
  | zero => exact Grown.refl _
  | succ n ih => exact Grown.drew ih

/-! ### l1In -/
theorem sIn_t (n a b : Int) (w : World) (h1 : a ≤ n) (h2 : n ≤ b) :
    Calls Try.prog 70 #[.int .i64 n, .int .i64 a, .int .i64 b] w fun e w' => e = .returned (.bool true) ∧ w = w' := by
  go_enter Try.func70, Try.ntmps70
  go_wp2
  go_ret
  exact ⟨rfl, rfl⟩
theorem sIn_f (n a b : Int) (w : World) (h : n < a ∨ b < n) :
    Calls Try.prog 70 #[.int .i64 n, .int .i64 a, .int .i64 b] w fun e w' => e = .returned (.bool false) ∧ w = w' := by
  by_cases h1 : a ≤ n
  · have h2 : decide (n ≤ b) = false := by simp; omega
    go_enter Try.func70, Try.ntmps70
    go_wp2
    go_ret
    exact ⟨rfl, rfl⟩
  · go_enter Try.func70, Try.ntmps70
    go_wp2
    go_ret
    exact ⟨rfl, rfl⟩

/-! ### IsNumber -/
theorem sIsNum_t (n : Int) (w : World) (h1 : -400000000 ≤ n) (h2 : n ≤ 400000000) :
    Calls Try.prog 105 #[.int .i64 n] w fun e w' => e = .returned (.bool true) ∧ w = w' := by
  go_enter Try.func105, Try.ntmps105
  go_wp2
  go_ret
  exact ⟨rfl, rfl⟩
theorem sIsNum_f (n : Int) (w : World) (h : n < -400000000 ∨ 400000000 < n) :
    Calls Try.prog 105 #[.int .i64 n] w fun e w' => e = .returned (.bool false) ∧ w = w' := by
  rcases h with h | h
  · go_enter Try.func105, Try.ntmps105
    go_wp2
    go_ret
    exact ⟨rfl, rfl⟩
  · have h1 : -400000000 ≤ n := by omega
    have h2 : decide (n ≤ 400000000) = false := by simp; omega
    go_enter Try.func105, Try.ntmps105
    go_wp2
    go_ret
    exact ⟨rfl, rfl⟩
theorem iIsNum_t (n : Int) (w : World) (h1 : -400000000 ≤ n) (h2 : n ≤ 400000000) :
    Calls Try.prog 114 #[.int .i64 n] w fun e w' => e = .returned (.bool true) ∧ w = w' := by
  go_enter Try.func114, Try.ntmps114
  go_wp2
  go_ret
  exact ⟨rfl, rfl⟩
theorem iIsNum_f (n : Int) (w : World) (h : n < -400000000 ∨ 400000000 < n) :
    Calls Try.prog 114 #[.int .i64 n] w fun e w' => e = .returned (.bool false) ∧ w = w' := by
  rcases h with h | h
  · go_enter Try.func114, Try.ntmps114
    go_wp2
    go_ret
    exact ⟨rfl, rfl⟩
  · have h1 : -400000000 ≤ n := by omega
    have h2 : decide (n ≤ 400000000) = false := by simp; omega
    go_enter Try.func114, Try.ntmps114
    go_wp2
    go_ret
    exact ⟨rfl, rfl⟩


end Go.Proofs.Ytpelnfenfeoeeaa
end

section
/-
  The laws' own helpers on slices of ints: sizes, copies, comparisons, marks.
-/
namespace Go.Proofs.Ytpelnfenfeoeeaa
open Go.RowKit

theorem szI (a : Option Addr) (n cap : Nat) (l : Int) (w : World) (hn : (n : Int) ≤ l) (hl : l ≤ 1048576) :
    Calls Try.prog 52 #[.slice a n cap, .int .i64 l] w fun e w' => e = .returned (.int .i64 (l - n)) ∧ w = w' := by
  go_enter Try.func52, Try.ntmps52
  go_wp2
  go_ret
  exact ⟨rfl, rfl⟩
theorem szI_f (a : Option Addr) (n cap : Nat) (l : Int) (w : World) (hn : l < (n : Int)) (h0 : 0 ≤ l) (hm : n ≤ 9223372036854775807) :
    Calls Try.prog 52 #[.slice a n cap, .int .i64 l] w fun e w' => e = .returned (.int .i64 (-1)) ∧ w = w' := by
  go_enter Try.func52, Try.ntmps52
  go_wp2
  go_ret
  exact ⟨rfl, rfl⟩

set_option maxHeartbeats 400000 in
theorem toI (a : Option Addr) (cap : Nat) (zs : List Int) (w : World) (h : Rd w a zs) (hn : zs.length ≤ 1048576) :
    Calls Try.prog 57 #[.slice a zs.length cap] w fun e w' => e = .returned (.slice (some ⟨w.heap.size, 0, none⟩) zs.length zs.length) ∧ Ints w' w.heap.size zs ∧ Below w.heap.size w w' := by
  have hmk := makeInts zs.length (by omega)
  have H := Lib.hid h
  clear h
  obtain ⟨n, hnn⟩ : ∃ n, zs.length = n := ⟨_, rfl⟩
  rw [hnn] at hn hmk ⊢
  have HN := Lib.hid hnn
  clear hnn
  go_enter Try.func57, Try.ntmps57
  go_wp2_with fail
  go_loopw [4] (fun i wr => ∃ k : Nat, i = .int .i64 k ∧ k ≤ n ∧ Ints wr w.heap.size (zs.take k ++ List.replicate (n - k) 0) ∧ Below w.heap.size w wr) (fun i _ => n - (intOf i).toNat)
  case atStart => exact ⟨0, rfl, by omega, by simpa using Ints.made n rfl, (Below.refl _ _).alloc (Nat.le_refl _) _⟩
  case round =>
    obtain ⟨k, rfl, hk, hi, hb⟩ := hrel
    have I := Lib.hid hi
    have B := Lib.hid hb
    clear hi hb
    by_cases hlt : k < n
    · obtain ⟨b, o, rfl, hc⟩ := (H.out.below B.out) k (by rw [HN.out]; exact hlt)
      have hold := I.out.cell (i := k) (by simp [HN.out]; omega)
      have hfr := I.out.free k
      rw [mid_zero zs (n - k) k (by rw [HN.out]; exact hk)] at hold
      obtain ⟨z, hz⟩ : ∃ z, zs.getD k 0 = z := ⟨_, rfl⟩
      rw [hz] at hc
      have Z := Lib.hid hz
      clear hz
      go_wp2_with fail
      go_roundw
      case rel =>
        refine ⟨k + 1, by go_num, by omega, ?_, B.out.setCell (Nat.le_refl _) _⟩
        have S := set_step zs k (by rw [HN.out]; exact hlt)
        rw [HN.out, Z.out] at S
        rw [← S]
        exact I.out.set k z
      case measure => simp [intOf]; omega
    · have hkn : k = n := by omega
      subst hkn
      go_wp2_with fail
      go_ret
      refine ⟨rfl, ?_, B.out⟩
      have e : zs.take k ++ List.replicate (k - k) 0 = zs := by rw [← HN.out]; simp
      rw [← e]; exact I.out

set_option maxHeartbeats 400000 in
theorem eqI_t (a b : Option Addr) (c d : Nat) (zs : List Int) (w : World) (h : Rd w a zs) (h' : Rd w b zs) (hn : zs.length ≤ 16777216) :
    Calls Try.prog 25 #[.slice a zs.length c, .slice b zs.length d] w fun e w' => e = .returned (.bool true) ∧ ∃ n, w' = w.drewN n := by
  have H := Lib.hid h
  have H' := Lib.hid h'
  clear h h'
  obtain ⟨n, hnn⟩ : ∃ n, zs.length = n := ⟨_, rfl⟩
  rw [hnn] at hn ⊢
  have HN := Lib.hid hnn
  clear hnn
  go_enter Try.func25, Try.ntmps25
  go_wp2_with fail
  go_loopw [5] (fun i wr => ∃ k : Nat, i = .int .i64 k ∧ k ≤ n ∧ ∃ m, wr = w.drewN m) (fun i _ => n - (intOf i).toNat)
  case atStart => exact ⟨0, rfl, by omega, 0, rfl⟩
  case round =>
    obtain ⟨k, rfl, hk, m, rfl⟩ := hrel
    by_cases hlt : k < n
    · obtain ⟨b, o, rfl, hc⟩ := H.out k (by rw [HN.out]; exact hlt)
      obtain ⟨b', o', rfl, hc'⟩ := H'.out k (by rw [HN.out]; exact hlt)
      obtain ⟨z, hz⟩ : ∃ z, zs.getD k 0 = z := ⟨_, rfl⟩
      rw [hz] at hc hc'
      have Z := Lib.hid hz
      clear hz
      go_wp2_with fail
      go_quiet (fail)
      go_wp2_with fail
      go_roundw
      case rel => exact ⟨k + 1, by go_num, by omega, _, rfl⟩
      case measure => simp [intOf]; omega
    · have hkn : k = n := by omega
      subst hkn
      go_wp2_with fail
      go_ret
      exact ⟨rfl, m, rfl⟩

/-- Marks are written into a block of the call's own. -/
theorem markI (g cap n : Nat) (zs : List Int) (c : Int) (w : World) (h : Ints w g zs) (hn : n ≤ zs.length) (hm : zs.length ≤ 16777216) (hc0 : 0 ≤ c) (hc : c ≤ 16777216) :
    Calls Try.prog 26 #[.slice (some ⟨g, 0, none⟩) n cap, .int .i64 c] w fun e w' => e = .returned (.int .i64 (c + n)) ∧ Ints w' g (marks c n ++ zs.drop n) ∧ w.grownBy w' (some g) := by
  have H := Lib.hid h
  clear h
  go_enter Try.func26, Try.ntmps26
  go_wp2_with fail
  go_loopw [1, 5] (fun j i wr => ∃ k : Nat, i = .int .i64 k ∧ j = .int .i64 (c + k) ∧ k ≤ n ∧ Ints wr g (marks c k ++ zs.drop k) ∧ w.grownBy wr (some g)) (fun _ i _ => n - (intOf i).toNat)
  case atStart => exact ⟨0, rfl, by simp, by omega, by simpa [marks] using H.out, World.grownBy.refl _ _⟩
  case round =>
    obtain ⟨k, rfl, rfl, hk, hi, hg⟩ := hrel
    have I := Lib.hid hi
    have G := Lib.hid hg
    clear hi hg
    by_cases hlt : k < n
    · have hold := I.out.cell (i := k) (by simp [marks_length]; omega)
      have hfr := I.out.free k
      go_wp2_with fail
      go_roundw
      case rel =>
        refine ⟨k + 1, by go_num, by go_num, by omega, ?_, grown_set_one G.out rfl _⟩
        rw [← mark_step zs c k (by omega)]
        exact I.out.set k _
      case measure => simp [intOf]; omega
    · have hkn : k = n := by omega
      subst hkn
      go_wp2_with fail
      go_ret
      exact ⟨rfl, I.out, G.out⟩
theorem markI_nil (cap : Nat) (c : Int) (w : World) :
    Calls Try.prog 26 #[.slice none 0 cap, .int .i64 c] w fun e w' => e = .returned (.int .i64 c) ∧ w = w' := by
  go_enter Try.func26, Try.ntmps26
  go_wp2_with fail
  go_loopw [1, 5] (fun j i wr => j = .int .i64 c ∧ i = .int .i64 0 ∧ wr = w) (fun _ _ _ => 0)
  case atStart => exact ⟨rfl, rfl, rfl⟩
  case round =>
    obtain ⟨rfl, rfl, rfl⟩ := hrel
    go_wp2_with fail
    go_ret
    exact ⟨rfl, rfl⟩

/-- The marks are there. -/
theorem heldI (a : Option Addr) (cap n : Nat) (c : Int) (w : World) (h : Rd w a (marks c n)) (hm : n ≤ 16777216) (hc0 : 0 ≤ c) (hc : c ≤ 16777216) :
    Calls Try.prog 27 #[.slice a n cap, .int .i64 c] w fun e w' => e = .returned (.int .i64 (c + n)) ∧ w = w' := by
  have H := Lib.hid h
  clear h
  go_enter Try.func27, Try.ntmps27
  go_wp2_with fail
  go_loop [1, 5] (fun j i => ∃ k : Nat, i = .int .i64 k ∧ j = .int .i64 (c + k) ∧ k ≤ n) (fun _ i => n - (intOf i).toNat)
  case atStart => exact ⟨0, rfl, by simp, by omega⟩
  case round =>
    obtain ⟨k, rfl, rfl, hk⟩ := hrel
    by_cases hlt : k < n
    · obtain ⟨b, o, rfl, hcell⟩ := H.out k (by rw [marks_length]; exact hlt)
      rw [marks_getD c n k hlt] at hcell
      go_wp2_with fail
      go_round
      case rel => exact ⟨k + 1, by go_num, by go_num, by omega⟩
      case measure => simp [intOf]; omega
    · have hkn : k = n := by omega
      subst hkn
      go_wp2_with fail
      go_ret
      exact ⟨rfl, rfl⟩
end Go.Proofs.Ytpelnfenfeoeeaa
end

section
/-
  The laws' own helpers on matrices: sizes, copies, comparisons, marks.
-/
namespace Go.Proofs.Ytpelnfenfeoeeaa
open Go.RowKit

theorem szM (r c : Int) (a : Option Addr) (n cap : Nat) (l : Int) (w : World) (hn : (n : Int) ≤ l) (hl : l ≤ 1048576) :
    Calls Try.prog 14 #[.agg #[.int .i64 r, .int .i64 c, .slice a n cap], .int .i64 l] w (Gives (.int .i64 (l - n)) w) := by
  go_enter Try.func14, Try.ntmps14
  go_wp2_with fail
  refine (szI a n cap l _ hn hl).mono ?_
  rintro e w' ⟨rfl, rfl⟩
  go_wp2_with fail
  go_ret
  exact ⟨rfl, (Below.refl _ _).alloc (Nat.le_refl _) _⟩
theorem szM_f (r c : Int) (a : Option Addr) (n cap : Nat) (l : Int) (w : World) (hn : l < (n : Int)) (h0 : 0 ≤ l) (hm : n ≤ 9223372036854775807) :
    Calls Try.prog 14 #[.agg #[.int .i64 r, .int .i64 c, .slice a n cap], .int .i64 l] w (Gives (.int .i64 (-1)) w) := by
  go_enter Try.func14, Try.ntmps14
  go_wp2_with fail
  refine (szI_f a n cap l _ hn h0 hm).mono ?_
  rintro e w' ⟨rfl, rfl⟩
  go_wp2_with fail
  go_ret
  exact ⟨rfl, (Below.refl _ _).alloc (Nat.le_refl _) _⟩

/-- A matrix whose cells lie in a new block. -/
def NewMat (r c : Int) (zs : List Int) (w : World) (e : Ending) (w' : World) : Prop :=
  ∃ g : Nat, e = .returned (.agg #[.int .i64 r, .int .i64 c, .slice (some ⟨g, 0, none⟩) zs.length zs.length]) ∧ w.heap.size ≤ g ∧ Ints w' g zs ∧ Below w.heap.size w w'

set_option maxHeartbeats 400000 in
theorem toM (r c : Int) (a : Option Addr) (cap : Nat) (zs : List Int) (w : World) (h : Rd w a zs) (hn : zs.length ≤ 1048576) :
    Calls Try.prog 16 #[.agg #[.int .i64 r, .int .i64 c, .slice a zs.length cap]] w (NewMat r c zs w) := by
  have H := Lib.hid h
  clear h
  go_enter Try.func16, Try.ntmps16
  go_wp2_with fail
  refine (toI a cap zs _ (H.out.below (((((Below.refl _ _).alloc (Nat.le_refl _) _).alloc (by simp) _).alloc (by simp <;> omega) _))) hn).mono ?_
  rintro e w1 ⟨rfl, hi, hb⟩
  have K1 : Hid (Blk3 w1 (w.heap.size + 1) 26 (.int .i64 0) (.int .i64 0) (.slice none 0 0)) := ((Blk3.at_ _ _ _ _ (by simp)).old _).keep hb (by simp <;> omega)
  have K2 : Hid (Blk3 w1 (w.heap.size + 1 + 1) 26 (.int .i64 r) (.int .i64 c) (.slice none 0 0)) := (Blk3.at_ _ _ _ _ (by simp)).keep hb (by simp)
  have I : Hid (Ints w1 (w.heap.size + 1 + 1 + 1) zs) := by have := hi; simp at this; exact this
  have B : Hid (Below w.heap.size w w1) := ((((Below.refl _ _).alloc (Nat.le_refl _) _).alloc (by simp) _).alloc (by simp <;> omega) _).trans (hb.mono (by simp <;> omega))
  clear hi hb
  obtain ⟨c0, c1, c2, f0, f1, f2⟩ := K1.out.all
  obtain ⟨d0, d1, d2, g0, g1, g2⟩ := K2.out.all
  obtain ⟨n, hnn⟩ : ∃ n, zs.length = n := ⟨_, rfl⟩
  have HN := Lib.hid hnn
  rw [hnn] at hn ⊢
  clear hnn
  go_wp2_with fail
  obtain ⟨E0, E1, E2, -, -, -⟩ := ((((K1.out.far (a := ⟨w.heap.size + 1 + 1, 2, none⟩) (by simp) (.slice (some ⟨w.heap.size + 1 + 1 + 1, 0, none⟩) n n)).set0 (.int .i64 r)).set1 (.int .i64 c)).set2 (.slice (some ⟨w.heap.size + 1 + 1 + 1, 0, none⟩) n n)).all
  refine bodyPost_ret (v := .agg #[.int .i64 r, .int .i64 c, .slice (some ⟨w.heap.size + 1 + 1 + 1, 0, none⟩) n n]) (by simp [results, Try.results16, go_sem, E0, E1, E2]) rfl ⟨w.heap.size + 1 + 1 + 1, by rw [HN.out], by omega, ?_, ?_⟩
  · exact (((I.out.far (by simp <;> omega) _).far (by simp <;> omega) _).far (by simp <;> omega) _).far (by simp <;> omega) _
  · exact (((B.out.setCell (by show w.heap.size ≤ w.heap.size + 1 + 1; omega) _).setCell (by show w.heap.size ≤ w.heap.size + 1; omega) _).setCell (by show w.heap.size ≤ w.heap.size + 1; omega) _).setCell (by show w.heap.size ≤ w.heap.size + 1; omega) _

theorem eqM_t (r c : Int) (a b : Option Addr) (m n : Nat) (zs : List Int) (w : World) (h : Rd w a zs) (h' : Rd w b zs) (hn : zs.length ≤ 16777216) :
    Calls Try.prog 18 #[.agg #[.int .i64 r, .int .i64 c, .slice a zs.length m], .agg #[.int .i64 r, .int .i64 c, .slice b zs.length n]] w (Gives (.bool true) w) := by
  have H := Lib.hid h
  have H' := Lib.hid h'
  clear h h'
  have B0 : ∀ o1 o2, Below w.heap.size w ((w.alloc o1).alloc o2) := fun o1 o2 => ((Below.refl _ _).alloc (Nat.le_refl _) _).alloc (by simp) _
  have BH := Lib.hid B0
  clear B0
  go_enter Try.func18, Try.ntmps18
  go_wp2_with fail
  refine (eqI_t a b m n zs _ (H.out.below (BH.out _ _)) (H'.out.below (BH.out _ _)) hn).mono ?_
  rintro e w1 ⟨rfl, k, rfl⟩
  go_wp2_with fail
  go_ret
  exact ⟨rfl, below_drewN (BH.out _ _) _⟩

theorem markM (r c : Int) (g cap n : Nat) (zs : List Int) (k : Int) (w : World) (h : Ints w g zs) (hn : n ≤ zs.length) (hm : zs.length ≤ 16777216) (hc0 : 0 ≤ k) (hc : k ≤ 16777216) :
    Calls Try.prog 19 #[.agg #[.int .i64 r, .int .i64 c, .slice (some ⟨g, 0, none⟩) n cap], .int .i64 k] w fun e w' => e = .returned (.int .i64 (k + n)) ∧ Ints w' g (marks k n ++ zs.drop n) ∧ w.grownBy w' (some g) := by
  have H := Lib.hid h
  clear h
  go_enter Try.func19, Try.ntmps19
  go_wp2_with fail
  refine (markI g cap n zs k _ (H.out.old _) hn hm hc0 hc).mono ?_
  rintro e w1 ⟨rfl, hi, hg⟩
  have I := Lib.hid hi
  have G := Lib.hid ((World.grownBy_alloc w _ _).trans hg)
  clear hi hg
  go_wp2_with fail
  go_ret
  exact ⟨rfl, I.out, G.out⟩
theorem markM_nil (r c : Int) (cap : Nat) (k : Int) (w : World) :
    Calls Try.prog 19 #[.agg #[.int .i64 r, .int .i64 c, .slice none 0 cap], .int .i64 k] w (Gives (.int .i64 k) w) := by
  go_enter Try.func19, Try.ntmps19
  go_wp2_with fail
  refine (markI_nil cap k _).mono ?_
  rintro e w1 ⟨rfl, rfl⟩
  go_wp2_with fail
  go_ret
  exact ⟨rfl, (Below.refl _ _).alloc (Nat.le_refl _) _⟩
theorem heldM (r c : Int) (a : Option Addr) (cap n : Nat) (k : Int) (w : World) (h : Rd w a (marks k n)) (hm : n ≤ 16777216) (hc0 : 0 ≤ k) (hc : k ≤ 16777216) :
    Calls Try.prog 20 #[.agg #[.int .i64 r, .int .i64 c, .slice a n cap], .int .i64 k] w (Gives (.int .i64 (k + n)) w) := by
  have H := Lib.hid h
  clear h
  go_enter Try.func20, Try.ntmps20
  go_wp2_with fail
  refine (heldI a cap n k _ (H.out.below ((Below.refl _ _).alloc (Nat.le_refl _) _)) hm hc0 hc).mono ?_
  rintro e w1 ⟨rfl, rfl⟩
  go_wp2_with fail
  go_ret
  exact ⟨rfl, (Below.refl _ _).alloc (Nat.le_refl _) _⟩
end Go.Proofs.Ytpelnfenfeoeeaa
end

section
/-
  Plain mathematics of chapter 3: matrices as lists of cells. Nothing of a program is imported.
-/
namespace Go.Proofs.Ytpelnfenfeoeeaa

def NumP (z : Int) : Prop := -400000000 ≤ z ∧ z ≤ 400000000
instance (z : Int) : Decidable (NumP z) := by unfold NumP; exact inferInstance
def SizeP (z : Int) : Prop := 0 ≤ z ∧ z ≤ 24
instance (z : Int) : Decidable (SizeP z) := by unfold SizeP; exact inferInstance
def nums (zs : List Int) : Bool := zs.all fun z => decide (NumP z)
/-- A valid matrix. -/
def isMat (r c : Int) (zs : List Int) : Bool := decide (SizeP r) && decide (SizeP c) && decide ((zs.length : Int) = r * c) && nums zs

theorem nums_true {zs : List Int} (h : ∀ j : Nat, j < zs.length → NumP (zs.getD j 0)) : nums zs = true := by
  unfold nums
  rw [List.all_eq_true]
  intro z hz
  obtain ⟨i, hi, rfl⟩ := List.getElem_of_mem hz
  have := h i hi
  simp only [List.getD, hi, List.getElem?_eq_getElem, Option.getD_some] at this
  exact decide_eq_true this
theorem nums_false {zs : List Int} {j : Nat} (hj : j < zs.length) (h : ¬ NumP (zs.getD j 0)) : nums zs = false := by
  unfold nums
  rw [List.all_eq_false]
  refine ⟨zs[j], List.getElem_mem hj, ?_⟩
  simp only [List.getD, hj, List.getElem?_eq_getElem, Option.getD_some] at h
  simpa using h
theorem nums_at {zs : List Int} (h : nums zs = true) {j : Nat} (hj : j < zs.length) : NumP (zs.getD j 0) := by
  unfold nums at h
  rw [List.all_eq_true] at h
  have := h zs[j] (List.getElem_mem hj)
  simp only [List.getD, hj, List.getElem?_eq_getElem, Option.getD_some]
  exact of_decide_eq_true this
theorem isMat_says {r c : Int} {zs : List Int} (h : isMat r c zs = true) : (0 ≤ r ∧ r ≤ 24) ∧ (0 ≤ c ∧ c ≤ 24) ∧ (zs.length : Int) = r * c ∧ nums zs = true := by
  unfold isMat at h
  simp only [Bool.and_eq_true, decide_eq_true_eq] at h
  exact ⟨h.1.1.1, h.1.1.2, h.1.2, h.2⟩
theorem mul_size (r c : Int) (hr : 0 ≤ r ∧ r ≤ 24) (hc : 0 ≤ c ∧ c ≤ 24) : 0 ≤ r * c ∧ r * c ≤ 576 := by
  constructor
  · exact Int.mul_nonneg hr.1 hc.1
  · have := Int.mul_le_mul hr.2 hc.2 hc.1 (by omega); omega

/-- A matrix cell by cell. -/
def tab (r c : Nat) (f : Nat → Nat → Int) : List Int := (List.range (r * c)).map fun p => f (p / c) (p % c)
theorem tab_length (r c : Nat) (f : Nat → Nat → Int) : (tab r c f).length = r * c := by simp [tab]
theorem idx_lt {r c i j : Nat} (hi : i < r) (hj : j < c) : i * c + j < r * c := by
  have : (i + 1) * c ≤ r * c := Nat.mul_le_mul_right c hi
  rw [Nat.add_mul, Nat.one_mul] at this; omega
theorem idx_div {c i j : Nat} (hj : j < c) : (i * c + j) / c = i := by
  rw [Nat.mul_comm, Nat.mul_add_div (by omega), Nat.div_eq_of_lt hj]; omega
theorem idx_mod {c i j : Nat} (hj : j < c) : (i * c + j) % c = j := by
  rw [Nat.mul_comm, Nat.mul_add_mod, Nat.mod_eq_of_lt hj]
theorem idx_inj {c i j i' j' : Nat} (hj : j < c) (hj' : j' < c) (h : i * c + j = i' * c + j') : i = i' ∧ j = j' := by
  have h1 := idx_div (i := i) hj
  have h2 := idx_div (i := i') hj'
  have h3 := idx_mod (i := i) hj
  have h4 := idx_mod (i := i') hj'
  rw [h] at h1 h3
  exact ⟨h1.symm.trans h2, h3.symm.trans h4⟩
theorem tab_at (r c : Nat) (f : Nat → Nat → Int) {i j : Nat} (hi : i < r) (hj : j < c) : (tab r c f).getD (i * c + j) 0 = f i j := by
  have := idx_lt hi hj
  simp [tab, List.getD, this, idx_div hj, idx_mod hj]
theorem tab_ext {r c : Nat} {f : Nat → Nat → Int} {zs : List Int} (hl : zs.length = r * c) (h : ∀ i j : Nat, i < r → j < c → zs.getD (i * c + j) 0 = f i j) : zs = tab r c f := by
  apply List.ext_getElem (by rw [hl, tab_length])
  intro p h1 h2
  have hp : p < r * c := by omega
  have hc : 0 < c := by
    rcases Nat.eq_zero_or_pos c with e | e
    · subst e; simp at hp
    · exact e
  have hi : p / c < r := Nat.div_lt_of_lt_mul (by rw [Nat.mul_comm]; exact hp)
  have := h (p / c) (p % c) hi (Nat.mod_lt p hc)
  have e : p / c * c + p % c = p := by rw [Nat.mul_comm]; exact Nat.div_add_mod p c
  rw [e] at this
  simp only [List.getD, List.getElem?_eq_getElem h1, Option.getD_some] at this
  rw [this]
  simp [tab]
theorem getD_set (zs : List Int) (k q : Nat) (z : Int) (hk : k < zs.length) : (zs.set k z).getD q 0 = if q = k then z else zs.getD q 0 := by
  unfold List.getD
  rw [List.getElem?_set]
  by_cases e : k = q
  · subst e; simp [hk]
  · rw [if_neg e, if_neg (fun h => e h.symm)]

/-- What a function that returns a matrix and a bool gives. -/
structure MR where
  ok : Bool
  r : Int
  c : Int
  zs : List Int
def MR.no : MR := ⟨false, 0, 0, []⟩
/-- The matrix, if its cells are within the limit. -/
def MR.done (r c : Int) (zs : List Int) : MR := if isMat r c zs = true then ⟨true, r, c, zs⟩ else MR.no
theorem mul_num (a b : Int) (ha : -400000000 ≤ a ∧ a ≤ 400000000) (hb : -400000000 ≤ b ∧ b ≤ 400000000) : -160000000000000000 ≤ a * b ∧ a * b ≤ 160000000000000000 := by
  have e : (a * b).natAbs = a.natAbs * b.natAbs := Int.natAbs_mul a b
  have l : a.natAbs * b.natAbs ≤ 400000000 * 400000000 := Nat.mul_le_mul (by omega) (by omega)
  omega
theorem list_ne {xs ys : List Int} {k : Nat} (h : xs.getD k 0 ≠ ys.getD k 0) : xs ≠ ys := fun e => h (by rw [e])
theorem list_eq {xs ys : List Int} {n : Nat} (hx : xs.length = n) (hy : ys.length = n) (h : ∀ j : Nat, j < n → xs.getD j 0 = ys.getD j 0) : xs = ys := by
  apply List.ext_getElem (by omega)
  intro i h1 h2
  have := h i (by omega)
  simpa [List.getD, h1, h2] using this

theorem list_getD {xs ys : List Int} (hl : xs.length = ys.length) (h : ∀ q : Nat, q < xs.length → xs.getD q 0 = ys.getD q 0) : xs = ys := list_eq (n := ys.length) hl rfl (by rw [← hl]; exact h)
end Go.Proofs.Ytpelnfenfeoeeaa
end

section
/-
  Chapter 3, in the model: IsMatrix, a matrix of zeros, one that is done.
-/
namespace Go.Proofs.Ytpelnfenfeoeeaa
open Go.RowKit

/-- A matrix and a bool are returned, the cells in memory of the call's own; of what was there nothing has changed. -/
def MatRes (m : MR) (w : World) (e : Ending) (w' : World) : Prop :=
  ∃ v : Value, e = .returned (.tuple #[.agg #[.int .i64 m.r, .int .i64 m.c, v], .bool m.ok]) ∧ Own w.heap.size w' v m.zs ∧ Below w.heap.size w w'

set_option maxHeartbeats 400000 in
theorem sIsMat (r c : Int) (a : Option Addr) (cap : Nat) (zs : List Int) (w : World) (h : Rd w a zs) (hn : zs.length ≤ 16777216) :
    Calls Try.prog 53 #[.agg #[.int .i64 r, .int .i64 c, .slice a zs.length cap]] w (Gives (.bool (isMat r c zs)) w) := by
  have B0 : ∀ o, Below w.heap.size w (w.alloc o) := fun o => (Below.refl _ _).alloc (Nat.le_refl _) o
  have BH := Lib.hid B0
  have H := Lib.hid h
  clear h B0
  obtain ⟨n, hnn⟩ : ∃ n, zs.length = n := ⟨_, rfl⟩
  have HN := Lib.hid hnn
  have ED : isMat r c zs = (decide (SizeP r) && decide (SizeP c) && decide ((n : Int) = r * c) && nums zs) := by unfold isMat; rw [hnn]
  have E := Lib.hid ED
  rw [hnn] at hn ⊢
  clear hnn ED
  by_cases hr : 0 ≤ r ∧ r ≤ 24
  · by_cases hc : 0 ≤ c ∧ c ≤ 24
    · obtain ⟨m1, m2⟩ := mul_size r c hr hc
      by_cases hl : (n : Int) = r * c
      · have l1 : ((n : Int) != r * c) = false := by simpa using hl
        have l2 : ((n : Int) == r * c) = true := by simpa using hl
        have E2 : Hid (isMat r c zs = nums zs) := by
          show isMat r c zs = nums zs
          rw [E.out, show decide (SizeP r) = true from decide_eq_true hr, show decide (SizeP c) = true from decide_eq_true hc, show decide ((n : Int) = r * c) = true from decide_eq_true hl]; rfl
        clear hl
        obtain ⟨r1, r2⟩ := hr
        obtain ⟨c1, c2⟩ := hc
        go_enter Try.func53, Try.ntmps53
        go_wp2_with (go_at_call 70; refine (sIn_t _ _ _ _ (by omega) (by omega)).mono ?_; rintro e w' ⟨rfl, rfl⟩)
        go_loop [3] (fun i => ∃ k : Nat, i = .int .i64 k ∧ k ≤ n ∧ ∀ j : Nat, j < k → NumP (zs.getD j 0)) (fun i => n - (intOf i).toNat)
        case atStart => exact ⟨0, rfl, by omega, fun j hj => absurd hj (by omega)⟩
        case round =>
          obtain ⟨k, rfl, hk, hall⟩ := hrel
          have HA := Lib.hid hall
          clear hall
          by_cases hlt : k < n
          · obtain ⟨b, o, rfl, hcell⟩ := (H.out.below (BH.out (.cells #[.int .i64 r, .int .i64 c, .slice a n cap] 26))) k (by rw [HN.out]; exact hlt)
            obtain ⟨z, hz⟩ : ∃ z, zs.getD k 0 = z := ⟨_, rfl⟩
            rw [hz] at hcell
            have Z := Lib.hid hz
            clear hz
            by_cases hnum : -400000000 ≤ z ∧ z ≤ 400000000
            · go_wp2_with fail
              refine (sIsNum_t z _ hnum.1 hnum.2).mono ?_
              rintro e w' ⟨rfl, rfl⟩
              go_wp2_with fail
              go_round
              case rel =>
                refine ⟨k + 1, by go_num, by omega, fun j hj => ?_⟩
                rcases Nat.lt_or_ge j k with h' | h'
                · exact HA.out j h'
                · obtain rfl : j = k := by omega
                  rw [Z.out]; exact hnum
              case measure => simp [intOf]; omega
            · have E3 : Hid (isMat r c zs = false) := by
                show isMat r c zs = false
                rw [E2.out]; exact nums_false (by rw [HN.out]; exact hlt) (by rw [Z.out]; exact hnum)
              have hnum' : z < -400000000 ∨ 400000000 < z := by omega
              clear hnum
              go_wp2_with fail
              refine (sIsNum_f z _ hnum').mono ?_
              rintro e w' ⟨rfl, rfl⟩
              go_wp2_with fail
              go_ret
              exact ⟨by rw [E3.out]; rfl, BH.out _⟩
          · have hkn : k = n := by omega
            subst hkn
            have E3 : Hid (isMat r c zs = true) := by
              show isMat r c zs = true
              rw [E2.out]; exact nums_true (fun j hj => HA.out j (by rw [HN.out] at hj; exact hj))
            go_wp2_with fail
            go_ret
            exact ⟨by rw [E3.out]; rfl, BH.out _⟩
      · have l1 : ((n : Int) != r * c) = true := by simpa using hl
        have l2 : ((n : Int) == r * c) = false := by simpa using hl
        have E2 : Hid (isMat r c zs = false) := by
          show isMat r c zs = false
          rw [E.out, show decide ((n : Int) = r * c) = false from decide_eq_false hl]; simp
        clear hl
        obtain ⟨r1, r2⟩ := hr
        obtain ⟨c1, c2⟩ := hc
        go_enter Try.func53, Try.ntmps53
        go_wp2_with (go_at_call 70; refine (sIn_t _ _ _ _ (by omega) (by omega)).mono ?_; rintro e w' ⟨rfl, rfl⟩)
        go_ret
        exact ⟨by rw [E2.out]; rfl, BH.out _⟩
    · have E2 : Hid (isMat r c zs = false) := by
        show isMat r c zs = false
        rw [E.out, show decide (SizeP c) = false from decide_eq_false hc]; simp
      have hc' : c < 0 ∨ 24 < c := by omega
      clear hc
      go_enter Try.func53, Try.ntmps53
      go_wp2_with fail
      refine (sIn_t r 0 24 _ hr.1 hr.2).mono ?_
      rintro e w' ⟨rfl, rfl⟩
      go_wp2_with fail
      refine (sIn_f c 0 24 _ hc').mono ?_
      rintro e w' ⟨rfl, rfl⟩
      go_wp2_with fail
      go_ret
      exact ⟨by rw [E2.out]; rfl, BH.out _⟩
  · have E2 : Hid (isMat r c zs = false) := by
      show isMat r c zs = false
      rw [E.out, show decide (SizeP r) = false from decide_eq_false hr]; simp
    have hr' : r < 0 ∨ 24 < r := by omega
    clear hr
    go_enter Try.func53, Try.ntmps53
    go_wp2_with fail
    refine (sIn_f r 0 24 _ hr').mono ?_
    rintro e w' ⟨rfl, rfl⟩
    go_wp2_with fail
    go_ret
    exact ⟨by rw [E2.out]; rfl, BH.out _⟩
end Go.Proofs.Ytpelnfenfeoeeaa
end

section
/-
  Memory in a law's walk: vectors that lie in known stretches of blocks, and what changes outside such a stretch: nothing.
-/
namespace Go.Proofs.Ytpelnfenfeoeeaa
open Go.RowKit

/-- Of the blocks that were there only those from B to T (T not in it) may have changed. -/
structure Chg (B T : Nat) (w w' : World) : Prop where
  os : w'.os = w.os
  tape : w'.tape = w.tape
  output : w'.output = w.output
  size : w.heap.size ≤ w'.heap.size
  block : ∀ k, k < w.heap.size → ¬ (B ≤ k ∧ k < T) → w'.heap[k]? = w.heap[k]?
theorem Chg.of_below {B T : Nat} {w w' : World} (h : Below w.heap.size w w') : Chg B T w w' := ⟨h.os, h.tape, h.output, h.size, fun k hk _ => h.block k hk⟩
theorem Chg.of_one {B T g : Nat} {w w' : World} (h : w.grownBy w' (some g)) (h1 : B ≤ g) (h2 : g < T) : Chg B T w w' :=
  ⟨h.os, h.tape, h.output, h.size, fun k hk hn => h.block k hk (by simp; rintro rfl; exact hn ⟨h1, h2⟩)⟩
theorem Below.chg {C B T : Nat} {w w1 w' : World} (h : Below C w w1) (hc : Chg B T w1 w') (hB : C ≤ B) (hw : C ≤ w1.heap.size) : Below C w w' :=
  ⟨hc.os.trans h.os, hc.tape.trans h.tape, hc.output.trans h.output, Nat.le_trans h.size hc.size, fun k hk => (hc.block k (by omega) (by omega)).trans (h.block k hk)⟩
theorem Blk3.chg {w w' : World} {b B T : Nat} {t : TypeId} {p q r : Value} (h : Blk3 w b t p q r) (hc : Chg B T w w') (hb : b < B ∨ T ≤ b) : Blk3 w' b t p q r := (hc.block b h.lt (by omega)).trans h

/-- The slice value v shows the ints zs; it is nil, or begins a block from B to T. -/
def In (B T : Nat) (w : World) (v : Value) (zs : List Int) : Prop :=
  (v = .slice none 0 0 ∧ zs = []) ∨ ∃ (g cap : Nat), v = .slice (some ⟨g, 0, none⟩) zs.length cap ∧ B ≤ g ∧ g < T ∧ Ints w g zs ∧ zs.length ≤ cap ∧ zs.length ≤ 16777216
theorem Own.inn {B : Nat} {w : World} {v : Value} {zs : List Int} (h : Own B w v zs) : In B w.heap.size w v zs := by
  rcases h with h | ⟨g, cap, hv, hB, hi, hl, hc⟩
  · exact .inl h
  · exact .inr ⟨g, cap, hv, hB, hi.lt, hi, hl, hc⟩
theorem In.of_new {B : Nat} {w : World} {g : Nat} {zs : List Int} (hB : B ≤ g) (hi : Ints w g zs) (hl : zs.length ≤ 16777216) : In B w.heap.size w (.slice (some ⟨g, 0, none⟩) zs.length zs.length) zs :=
  .inr ⟨g, zs.length, rfl, hB, hi.lt, hi, Nat.le_refl _, hl⟩
theorem In.form {B T : Nat} {w : World} {v : Value} {zs : List Int} (h : In B T w v zs) : ∃ (a : Option Addr) (cap : Nat), v = .slice a zs.length cap ∧ Rd w a zs ∧ zs.length ≤ 16777216 := by
  rcases h with ⟨rfl, rfl⟩ | ⟨g, cap, rfl, _, _, hi, hl, hc⟩
  · exact ⟨none, 0, rfl, Rd.nil _ _, by simp⟩
  · exact ⟨_, _, rfl, hi.rd, hc⟩
theorem In.rd {B T : Nat} {w : World} {a : Option Addr} {n cap : Nat} {zs : List Int} (h : In B T w (.slice a n cap) zs) : n = zs.length ∧ Rd w a zs ∧ zs.length ≤ 16777216 := by
  obtain ⟨a', cap', e, hr, hl⟩ := h.form
  injection e with e1 e2 e3
  subst e1 e2
  exact ⟨rfl, hr, hl⟩
theorem In.chg {B T B' T' : Nat} {w w' : World} {v : Value} {zs : List Int} (h : In B T w v zs) (hc : Chg B' T' w w') (hd : T ≤ B' ∨ T' ≤ B) : In B T w' v zs := by
  rcases h with h | ⟨g, cap, hv, h1, h2, hi, hl, hk⟩
  · exact .inl h
  · exact .inr ⟨g, cap, hv, h1, h2, hi.move (hc.block g hi.lt (by omega)), hl, hk⟩
theorem In.keep {B T : Nat} {w w' : World} {v : Value} {zs : List Int} (h : In B T w v zs) (hb : Below w.heap.size w w') : In B T w' v zs := by
  rcases h with h | ⟨g, cap, hv, h1, h2, hi, hl, hk⟩
  · exact .inl h
  · exact .inr ⟨g, cap, hv, h1, h2, hi.keep hb hi.lt, hl, hk⟩
theorem In.old {B T : Nat} {w : World} {v : Value} {zs : List Int} (h : In B T w v zs) (o : Obj) : In B T (w.alloc o) v zs := h.keep ((Below.refl _ _).alloc (Nat.le_refl _) o)

theorem In.wide {B T B' T' : Nat} {w : World} {v : Value} {zs : List Int} (h : In B T w v zs) (hB : B' ≤ B) (hT : T ≤ T') : In B' T' w v zs := by
  rcases h with h | ⟨g, cap, hv, h1, h2, hi, hl, hk⟩
  · exact .inl h
  · exact .inr ⟨g, cap, hv, by omega, by omega, hi, hl, hk⟩
theorem In.far {B T : Nat} {w : World} {v : Value} {zs : List Int} (h : In B T w v zs) {a : Addr} (ha : a.block < B ∨ T ≤ a.block) (u : Value) : In B T (w.setCell a u) v zs := by
  rcases h with h | ⟨g, cap, hv, h1, h2, hi, hl, hk⟩
  · exact .inl h
  · exact .inr ⟨g, cap, hv, h1, h2, hi.far (by omega) u, hl, hk⟩
theorem six {W w' : World} {b c : Nat} {t t' : TypeId} {p q r x y z : Value} (h0 : Blk3 W b t p q r) (h1 : Blk3 W c t' x y z) (hb : Below W.heap.size W w') :
    w'.cell? ⟨b, 0, none⟩ = some p ∧ w'.cell? ⟨b, 1, none⟩ = some q ∧ w'.cell? ⟨b, 2, none⟩ = some r ∧ w'.cell? ⟨c, 0, none⟩ = some x ∧ w'.cell? ⟨c, 1, none⟩ = some y ∧ w'.cell? ⟨c, 2, none⟩ = some z :=
  ⟨(h0.keep hb h0.lt).cell0, (h0.keep hb h0.lt).cell1, (h0.keep hb h0.lt).cell2, (h1.keep hb h1.lt).cell0, (h1.keep hb h1.lt).cell1, (h1.keep hb h1.lt).cell2⟩

theorem stepB {w w1 w2 : World} (h : Below w.heap.size w w1) (hb : Below w1.heap.size w1 w2) : Below w.heap.size w w2 := h.trans (hb.mono h.size)
theorem Blk3.step {w w' : World} {b : Nat} {t : TypeId} {p q r : Value} (h : Blk3 w b t p q r) (hb : Below w.heap.size w w') : Blk3 w' b t p q r := h.keep hb h.lt

/-- Marks are written into a matrix of the call's own. -/
theorem markIn {B T : Nat} (r c : Int) (a : Option Addr) (n cap : Nat) (zs : List Int) (k : Int) (w : World) (h : In B T w (.slice a n cap) zs) (hk0 : 0 ≤ k) (hk : k ≤ 16777216) :
    Calls Try.prog 19 #[.agg #[.int .i64 r, .int .i64 c, .slice a n cap], .int .i64 k] w fun e w' => e = .returned (.int .i64 (k + n)) ∧ In B T w' (.slice a n cap) (marks k n) ∧ Chg B T w w' := by
  rcases h with ⟨hv, rfl⟩ | ⟨g, cap', hv, h1, h2, hi, hl, hc⟩
  · injection hv with e1 e2 e3
    subst e1 e2 e3
    refine (markM_nil r c 0 k w).mono ?_
    rintro e w' ⟨rfl, hb⟩
    exact ⟨by simp, .inl ⟨rfl, rfl⟩, Chg.of_below hb⟩
  · injection hv with e1 e2 e3
    subst e1 e2 e3
    refine (markM r c g cap zs.length zs k w hi (Nat.le_refl _) hc hk0 hk).mono ?_
    rintro e w' ⟨rfl, hi', hg⟩
    refine ⟨rfl, .inr ⟨g, cap, by rw [marks_length], h1, h2, ?_, by rw [marks_length]; exact hl, by rw [marks_length]; exact hc⟩, Chg.of_one hg h1 h2⟩
    rw [List.drop_length, List.append_nil] at hi'
    exact hi'
end Go.Proofs.Ytpelnfenfeoeeaa
end

section
/-
  Plain mathematics: finite sums. Nothing of a program is used.
-/
namespace Go.Proofs.Ytpelnfenfeoeeaa

def sumN : Nat → (Nat → Int) → Int
  | 0, _ => 0
  | n + 1, f => sumN n f + f n
theorem sumN_congr {n : Nat} {f g : Nat → Int} (h : ∀ k : Nat, k < n → f k = g k) : sumN n f = sumN n g := by
  induction n with
  | zero => rfl
  | succ n ih =>
    show sumN n f + f n = sumN n g + g n
    rw [ih (fun k hk => h k (by omega)), h n (by omega)]
theorem sumN_add (n : Nat) (f g : Nat → Int) : sumN n (fun k => f k + g k) = sumN n f + sumN n g := by
  induction n with
  | zero => rfl
  | succ n ih =>
    show sumN n (fun k => f k + g k) + (f n + g n) = (sumN n f + f n) + (sumN n g + g n)
    rw [ih]; omega
theorem sumN_mul (n : Nat) (f : Nat → Int) (z : Int) : sumN n f * z = sumN n (fun k => f k * z) := by
  induction n with
  | zero => exact Int.zero_mul z
  | succ n ih =>
    show (sumN n f + f n) * z = sumN n (fun k => f k * z) + f n * z
    rw [Int.add_mul, ih]
theorem sumN_mul_left (n : Nat) (f : Nat → Int) (z : Int) : z * sumN n f = sumN n (fun k => z * f k) := by
  rw [Int.mul_comm, sumN_mul]
  exact sumN_congr fun k _ => Int.mul_comm _ _
theorem sumN_zero (n : Nat) : sumN n (fun _ => 0) = 0 := by
  induction n with
  | zero => rfl
  | succ n ih => show sumN n (fun _ => 0) + 0 = 0; rw [ih]; rfl
theorem sumN_swap (m n : Nat) (f : Nat → Nat → Int) : sumN m (fun i => sumN n (fun j => f i j)) = sumN n (fun j => sumN m (fun i => f i j)) := by
  induction m with
  | zero => exact (sumN_zero n).symm
  | succ m ih =>
    show sumN m (fun i => sumN n (fun j => f i j)) + sumN n (fun j => f m j) = sumN n (fun j => sumN m (fun i => f i j) + f m j)
    rw [ih, sumN_add]
end Go.Proofs.Ytpelnfenfeoeeaa
end

section
/-
  Determinants: expansion along the first column; linear in each row; 0 where two rows are equal. Plain mathematics: nothing of a program is used.
-/
namespace Go.Proofs.Ytpelnfenfeoeeaa

/-! ### Sums -/
theorem sumN_first (n : Nat) (f : Nat → Int) : sumN (n + 1) f = f 0 + sumN n (fun i => f (i + 1)) := by
  induction n with
  | zero => show 0 + f 0 = f 0 + 0; omega
  | succ n ih =>
    show sumN (n + 1) f + f (n + 1) = f 0 + (sumN n (fun i => f (i + 1)) + f (n + 1))
    rw [ih]; omega
theorem sumN_all_zero {n : Nat} {f : Nat → Int} (h : ∀ k, k < n → f k = 0) : sumN n f = 0 := by
  rw [sumN_congr h]; exact sumN_zero n
theorem sumN_one {n a : Nat} {f : Nat → Int} (ha : a < n) (h : ∀ k, k < n → k ≠ a → f k = 0) : sumN n f = f a := by
  induction n with
  | zero => omega
  | succ n ih =>
    show sumN n f + f n = f a
    rcases Nat.lt_or_ge a n with h1 | h1
    · rw [ih h1 (fun k hk hne => h k (by omega) hne), h n (by omega) (by omega)]; omega
    · obtain rfl : a = n := by omega
      rw [sumN_all_zero (fun k hk => h k (by omega) (by omega))]; omega
theorem sumN_two {n a b : Nat} {f : Nat → Int} (ha : a < b) (hb : b < n) (h : ∀ k, k < n → k ≠ a → k ≠ b → f k = 0) : sumN n f = f a + f b := by
  have e : sumN n f = sumN n (fun k => (if k = a then f a else 0) + (if k = b then f b else 0)) := by
    refine sumN_congr fun k hk => ?_
    by_cases h1 : k = a
    · subst h1; rw [if_pos rfl, if_neg (by omega)]; omega
    · by_cases h2 : k = b
      · subst h2; rw [if_neg h1, if_pos rfl]; omega
      · rw [if_neg h1, if_neg h2, h k hk h1 h2]; rfl
  rw [e, sumN_add, sumN_one (a := a) (by omega) (fun k _ hk => if_neg hk), sumN_one (a := b) hb (fun k _ hk => if_neg hk), if_pos rfl, if_pos rfl]

/-! ### Signs, places -/
def sg (k : Nat) : Int := if k % 2 = 0 then 1 else -1
theorem sg_zero : sg 0 = 1 := rfl
theorem sg_succ (k : Nat) : sg (k + 1) = -sg k := by
  unfold sg
  by_cases h : k % 2 = 0
  · rw [if_pos h, if_neg (by omega)]
  · rw [if_neg h, if_pos (by omega)]; rfl
theorem sg_add (a b : Nat) : sg (a + b) = sg a * sg b := by
  induction b with
  | zero => rw [Nat.add_zero, sg_zero, Int.mul_one]
  | succ b ih => rw [← Nat.add_assoc, sg_succ, sg_succ, ih, Int.mul_neg]
theorem sg_sq (a : Nat) : sg a * sg a = 1 := by
  unfold sg
  split <;> rfl
/-- All numbers but j, in order. -/
def skp (j k : Nat) : Nat := if k < j then k else k + 1
def unskp (j k : Nat) : Nat := if k < j then k else k - 1
theorem skp_ne (j k : Nat) : skp j k ≠ j := by unfold skp; split <;> omega
theorem skp_lt {j k n : Nat} (h : k < n) : skp j k < n + 1 := by unfold skp; split <;> omega
theorem skp_unskp {j k : Nat} (h : k ≠ j) : skp j (unskp j k) = k := by
  unfold skp unskp
  by_cases h1 : k < j
  · rw [if_pos h1, if_pos h1]
  · rw [if_neg h1, if_neg (by omega)]; omega
theorem unskp_skp (j k : Nat) : unskp j (skp j k) = k := by
  unfold skp unskp
  by_cases h1 : k < j
  · rw [if_pos h1, if_pos h1]
  · rw [if_neg h1, if_neg (by omega)]; omega
theorem unskp_lt {j k n : Nat} (h : k ≠ j) (hk : k < n + 1) (hj : j < n + 1) : unskp j k < n := by unfold unskp; split <;> omega
theorem skp_zero (k : Nat) : skp 0 k = k + 1 := by unfold skp; rw [if_neg (by omega)]
theorem skp_succ (j k : Nat) : skp (j + 1) (k + 1) = skp j k + 1 := by
  unfold skp
  by_cases h : k < j
  · rw [if_pos h, if_pos (by omega)]
  · rw [if_neg h, if_neg (by omega)]
theorem skp_first (j : Nat) (h : 0 < j) : skp j 0 = 0 := by unfold skp; rw [if_pos h]
theorem skp_inj {j k l : Nat} (h : skp j k = skp j l) : k = l := by rw [← unskp_skp j k, h, unskp_skp]

/-! ### Matrices as functions -/
abbrev Mx : Type := Nat → Nat → Int
/-- Equal within n rows and n columns. -/
def EqX (n : Nat) (A B : Mx) : Prop := ∀ r c, r < n → c < n → A r c = B r c
theorem EqX.symm {n : Nat} {A B : Mx} (h : EqX n A B) : EqX n B A := fun r c hr hc => (h r c hr hc).symm
theorem EqX.refl (n : Nat) (A : Mx) : EqX n A A := fun _ _ _ _ => rfl
def mnr (A : Mx) (i j : Nat) : Mx := fun r c => A (skp i r) (skp j c)
def stR (A : Mx) (r : Nat) (v : Nat → Int) : Mx := fun i j => if i = r then v j else A i j
theorem stR_at (A : Mx) (r : Nat) (v : Nat → Int) (c : Nat) : stR A r v r c = v c := if_pos rfl
theorem stR_ne (A : Mx) (r i : Nat) (v : Nat → Int) (c : Nat) (h : i ≠ r) : stR A r v i c = A i c := if_neg h
theorem stR_self (A : Mx) (r : Nat) : stR A r (A r) = A := by
  funext i j
  unfold stR
  split
  · rename_i h; rw [h]
  · rfl
theorem EqX.mnr {n i j : Nat} {A B : Mx} (h : EqX (n + 1) A B) : EqX n (mnr A i j) (mnr B i j) := fun _ _ hr hc => h _ _ (skp_lt hr) (skp_lt hc)
/-- The determinant, expanded along the first column. -/
def det : Nat → Mx → Int
  | 0, _ => 1
  | n + 1, A => sumN (n + 1) fun i => sg i * A i 0 * det n (mnr A i 0)
theorem det_succ (n : Nat) (A : Mx) : det (n + 1) A = sumN (n + 1) fun i => sg i * A i 0 * det n (mnr A i 0) := rfl
theorem det_congr {n : Nat} {A B : Mx} (h : EqX n A B) : det n A = det n B := by
  induction n generalizing A B with
  | zero => rfl
  | succ n ih =>
    rw [det_succ, det_succ]
    refine sumN_congr fun i hi => ?_
    rw [h i 0 hi (by omega), ih h.mnr]
theorem mnr_stR_same (A : Mx) (r j : Nat) (v : Nat → Int) : mnr (stR A r v) r j = mnr A r j := by
  funext i c
  exact stR_ne A r _ v _ (skp_ne r i)
theorem mnr_stR (A : Mx) (i r j : Nat) (v : Nat → Int) (h : r ≠ i) : mnr (stR A r v) i j = stR (mnr A i j) (unskp i r) (fun c => v (skp j c)) := by
  funext k c
  show (if skp i k = r then v (skp j c) else A (skp i k) (skp j c)) = if k = unskp i r then v (skp j c) else A (skp i k) (skp j c)
  by_cases e : k = unskp i r
  · rw [if_pos e, if_pos (by rw [e]; exact skp_unskp h)]
  · rw [if_neg e, if_neg (fun e2 => e (by rw [← e2, unskp_skp]))]

/-! ### Functions of rows -/
/-- Depends on the entries within n rows and columns. -/
def Loc (n : Nat) (f : Mx → Int) : Prop := ∀ A B, EqX n A B → f A = f B
/-- Linear in each row. -/
def Lin (n : Nat) (f : Mx → Int) : Prop := ∀ (A : Mx) (r : Nat) (u v : Nat → Int) (x y : Int), r < n → f (stR A r fun c => x * u c + y * v c) = x * f (stR A r u) + y * f (stR A r v)
/-- 0 where rows r and s are equal. -/
def AltAt (n r s : Nat) (f : Mx → Int) : Prop := ∀ A, (∀ c, c < n → A r c = A s c) → f A = 0
def Alt (n : Nat) (f : Mx → Int) : Prop := ∀ r s, r < s → s < n → AltAt n r s f

theorem det_loc (n : Nat) : Loc n (det n) := fun _ _ h => det_congr h
theorem det_lin (n : Nat) : Lin n (det n) := by
  induction n with
  | zero => intro A r u v x y hr; omega
  | succ n ih =>
    intro A r u v x y hr
    rw [det_succ, det_succ, det_succ, sumN_mul_left, sumN_mul_left, ← sumN_add]
    refine sumN_congr fun i hi => ?_
    by_cases h : i = r
    · subst h
      rw [stR_at, stR_at, stR_at, mnr_stR_same, mnr_stR_same, mnr_stR_same]
      generalize det n (mnr A i 0) = d
      generalize sg i = s
      grind
    · rw [stR_ne _ _ _ _ _ h, stR_ne _ _ _ _ _ h, stR_ne _ _ _ _ _ h, mnr_stR _ _ _ _ _ (Ne.symm h), mnr_stR _ _ _ _ _ (Ne.symm h), mnr_stR _ _ _ _ _ (Ne.symm h)]
      rw [ih (mnr A i 0) (unskp i r) (fun c => u (skp 0 c)) (fun c => v (skp 0 c)) x y (unskp_lt (Ne.symm h) hr hi)]
      generalize det n (stR (mnr A i 0) (unskp i r) fun c => u (skp 0 c)) = d
      generalize det n (stR (mnr A i 0) (unskp i r) fun c => v (skp 0 c)) = e
      generalize sg i = s
      grind
theorem det_adj (n : Nat) : ∀ r, r + 1 < n → AltAt n r (r + 1) (det n) := by
  induction n with
  | zero => intro r hr; omega
  | succ n ih =>
    intro r hr A hA
    rw [det_succ, sumN_two (a := r) (b := r + 1) (by omega) hr]
    · have e : EqX n (mnr A (r + 1) 0) (mnr A r 0) := fun k c hk hc => by
        show A (skp (r + 1) k) (skp 0 c) = A (skp r k) (skp 0 c)
        by_cases h : k = r
        · subst h
          have e1 : skp (k + 1) k = k := by unfold skp; rw [if_pos (by omega)]
          have e2 : skp k k = k + 1 := by unfold skp; rw [if_neg (by omega)]
          rw [e1, e2]
          exact hA _ (skp_lt hc)
        · have e1 : skp (r + 1) k = skp r k := by
            unfold skp
            by_cases h1 : k < r
            · rw [if_pos h1, if_pos (by omega)]
            · rw [if_neg h1, if_neg (by omega)]
          rw [e1]
      rw [det_congr e, sg_succ, hA 0 (by omega)]
      generalize det n (mnr A r 0) = d
      generalize sg r = s
      grind
    · intro i hi h1 h2
      have hz : det n (mnr A i 0) = 0 := by
        rcases Nat.lt_or_ge i r with h | h
        · refine ih (r - 1) (by omega) _ fun c hc => ?_
          show A (skp i (r - 1)) (skp 0 c) = A (skp i (r - 1 + 1)) (skp 0 c)
          have e1 : skp i (r - 1) = r := by unfold skp; rw [if_neg (by omega)]; omega
          have e2 : skp i (r - 1 + 1) = r + 1 := by unfold skp; rw [if_neg (by omega)]; omega
          rw [e1, e2]
          exact hA _ (skp_lt hc)
        · refine ih r (by omega) _ fun c hc => ?_
          show A (skp i r) (skp 0 c) = A (skp i (r + 1)) (skp 0 c)
          have e1 : skp i r = r := by unfold skp; rw [if_pos (by omega)]
          have e2 : skp i (r + 1) = r + 1 := by unfold skp; rw [if_pos (by omega)]
          rw [e1, e2]
          exact hA _ (skp_lt hc)
      rw [hz, Int.mul_zero]

/-- Rows r and s change places. -/
def swR (A : Mx) (r s : Nat) : Mx := fun i j => if i = r then A s j else if i = s then A r j else A i j
theorem swap_of {n r s : Nat} {f : Mx → Int} (hl : Lin n f) (ha : AltAt n r s f) (hrs : r ≠ s) (hr : r < n) (hs : s < n) (A : Mx) : f (swR A r s) = -f A := by
  have L1 : ∀ (A : Mx) (q : Nat) (u v : Nat → Int), q < n → f (stR A q fun c => u c + v c) = f (stR A q u) + f (stR A q v) := fun A q u v hq => by
    have := hl A q u v 1 1 hq
    simp only [Int.one_mul] at this
    exact this
  have ee : ∀ u : Nat → Int, f (stR (stR A r u) s u) = 0 := fun u => ha _ fun c _ => by
    rw [stR_at, stR_ne _ _ _ _ _ hrs, stR_at]
  have h0 := ee (fun c => A r c + A s c)
  rw [L1 _ s _ _ hs] at h0
  have c1 : ∀ u v : Nat → Int, stR (stR A r u) s v = stR (stR A s v) r u := fun u v => by
    funext i j
    unfold stR
    by_cases h1 : i = s
    · subst h1; rw [if_pos rfl, if_neg (Ne.symm hrs), if_pos rfl]
    · rw [if_neg h1]
      by_cases h2 : i = r
      · rw [if_pos h2, if_pos h2]
      · rw [if_neg h2, if_neg h2, if_neg h1]
  rw [c1, c1, L1 _ r _ _ hr, L1 _ r _ _ hr, ← c1, ← c1, ← c1, ← c1, ee, ee] at h0
  have e1 : stR (stR A r (A r)) s (A s) = A := by rw [stR_self, stR_self]
  have e2 : stR (stR A r (A s)) s (A r) = swR A r s := by
    funext i j
    unfold stR swR
    by_cases h1 : i = s
    · subst h1; rw [if_pos rfl, if_neg (Ne.symm hrs), if_pos rfl]
    · rw [if_neg h1, if_neg h1]
  rw [e1, e2] at h0
  omega
theorem det_alt (n : Nat) : Alt n (det n) := by
  have key : ∀ d r, r + d + 1 < n → AltAt n r (r + d + 1) (det n) := by
    intro d
    induction d with
    | zero => intro r hr; exact det_adj n r hr
    | succ d ih =>
      intro r hr A hA
      have h1 := swap_of (det_lin n) (det_adj n (r + d + 1) hr) (by omega) (by omega) hr A
      have h2 := ih r (by omega) (swR A (r + d + 1) (r + d + 1 + 1)) fun c hc => by
        unfold swR
        rw [if_neg (by omega), if_neg (by omega), if_pos rfl]
        exact hA c hc
      rw [h2] at h1
      omega
  intro r s hrs hs
  obtain ⟨d, rfl⟩ : ∃ d, s = r + d + 1 := ⟨s - r - 1, by omega⟩
  exact key d r hs
theorem alt_at {n r s : Nat} {f : Mx → Int} (ha : Alt n f) (hrs : r ≠ s) (hr : r < n) (hs : s < n) : AltAt n r s f := by
  rcases Nat.lt_or_ge r s with h | h
  · exact ha r s h hs
  · exact fun A hA => ha s r (by omega) hr A fun c hc => (hA c hc).symm
theorem alt_swap {n r s : Nat} {f : Mx → Int} (hl : Lin n f) (ha : Alt n f) (hrs : r ≠ s) (hr : r < n) (hs : s < n) (A : Mx) : f (swR A r s) = -f A :=
  swap_of hl (alt_at ha hrs hr hs) hrs hr hs A
theorem lin_zero {n r : Nat} {f : Mx → Int} (hl : Lin n f) (hr : r < n) (A : Mx) : f (stR A r fun _ => 0) = 0 := by
  have := hl A r (fun _ => 0) (fun _ => 0) 0 0 hr
  simp only [Int.zero_mul, Int.add_zero] at this
  exact this
theorem lin_scale {n r : Nat} {f : Mx → Int} (hl : Lin n f) (hr : r < n) (A : Mx) (x : Int) (u : Nat → Int) : f (stR A r fun c => x * u c) = x * f (stR A r u) := by
  have := hl A r u u x 0 hr
  simp only [Int.zero_mul, Int.add_zero] at this
  exact this
theorem lin_sum {n r : Nat} {f : Mx → Int} (hl : Lin n f) (hr : r < n) (A : Mx) (m : Nat) (x : Nat → Int) (u : Nat → Nat → Int) :
    f (stR A r fun c => sumN m fun k => x k * u k c) = sumN m fun k => x k * f (stR A r (u k)) := by
  induction m with
  | zero => exact lin_zero hl hr A
  | succ m ih =>
    have := hl A r (fun c => sumN m fun k => x k * u k c) (u m) 1 (x m) hr
    simp only [Int.one_mul] at this
    show f (stR A r fun c => (sumN m fun k => x k * u k c) + x m * u m c) = _
    rw [this, ih]
    rfl
/-- A multiple of one row added to another one changes nothing. -/
theorem alt_add {n r s : Nat} {f : Mx → Int} (hl : Lin n f) (ha : Alt n f) (hrs : r ≠ s) (hr : r < n) (hs : s < n) (A : Mx) (x : Int) : f (stR A r fun c => A r c + x * A s c) = f A := by
  have := hl A r (A r) (A s) 1 x hr
  simp only [Int.one_mul] at this
  rw [this, stR_self, alt_at ha hrs hr hs (stR A r (A s)) (fun c _ => by rw [stR_at, stR_ne _ _ _ _ _ (Ne.symm hrs)])]
  omega
end Go.Proofs.Ytpelnfenfeoeeaa
end

section
/-
  Plain mathematics of chapter 7: what rows span over the rational numbers; echelon forms are unique. Nothing of a program is used.
-/
namespace Go.Proofs.Ytpelnfenfeoeeaa

/-- A multiple of v (not by 0) is a combination of the first r rows. -/
def InSp (r c : Nat) (A : Mx) (v : Nat → Int) : Prop := ∃ (d : Int) (k : Nat → Int), d ≠ 0 ∧ ∀ j, j < c → d * v j = sumN r fun i => k i * A i j
/-- Each of the first r rows of A is in the span of the first s rows of B. -/
def SubSp (r s c : Nat) (A B : Mx) : Prop := ∀ i, i < r → InSp s c B (A i)
theorem InSp.congr {r c : Nat} {A : Mx} {v u : Nat → Int} (h : InSp r c A v) (e : ∀ j, j < c → u j = v j) : InSp r c A u := by
  obtain ⟨d, k, hd, hk⟩ := h
  exact ⟨d, k, hd, fun j hj => by rw [e j hj]; exact hk j hj⟩
theorem InSp.row {r c i : Nat} {A : Mx} (hi : i < r) : InSp r c A (A i) := by
  refine ⟨1, fun k => if k = i then 1 else 0, by decide, fun j _ => ?_⟩
  rw [sumN_one hi (fun k _ hne => by show (if k = i then (1 : Int) else 0) * A k j = 0; rw [if_neg hne, Int.zero_mul])]
  show 1 * A i j = (if i = i then (1 : Int) else 0) * A i j
  rw [if_pos rfl]
theorem InSp.zero (r c : Nat) (A : Mx) : InSp r c A fun _ => 0 := ⟨1, fun _ => 0, by decide, fun j _ => by rw [sumN_all_zero (fun k _ => by rw [Int.zero_mul])]; rfl⟩
theorem InSp.add {r c : Nat} {A : Mx} {u v : Nat → Int} (h : InSp r c A u) (h' : InSp r c A v) (x y : Int) : InSp r c A fun j => x * u j + y * v j := by
  obtain ⟨d, k, hd, hk⟩ := h
  obtain ⟨e, l, he, hl⟩ := h'
  refine ⟨d * e, fun i => x * e * k i + y * d * l i, Int.mul_ne_zero hd he, fun j hj => ?_⟩
  have e1 : d * e * (x * u j + y * v j) = x * e * (d * u j) + y * d * (e * v j) := by grind
  rw [e1, hk j hj, hl j hj, sumN_mul_left, sumN_mul_left, ← sumN_add]
  exact sumN_congr fun i _ => by grind
theorem InSp.comb {r c : Nat} {A : Mx} {V : Mx} {k : Nat → Int} : ∀ {m : Nat}, (∀ i, i < m → InSp r c A (V i)) → InSp r c A fun j => sumN m fun i => k i * V i j := by
  intro m
  induction m with
  | zero => intro _; exact InSp.zero r c A
  | succ m ih =>
    intro h
    have := (ih fun i hi => h i (by omega)).add (h m (by omega)) 1 (k m)
    exact this.congr fun j _ => by show sumN m _ + k m * V m j = _; rw [Int.one_mul]
theorem InSp.of_mul {r c : Nat} {A : Mx} {v : Nat → Int} {d : Int} (hd : d ≠ 0) (h : InSp r c A fun j => d * v j) : InSp r c A v := by
  obtain ⟨e, k, he, hk⟩ := h
  exact ⟨e * d, k, Int.mul_ne_zero he hd, fun j hj => by rw [Int.mul_assoc]; exact hk j hj⟩
theorem SubSp.mem {r s c : Nat} {A B : Mx} (h : SubSp r s c A B) {v : Nat → Int} (hv : InSp r c A v) : InSp s c B v := by
  obtain ⟨d, k, hd, hk⟩ := hv
  exact InSp.of_mul hd ((InSp.comb (k := k) h).congr hk)
theorem SubSp.refl (r c : Nat) (A : Mx) : SubSp r r c A A := fun _ hi => InSp.row hi
theorem SubSp.trans {r s t c : Nat} {A B C : Mx} (h : SubSp r s c A B) (h' : SubSp s t c B C) : SubSp r t c A C := fun i hi => h'.mem (h i hi)
/-- Nothing but a unit divides all of the first c cells. -/
def Prim (c : Nat) (v : Nat → Int) : Prop := ∀ g : Int, 0 < g → (∀ j, j < c → g ∣ v j) → g = 1
/-- A reduced echelon form with t pivots in the columns p, its rows primitive. -/
structure Ech (r c : Nat) (A : Mx) (p : Nat → Nat) (t : Nat) : Prop where
  le : t ≤ r
  col : ∀ k, k < t → p k < c
  inc : ∀ k l, k < l → l < t → p k < p l
  pos : ∀ k, k < t → 0 < A k (p k)
  only : ∀ k i, k < t → i < r → i ≠ k → A i (p k) = 0
  left : ∀ k j, k < t → j < p k → A k j = 0
  rest : ∀ i j, t ≤ i → i < r → j < c → A i j = 0
  prim : ∀ k, k < t → Prim c (A k)
section
variable {r c t : Nat} {A : Mx} {p : Nat → Nat} {v : Nat → Int}
theorem Ech.coef (h : Ech r c A p t) {d : Int} {k : Nat → Int} (hk : ∀ j, j < c → d * v j = sumN r fun i => k i * A i j) {l : Nat} (hl : l < t) : d * v (p l) = k l * A l (p l) := by
  rw [hk _ (h.col l hl), sumN_one (a := l) (by have := h.le; omega) (fun i hi hne => by rw [h.only l i hl hi hne, Int.mul_zero])]
/-- The first cell of a vector of the span that is not 0 stands in a pivot's column. -/
theorem Ech.lead (h : Ech r c A p t) (hv : InSp r c A v) {j : Nat} (hj : j < c) (h0 : ∀ i, i < j → v i = 0) (hn : v j ≠ 0) : ∃ l, l < t ∧ p l = j := by
  obtain ⟨d, k, hd, hk⟩ := hv
  refine Classical.byContradiction fun hno => ?_
  have hall : ∀ l, l < t → p l ≠ j := fun l hl e => hno ⟨l, hl, e⟩
  have hs : d * v j = 0 := by
    rw [hk j hj]
    refine sumN_all_zero fun i hi => ?_
    rcases Nat.lt_or_ge i t with hit | hit
    · rcases Nat.lt_or_ge (p i) j with h1 | h1
      · have e := h.coef hk hit
        rw [h0 _ h1, Int.mul_zero] at e
        have := h.pos i hit
        rcases Int.mul_eq_zero.mp e.symm with h2 | h2
        · rw [h2, Int.zero_mul]
        · omega
      · have := hall i hit
        rw [h.left i j hit (by omega), Int.mul_zero]
    · rw [h.rest i j hit hi hj, Int.mul_zero]
  rcases Int.mul_eq_zero.mp hs with h1 | h1
  · exact hd h1
  · exact hn h1
theorem Ech.none (h : Ech r c A p t) (hv : InSp r c A v) (h0 : ∀ l, l < t → v (p l) = 0) : ∀ j, j < c → v j = 0 := by
  intro j
  induction j using Nat.strongRecOn with
  | ind j ih =>
    intro hj
    refine Classical.byContradiction fun hn => ?_
    obtain ⟨l, hl, e⟩ := h.lead hv hj (fun i hi => ih i hi (by omega)) hn
    exact hn (by rw [← e]; exact h0 l hl)
end
/-- Two rising lists of which each number of the one is one of the other. -/
theorem inc_at {t s : Nat} {p q : Nat → Nat} (hp : ∀ k l, k < l → l < t → p k < p l) (hq : ∀ k l, k < l → l < s → q k < q l) (h : ∀ k, k < t → ∃ l, l < s ∧ q l = p k) : ∀ k, k < t → ∃ l, k ≤ l ∧ l < s ∧ q l = p k := by
  intro k
  induction k with
  | zero => intro hk; obtain ⟨l, h1, h2⟩ := h 0 hk; exact ⟨l, by omega, h1, h2⟩
  | succ k ih =>
    intro hk
    obtain ⟨l, h1, h2, h3⟩ := ih (by omega)
    obtain ⟨l', h4, h5⟩ := h (k + 1) hk
    refine ⟨l', ?_, h4, h5⟩
    have hlt := hp k (k + 1) (by omega) hk
    rcases Nat.lt_trichotomy l l' with h6 | h6 | h6
    · omega
    · subst h6; omega
    · have := hq l' l h6 h2; omega
theorem inc_le {t s : Nat} {p q : Nat → Nat} (hp : ∀ k l, k < l → l < t → p k < p l) (hq : ∀ k l, k < l → l < s → q k < q l) (h : ∀ k, k < t → ∃ l, l < s ∧ q l = p k) : t ≤ s := by
  rcases Nat.eq_zero_or_pos t with h0 | h0
  · omega
  · obtain ⟨l, h1, h2, -⟩ := inc_at hp hq h (t - 1) (by omega)
    omega
theorem inc_eq {t : Nat} {p q : Nat → Nat} (hp : ∀ k l, k < l → l < t → p k < p l) (hq : ∀ k l, k < l → l < t → q k < q l) (h : ∀ k, k < t → ∃ l, l < t ∧ q l = p k) : ∀ m k, k + m = t → 0 < m → q k = p k := by
  intro m
  induction m with
  | zero => intro k _ h0; omega
  | succ m ih =>
    intro k hk _
    obtain ⟨l, h1, h2, h3⟩ := inc_at hp hq h k (by omega)
    rcases Nat.lt_or_ge k l with h4 | h4
    · -- l is behind k: p l is met behind l
      have h5 := ih (k + 1) (by omega) (by omega)
      have h6 := hp k (k + 1) (by omega) (by omega)
      rcases Nat.lt_or_ge (k + 1) l with h7 | h7
      · have := hq (k + 1) l h7 h2; omega
      · obtain rfl : l = k + 1 := by omega
        omega
    · obtain rfl : l = k := by omega
      exact h3
theorem Ech.head {r c t : Nat} {A : Mx} {p : Nat → Nat} (h : Ech r c A p t) {s s' : Nat} {B : Mx} {q : Nat → Nat} (hB : Ech s c B q s') (hs : SubSp r s c A B) : ∀ k, k < t → ∃ l, l < s' ∧ q l = p k := fun k hk =>
  hB.lead (hs k (by have := h.le; omega)) (h.col k hk) (fun i hi => h.left k i hk hi) (by have := h.pos k hk; omega)
theorem Ech.count {r c t : Nat} {A : Mx} {p : Nat → Nat} (h : Ech r c A p t) {s s' : Nat} {B : Mx} {q : Nat → Nat} (hB : Ech s c B q s') (hs : SubSp r s c A B) : t ≤ s' := inc_le h.inc hB.inc (h.head hB hs)
theorem Ech.cols {r c t : Nat} {A : Mx} {p : Nat → Nat} (h : Ech r c A p t) {s : Nat} {B : Mx} {q : Nat → Nat} (hB : Ech s c B q t) (hs : SubSp r s c A B) : ∀ k, k < t → q k = p k := fun k hk => inc_eq h.inc hB.inc (h.head hB hs) (t - k) k (by omega) (by omega)
/-- Of one space inside another with as many pivots, both are one. -/
theorem Ech.whole {r c t : Nat} {A : Mx} {p : Nat → Nat} (h : Ech r c A p t) {s : Nat} {B : Mx} {q : Nat → Nat} (hB : Ech s c B q t) (hs : SubSp r s c A B) : SubSp s r c B A := fun i hi => by
  have hc := h.cols hB hs
  rcases Nat.lt_or_ge i t with hit | hit
  · have hir : i < r := by have := h.le; omega
    have hw : InSp s c B fun j => A i (p i) * B i j + -(B i (p i)) * A i j := (InSp.row hi).add (hs i hir) _ _
    have h0 := hB.none hw (fun l hl => by
      rw [hc l hl]
      by_cases e : l = i
      · subst e; grind
      · have e1 := h.only l i hl hir (fun h => e h.symm)
        have e2 := hB.only l i hl hi (fun h => e h.symm)
        rw [hc l hl] at e2
        rw [e1, e2]; simp)
    have hp := h.pos i hit
    refine InSp.of_mul (d := A i (p i)) (by omega) (((InSp.row (c := c) hir).add (InSp.zero r c A) (B i (p i)) 0).congr fun j hj => ?_)
    have := h0 j hj
    grind
  · exact (InSp.zero r c A).congr fun j hj => hB.rest i j hit hi hj
theorem prim_scale {c : Nat} {u v : Nat → Int} {x y : Int} (hu : Prim c u) (hv : Prim c v) (hx : 0 < x) (hy : 0 < y) (h : ∀ j, j < c → x * u j = y * v j) : ∀ j, j < c → u j = v j := by
  -- both multipliers without their common divisor
  have key : ∀ {u v : Nat → Int} {x y : Int}, Prim c v → 0 < x → 0 < y → (∀ j, j < c → x * u j = y * v j) → x ∣ y := fun {u v x y} hv hx hy h => by
    obtain ⟨g, hg⟩ : ∃ g, (Int.gcd x y : Int) = g := ⟨_, rfl⟩
    have g0 : 0 < g := by rw [← hg]; have := Int.gcd_pos_of_ne_zero_left y (show x ≠ 0 by omega); omega
    obtain ⟨x', hx'⟩ : g ∣ x := by rw [← hg]; exact Int.gcd_dvd_left ..
    obtain ⟨y', hy'⟩ : g ∣ y := by rw [← hg]; exact Int.gcd_dvd_right ..
    have x0 : 0 < x' := by
      rw [hx'] at hx
      exact Int.pos_of_mul_pos_right hx g0
    have cop : Int.gcd x' y' = 1 := by
      have e : (Int.gcd (g * x') (g * y') : Int) = g := by rw [← hx', ← hy']; exact hg
      rw [Int.gcd_mul_left] at e
      have e2 : (g.natAbs : Int) = g := by omega
      have : (g.natAbs : Int) * (Int.gcd x' y' : Int) = g := by rw [← Int.natCast_mul]; exact e
      rw [e2] at this
      have h3 : g * (Int.gcd x' y' : Int) = g * 1 := by rw [this, Int.mul_one]
      have := Int.eq_of_mul_eq_mul_left (by omega) h3
      omega
    have dv : ∀ j, j < c → x' ∣ v j := fun j hj => by
      have e := h j hj
      rw [hx', hy', Int.mul_assoc, Int.mul_assoc] at e
      have e2 := Int.eq_of_mul_eq_mul_left (show g ≠ 0 by omega) e
      have : x' ∣ y' * v j := ⟨u j, e2.symm⟩
      have h1 : x'.natAbs ∣ y'.natAbs * (v j).natAbs := by rw [← Int.natAbs_mul]; exact Int.natAbs_dvd_natAbs.mpr this
      exact Int.natAbs_dvd_natAbs.mp (Nat.Coprime.dvd_of_dvd_mul_left cop h1)
    have := hv x' x0 dv
    rw [hx', this, Int.mul_one]
    exact ⟨y', hy'⟩
  have h1 : x ∣ y := key hv hx hy h
  have h2 : y ∣ x := key hu hy hx fun j hj => (h j hj).symm
  have e : x = y := by
    have a1 := Int.le_of_dvd hy h1
    have a2 := Int.le_of_dvd hx h2
    omega
  intro j hj
  have := h j hj
  rw [e] at this
  exact Int.eq_of_mul_eq_mul_left (by omega) this
/-- Echelon forms of one space are equal. -/
theorem Ech.uniq {r c t : Nat} {A : Mx} {p : Nat → Nat} (h : Ech r c A p t) {s t' : Nat} {B : Mx} {q : Nat → Nat} (hB : Ech s c B q t') (hs : SubSp r s c A B) (hs' : SubSp s r c B A) : t = t' ∧ (∀ k, k < t → q k = p k) ∧ ∀ k j, k < t → j < c → B k j = A k j := by
  have e1 := h.count hB hs
  have e2 := hB.count h hs'
  obtain rfl : t = t' := by omega
  have hc := h.cols hB hs
  refine ⟨rfl, hc, fun k j hk hj => ?_⟩
  have hkr : k < r := by have := h.le; omega
  have hks : k < s := by have := hB.le; omega
  have hw : InSp s c B fun j => A k (p k) * B k j + -(B k (p k)) * A k j := (InSp.row hks).add (hs k hkr) _ _
  have h0 := hB.none hw (fun l hl => by
    rw [hc l hl]
    by_cases e : l = k
    · subst e; grind
    · have e1 := h.only l k hl hkr (fun h => e h.symm)
      have e2 := hB.only l k hl hks (fun h => e h.symm)
      rw [hc l hl] at e2
      rw [e1, e2]; simp)
  have hp := h.pos k hk
  have hq := hB.pos k hk
  rw [hc k hk] at hq
  exact prim_scale (hB.prim k hk) (h.prim k hk) hp hq (fun j hj => by have := h0 j hj; grind) j hj
end Go.Proofs.Ytpelnfenfeoeeaa
end

section
/-
  Plain mathematics of chapter 12: lattices of rows; Hermite forms are unique. Nothing of a program is used.
-/
namespace Go.Proofs.Ytpelnfenfeoeeaa

/-- A row is a combination of the rows of A with whole coefficients. -/
def InL (r c : Nat) (A : Mx) (v : Nat → Int) : Prop := ∃ k : Nat → Int, ∀ j, j < c → v j = sumN r fun i => k i * A i j
/-- Each row of A is one of B. -/
def SubL (r s c : Nat) (A B : Mx) : Prop := ∀ i, i < r → InL s c B (A i)
section
variable {r s t c : Nat} {A B C : Mx} {u v : Nat → Int}
theorem InL.congr (h : InL r c A v) (e : ∀ j, j < c → u j = v j) : InL r c A u := by
  obtain ⟨k, hk⟩ := h
  exact ⟨k, fun j hj => (e j hj).trans (hk j hj)⟩
theorem sumN_unitL {n a : Nat} (ha : a < n) (f : Nat → Int) : (sumN n fun i => (if i = a then 1 else 0) * f i) = f a := by
  rw [sumN_one (a := a) ha (fun i hi hne => by rw [if_neg hne, Int.zero_mul]), if_pos rfl, Int.one_mul]
theorem InL.row {i : Nat} (hi : i < r) : InL r c A (A i) := ⟨fun k => if k = i then 1 else 0, fun j _ => (sumN_unitL hi fun k => A k j).symm⟩
theorem InL.zero : InL r c A fun _ => 0 := ⟨fun _ => 0, fun j _ => by rw [sumN_all_zero fun k _ => Int.zero_mul _]⟩
theorem InL.add (h : InL r c A u) (h' : InL r c A v) (x y : Int) : InL r c A fun j => x * u j + y * v j := by
  obtain ⟨k, hk⟩ := h
  obtain ⟨l, hl⟩ := h'
  refine ⟨fun i => x * k i + y * l i, fun j hj => ?_⟩
  show x * u j + y * v j = _
  rw [hk j hj, hl j hj, sumN_mul_left, sumN_mul_left, ← sumN_add]
  exact sumN_congr fun i _ => by grind
theorem InL.comb {V : Mx} {k : Nat → Int} : ∀ {m : Nat}, (∀ i, i < m → InL r c A (V i)) → InL r c A fun j => sumN m fun i => k i * V i j := by
  intro m
  induction m with
  | zero => intro _; exact InL.zero
  | succ m ih => intro h; exact ((ih fun i hi => h i (by omega)).add (h m (by omega)) 1 (k m)).congr fun j _ => by show (sumN m fun i => k i * V i j) + k m * V m j = _; rw [Int.one_mul]
theorem SubL.mem (h : SubL r s c A B) (hv : InL r c A v) : InL s c B v := by
  obtain ⟨k, hk⟩ := hv
  exact (InL.comb (k := k) h).congr hk
theorem SubL.refl (r c : Nat) (A : Mx) : SubL r r c A A := fun _ hi => InL.row hi
theorem SubL.trans (h : SubL r s c A B) (h' : SubL s t c B C) : SubL r t c A C := fun i hi => h'.mem (h i hi)
theorem SubL.congr (h : ∀ i j, i < r → j < c → A i j = B i j) : SubL r r c A B := fun i hi => (InL.row hi).congr fun j hj => h i j hi hj
end
/-- A is in Hermite form, with t pivots in the columns q. -/
structure HerP (r c : Nat) (A : Mx) (q : Nat → Nat) (t : Nat) : Prop where
  le : t ≤ r
  col : ∀ k, k < t → q k < c
  inc : ∀ k l, k < l → l < t → q k < q l
  pos : ∀ k, k < t → 0 < A k (q k)
  left : ∀ k j, k < t → j < q k → A k j = 0
  rest : ∀ i j, t ≤ i → i < r → j < c → A i j = 0
  above : ∀ k i, k < t → i < k → 0 ≤ A i (q k) ∧ A i (q k) < A k (q k)
section
variable {r s c t t' : Nat} {A B : Mx} {q q' : Nat → Nat} {v : Nat → Int}
theorem HerP.mono (h : HerP r c A q t) {k l : Nat} (hkl : k ≤ l) (hl : l < t) : q k ≤ q l := by
  rcases Nat.lt_or_ge k l with h1 | h1
  · exact Nat.le_of_lt (h.inc k l h1 hl)
  · obtain rfl : k = l := by omega
    exact Nat.le_refl _
theorem HerP.inj (h : HerP r c A q t) {k l : Nat} (hk : k < t) (hl : l < t) (e : q k = q l) : k = l := by
  rcases Nat.lt_trichotomy k l with h1 | h1 | h1
  · have := h.inc k l h1 hl; omega
  · exact h1
  · have := h.inc l k h1 hk; omega
theorem first_nz (k : Nat → Int) : ∀ m : Nat, (∀ i, i < m → k i = 0) ∨ ∃ a, a < m ∧ k a ≠ 0 ∧ ∀ i, i < a → k i = 0
  | 0 => .inl fun i hi => absurd hi (by omega)
  | m + 1 => by
    rcases first_nz k m with h | ⟨a, h1, h2, h3⟩
    · by_cases h0 : k m = 0
      · refine .inl fun i hi => ?_
        rcases Nat.lt_or_ge i m with h1 | h1
        · exact h i h1
        · obtain rfl : i = m := by omega
          exact h0
      · exact .inr ⟨m, by omega, h0, h⟩
    · exact .inr ⟨a, by omega, h2, h3⟩
/-- What comes first in a row of the lattice stands in a pivot's column, and the pivot divides it. -/
theorem HerP.lead (h : HerP r c A q t) (hv : InL r c A v) {l : Nat} (hl : l < c) (h0 : ∀ j, j < l → v j = 0) (hne : v l ≠ 0) : ∃ k, k < t ∧ q k = l ∧ A k l ∣ v l := by
  obtain ⟨k, hk⟩ := hv
  have hle := h.le
  rcases first_nz k t with hz | ⟨a, ha, hka, hz⟩
  · refine absurd ?_ hne
    rw [hk l hl]
    refine sumN_all_zero fun i hi => ?_
    rcases Nat.lt_or_ge i t with h1 | h1
    · rw [hz i h1, Int.zero_mul]
    · rw [h.rest i l h1 hi hl, Int.mul_zero]
  · have hv : ∀ j, j < c → j ≤ q a → v j = k a * A a j := fun j hj hja => by
      rw [hk j hj]
      refine sumN_one (a := a) (by omega) fun i hi hia => ?_
      rcases Nat.lt_trichotomy i a with h1 | h1 | h1
      · rw [hz i h1, Int.zero_mul]
      · exact absurd h1 hia
      · rcases Nat.lt_or_ge i t with h2 | h2
        · have := h.inc a i h1 h2
          rw [h.left i j h2 (by omega), Int.mul_zero]
        · rw [h.rest i j h2 hi hj, Int.mul_zero]
    have hqc := h.col a ha
    have hp := h.pos a ha
    rcases Nat.lt_trichotomy l (q a) with h1 | h1 | h1
    · refine absurd ?_ hne
      rw [hv l hl (by omega), h.left a l ha h1, Int.mul_zero]
    · refine ⟨a, ha, h1.symm, ?_⟩
      rw [hv l hl (by omega)]
      exact Int.dvd_mul_left _ _
    · have e := hv (q a) hqc (Nat.le_refl _)
      rw [h0 (q a) h1] at e
      rcases Int.mul_eq_zero.mp e.symm with h2 | h2
      · exact absurd h2 hka
      · omega
theorem HerP.row_lead (h : HerP r c A q t) (h' : HerP s c B q' t') (hs : SubL s r c B A) {k : Nat} (hk : k < t') : ∃ m, m < t ∧ q m = q' k ∧ A m (q' k) ∣ B k (q' k) :=
  h.lead (hs k (by have := h'.le; omega)) (h'.col k hk) (fun j hj => h'.left k j hk hj) (by have := h'.pos k hk; omega)
/-- The pivots stand in the same columns. -/
theorem HerP.cols (h : HerP r c A q t) (h' : HerP s c B q' t') (h1 : SubL s r c B A) (h2 : SubL r s c A B) : ∀ n k, k < n → (k < t ↔ k < t') ∧ (k < t → q k = q' k) := by
  intro n
  induction n with
  | zero => intro k hk; omega
  | succ n ih =>
    intro k hk
    rcases Nat.lt_or_ge k n with hkn | hkn
    · exact ih k hkn
    obtain rfl : k = n := by omega
    have fwd : k < t' → k < t ∧ q k ≤ q' k := fun hk' => by
      obtain ⟨m, hm, he, -⟩ := h.row_lead h' h1 hk'
      rcases Nat.lt_or_ge m k with hmk | hmk
      · obtain ⟨a1, a2⟩ := ih m hmk
        have := h'.inc m k hmk hk'
        have := a2 hm
        omega
      · exact ⟨by omega, by rw [← he]; exact h.mono hmk hm⟩
    have bwd : k < t → k < t' ∧ q' k ≤ q k := fun hk' => by
      obtain ⟨m, hm, he, -⟩ := h'.row_lead h h2 hk'
      rcases Nat.lt_or_ge m k with hmk | hmk
      · obtain ⟨a1, a2⟩ := ih m hmk
        have := h.inc m k hmk hk'
        have := a2 (a1.mpr hm)
        omega
      · exact ⟨by omega, by rw [← he]; exact h'.mono hmk hm⟩
    refine ⟨⟨fun h3 => (bwd h3).1, fun h3 => (fwd h3).1⟩, fun h3 => ?_⟩
    have e1 := (bwd h3)
    have e2 := (fwd e1.1)
    omega
theorem small_dvd {p x y : Int} (hx : 0 ≤ x ∧ x < p) (hy : 0 ≤ y ∧ y < p) (h : p ∣ x - y) : x = y := by
  obtain ⟨k, hk⟩ := h
  rcases Int.lt_trichotomy k 0 with h1 | h1 | h1
  · have := Int.mul_le_mul_of_nonneg_left (show k ≤ -1 by omega) (show 0 ≤ p by omega)
    omega
  · rw [h1, Int.mul_zero] at hk; omega
  · have := Int.mul_le_mul_of_nonneg_left (show 1 ≤ k by omega) (show 0 ≤ p by omega)
    omega
/-- One lattice has one Hermite form. -/
theorem HerP.uniq (h : HerP r c A q t) (h' : HerP r c B q' t') (h1 : SubL r r c B A) (h2 : SubL r r c A B) : t = t' ∧ ∀ i j, i < r → j < c → A i j = B i j := by
  have hc := h.cols h' h1 h2
  have et : t = t' := by
    rcases Nat.lt_trichotomy t t' with h3 | h3 | h3
    · have := (hc (t + 1) t (by omega)).1.mpr h3; omega
    · exact h3
    · have := (hc (t' + 1) t' (by omega)).1.mp h3; omega
  subst et
  have eq : ∀ k, k < t → q k = q' k := fun k hk => (hc (k + 1) k (by omega)).2 hk
  have hle := h.le
  have ep : ∀ k, k < t → A k (q k) = B k (q k) := fun k hk => by
    obtain ⟨m, hm, he, hd⟩ := h.row_lead h' h1 hk
    have e1 := h.inj hm hk (by rw [he, eq k hk])
    subst e1
    obtain ⟨m', hm', he', hd'⟩ := h'.row_lead h h2 hk
    have e2 := h'.inj hm' hk (by rw [he', eq m hk])
    subst e2
    have p1 := h.pos m' hk
    have p2 := h'.pos m' hk
    rw [← eq m' hk] at hd p2
    have l1 := Int.le_of_dvd p2 hd
    have l2 := Int.le_of_dvd p1 hd'
    omega
  refine ⟨rfl, fun i j hi hj => ?_⟩
  rcases Nat.lt_or_ge i t with hit | hit
  rotate_left
  · rw [h.rest i j hit hi hj, h'.rest i j hit hi hj]
  have hd : InL r c A fun j => 1 * A i j + (-1) * B i j := (InL.row hi).add (h1 i hi) 1 (-1)
  have key : ∀ n j, j < n → j < c → A i j - B i j = 0 := by
    intro n
    induction n with
    | zero => intro j hj; omega
    | succ n ih =>
      intro j hj hjc
      rcases Nat.lt_or_ge j n with h3 | h3
      · exact ih j h3 hjc
      obtain rfl : j = n := by omega
      refine Classical.byContradiction fun hne => ?_
      obtain ⟨k, hk, hq, hdv⟩ := h.lead hd hjc (fun j' hj' => by have := ih j' hj' (by omega); show 1 * A i j' + (-1) * B i j' = 0; omega) (by show 1 * A i j + (-1) * B i j ≠ 0; omega)
      have hdv : A k j ∣ A i j - B i j := by
        have e : A i j - B i j = 1 * A i j + (-1) * B i j := by omega
        rw [e]; exact hdv
      subst hq
      rcases Nat.lt_trichotomy k i with h4 | h4 | h4
      · have a1 := h.left i (q k) hit (h.inc k i h4 hit)
        have a2 := h'.left i (q k) hit (by rw [eq k hk]; exact h'.inc k i h4 hit)
        omega
      · subst h4
        have := ep k hk
        omega
      · have a1 := h.above k i hk h4
        have a2 := h'.above k i hk h4
        rw [← eq k hk, ← ep k hk] at a2
        have := small_dvd a1 a2 hdv
        omega
  have := key (j + 1) j (by omega) hj
  omega
end
end Go.Proofs.Ytpelnfenfeoeeaa
end

section
/-
  A block of four cells.
-/
namespace Go.Proofs.Ytpelnfenfeoeeaa
open Go.RowKit

/-- A block of four cells, none of them frozen. -/
def Blk4 (w : World) (b : Nat) (t : TypeId) (p q r s : Value) : Prop := w.heap[b]? = some (.cells #[p, q, r, s] t (0, 0))
theorem Blk4.cell0 {w : World} {b : Nat} {t : TypeId} {p q r s : Value} (h : Blk4 w b t p q r s) : w.cell? ⟨b, 0, none⟩ = some p := by unfold Blk4 at h; simp [World.cell?, h]
theorem Blk4.cell1 {w : World} {b : Nat} {t : TypeId} {p q r s : Value} (h : Blk4 w b t p q r s) : w.cell? ⟨b, 1, none⟩ = some q := by unfold Blk4 at h; simp [World.cell?, h]
theorem Blk4.cell2 {w : World} {b : Nat} {t : TypeId} {p q r s : Value} (h : Blk4 w b t p q r s) : w.cell? ⟨b, 2, none⟩ = some r := by unfold Blk4 at h; simp [World.cell?, h]
theorem Blk4.cell3 {w : World} {b : Nat} {t : TypeId} {p q r s : Value} (h : Blk4 w b t p q r s) : w.cell? ⟨b, 3, none⟩ = some s := by unfold Blk4 at h; simp [World.cell?, h]
theorem Blk4.free {w : World} {b : Nat} {t : TypeId} {p q r s : Value} (h : Blk4 w b t p q r s) (o : Nat) : w.frozen? ⟨b, o, none⟩ = false := by unfold Blk4 at h; simp [World.frozen?, h]
theorem Blk4.lt {w : World} {b : Nat} {t : TypeId} {p q r s : Value} (h : Blk4 w b t p q r s) : b < w.heap.size := lt_of_block h
theorem Blk4.all {w : World} {b : Nat} {t : TypeId} {p q r s : Value} (h : Blk4 w b t p q r s) : w.cell? ⟨b, 0, none⟩ = some p ∧ w.cell? ⟨b, 1, none⟩ = some q ∧ w.cell? ⟨b, 2, none⟩ = some r ∧ w.cell? ⟨b, 3, none⟩ = some s :=
  ⟨h.cell0, h.cell1, h.cell2, h.cell3⟩
theorem Blk4.keep {w : World} {b : Nat} {t : TypeId} {p q r s : Value} (h : Blk4 w b t p q r s) {w' : World} {B : Nat} (hb : Below B w w') (hB : b < B) : Blk4 w' b t p q r s := (hb.block b hB).trans h
theorem Blk4.step {w : World} {b : Nat} {t : TypeId} {p q r s : Value} (h : Blk4 w b t p q r s) {w' : World} (hb : Below w.heap.size w w') : Blk4 w' b t p q r s := h.keep hb h.lt
theorem Blk4.at_ {w : World} {b : Nat} (t : TypeId) (p q r s : Value) (hb : b = w.heap.size) : Blk4 (w.alloc (.cells #[p, q, r, s] t)) b t p q r s := by
  subst hb; unfold Blk4; show (w.heap.push _)[w.heap.size]? = _
  rw [Array.getElem?_push, if_pos rfl]
theorem Blk4.old {w : World} {b : Nat} {t : TypeId} {p q r s : Value} (h : Blk4 w b t p q r s) (o : Obj) : Blk4 (w.alloc o) b t p q r s := (Below.heap_alloc w o b h.lt).trans h
theorem Blk4.keepOne {w : World} {b : Nat} {t : TypeId} {p q r s : Value} (h : Blk4 w b t p q r s) {w' : World} {c : Nat} (hg : w.grownBy w' (some c)) (hne : b ≠ c) : Blk4 w' b t p q r s := (hg.block b h.lt (by simpa using hne)).trans h
end Go.Proofs.Ytpelnfenfeoeeaa
end

section
/-
  Chapter 5, in the model: sums and products with a mark for what is beyond the limit; IsRowOp.
-/
namespace Go.Proofs.Ytpelnfenfeoeeaa
open Go.RowKit

def badN : Int := -4611686018427387904
def fitB (n : Int) : Int := if NumP n then n else badN
def addB (a b : Int) : Int := if a = badN ∨ b = badN then badN else fitB (wrap64 (a + b))
def mulB (a b : Int) : Int := if a = badN ∨ b = badN then badN else fitB (wrap64 (a * b))
theorem sFit (n : Int) (w : World) : Calls Try.prog 123 #[.int .i64 n] w fun e w' => e = .returned (.int .i64 (fitB n)) ∧ w = w' := by
  by_cases h : NumP n
  · have E : Hid (fitB n = n) := by show fitB n = n; unfold fitB; rw [if_pos h]
    obtain ⟨h1, h2⟩ := h
    go_enter Try.func123, Try.ntmps123
    go_wp2_with fail
    refine (sIn_t n (-400000000) 400000000 _ h1 h2).mono ?_
    rintro e w' ⟨rfl, rfl⟩
    go_wp2_with fail
    go_ret
    exact ⟨by rw [E.out]; rfl, rfl⟩
  · have E : Hid (fitB n = badN) := by show fitB n = _; unfold fitB; rw [if_neg h]
    have h' : n < -400000000 ∨ 400000000 < n := by unfold NumP at h; omega
    clear h
    go_enter Try.func123, Try.ntmps123
    go_wp2_with fail
    refine (sIn_f n (-400000000) 400000000 _ h').mono ?_
    rintro e w' ⟨rfl, rfl⟩
    go_wp2_with fail
    go_ret
    exact ⟨by rw [E.out]; rfl, rfl⟩
theorem sAddB (a b : Int) (w : World) : Calls Try.prog 146 #[.int .i64 a, .int .i64 b] w fun e w' => e = .returned (.int .i64 (addB a b)) ∧ w = w' := by
  by_cases h1 : a = -4611686018427387904
  · have E : Hid (addB a b = badN) := by show addB a b = _; unfold addB; rw [if_pos (.inl h1)]
    have n1 : (a == -4611686018427387904) = true := by simpa using h1
    clear h1
    go_enter Try.func146, Try.ntmps146
    go_wp2_with fail
    go_ret
    exact ⟨by rw [E.out]; rfl, rfl⟩
  · have n1 : (a == -4611686018427387904) = false := by simpa using h1
    by_cases h2 : b = -4611686018427387904
    · have E : Hid (addB a b = badN) := by show addB a b = _; unfold addB; rw [if_pos (.inr h2)]
      have n2 : (b == -4611686018427387904) = true := by simpa using h2
      clear h1 h2
      go_enter Try.func146, Try.ntmps146
      go_wp2_with fail
      go_ret
      exact ⟨by rw [E.out]; rfl, rfl⟩
    · have E : Hid (addB a b = fitB (wrap64 (a + b))) := by show addB a b = _; unfold addB; rw [if_neg (by rintro (h | h); exact h1 h; exact h2 h)]
      have n2 : (b == -4611686018427387904) = false := by simpa using h2
      clear h1 h2
      go_enter Try.func146, Try.ntmps146
      go_wp2_with fail
      refine (sFit _ _).mono ?_
      rintro e w' ⟨rfl, rfl⟩
      go_wp2_with fail
      go_ret
      exact ⟨by rw [E.out]; rfl, rfl⟩
theorem sMulB (a b : Int) (w : World) : Calls Try.prog 147 #[.int .i64 a, .int .i64 b] w fun e w' => e = .returned (.int .i64 (mulB a b)) ∧ w = w' := by
  by_cases h1 : a = -4611686018427387904
  · have E : Hid (mulB a b = badN) := by show mulB a b = _; unfold mulB; rw [if_pos (.inl h1)]
    have n1 : (a == -4611686018427387904) = true := by simpa using h1
    clear h1
    go_enter Try.func147, Try.ntmps147
    go_wp2_with fail
    go_ret
    exact ⟨by rw [E.out]; rfl, rfl⟩
  · have n1 : (a == -4611686018427387904) = false := by simpa using h1
    by_cases h2 : b = -4611686018427387904
    · have E : Hid (mulB a b = badN) := by show mulB a b = _; unfold mulB; rw [if_pos (.inr h2)]
      have n2 : (b == -4611686018427387904) = true := by simpa using h2
      clear h1 h2
      go_enter Try.func147, Try.ntmps147
      go_wp2_with fail
      go_ret
      exact ⟨by rw [E.out]; rfl, rfl⟩
    · have E : Hid (mulB a b = fitB (wrap64 (a * b))) := by show mulB a b = _; unfold mulB; rw [if_neg (by rintro (h | h); exact h1 h; exact h2 h)]
      have n2 : (b == -4611686018427387904) = false := by simpa using h2
      clear h1 h2
      go_enter Try.func147, Try.ntmps147
      go_wp2_with fail
      refine (sFit _ _).mono ?_
      rintro e w' ⟨rfl, rfl⟩
      go_wp2_with fail
      go_ret
      exact ⟨by rw [E.out]; rfl, rfl⟩
theorem sIn (n a b : Int) (w : World) : Calls Try.prog 70 #[.int .i64 n, .int .i64 a, .int .i64 b] w fun e w' => e = .returned (.bool (decide (a ≤ n ∧ n ≤ b))) ∧ w = w' := by
  by_cases h : a ≤ n ∧ n ≤ b
  · rw [decide_eq_true h]; exact sIn_t n a b w h.1 h.2
  · rw [decide_eq_false h]; exact sIn_f n a b w (by omega)
theorem sIsNum (n : Int) (w : World) : Calls Try.prog 105 #[.int .i64 n] w fun e w' => e = .returned (.bool (decide (NumP n))) ∧ w = w' := by
  by_cases h : NumP n
  · rw [decide_eq_true h]; exact sIsNum_t n w h.1 h.2
  · rw [decide_eq_false h]; exact sIsNum_f n w (by unfold NumP at h; omega)

/-! ### IsRowOp -/
/-- Kind, the two rows and the number, for so many rows. -/
def rangeOp (k i j t rows : Int) : Bool := decide (0 ≤ k ∧ k ≤ 2) && decide (0 ≤ rows ∧ rows ≤ 24) && decide (0 ≤ i ∧ i ≤ rows - 1) && decide (0 ≤ j ∧ j ≤ rows - 1) && decide (NumP t)
def isOp (k i j t rows : Int) : Bool := rangeOp k i j t rows && (if k = 1 then decide (j = i ∧ t = 0) else if k = 0 then decide (j ≠ i ∧ t = 0) else decide (j ≠ i))
set_option maxHeartbeats 1000000 in
theorem sIsOp (k i j t rows : Int) (w : World) : Calls Try.prog 143 #[.agg #[.int .i64 k, .int .i64 i, .int .i64 j, .int .i64 t], .int .i64 rows] w (Gives (.bool (isOp k i j t rows)) w) := by
  have BH : Hid (∀ o, Below w.heap.size w (w.alloc o)) := fun o => (Below.refl _ _).alloc (Nat.le_refl _) o
  have fin : ∀ (w1 : World) b, w1 = w.alloc (.cells #[.int .i64 k, .int .i64 i, .int .i64 j, .int .i64 t] 97) → isOp k i j t rows = b → Gives (.bool (isOp k i j t rows)) w (.returned (.bool b)) w1 := fun w1 b h1 h2 => ⟨by rw [h2], by rw [h1]; exact BH.out _⟩
  have FIN := Lib.hid fin
  clear fin BH
  by_cases h1 : 0 ≤ k ∧ k ≤ 2
  · by_cases h2 : 0 ≤ rows ∧ rows ≤ 24
    · have v1 : IntKind.i64.wrap (rows - 1) = rows - 1 := IntWalk.i64_in _ (by omega)
      by_cases h3 : 0 ≤ i ∧ i ≤ rows - 1
      · by_cases h4 : 0 ≤ j ∧ j ≤ rows - 1
        · by_cases h5 : NumP t
          · have R : rangeOp k i j t rows = true := by unfold rangeOp; rw [decide_eq_true h1, decide_eq_true h2, decide_eq_true h3, decide_eq_true h4, decide_eq_true h5]; rfl
            have E : isOp k i j t rows = (if k = 1 then decide (j = i ∧ t = 0) else if k = 0 then decide (j ≠ i ∧ t = 0) else decide (j ≠ i)) := by unfold isOp; rw [R]; rfl
            have EH := Lib.hid E
            obtain ⟨t1, t2⟩ := h5
            clear E R
            have hk : k = 0 ∨ k = 1 ∨ k = 2 := by omega
            by_cases e1 : j = i
            · by_cases e2 : t = 0
              · rcases hk with rfl | rfl | rfl
                · have f1 : (j == i) = true := by simpa using e1
                  have f2 : (j != i) = false := by simpa using e1
                  have f3 : (t == 0) = true := by simpa using e2
                  have V : Hid (isOp 0 i j t rows = false) := by show isOp 0 i j t rows = false; rw [EH.out]; simp [e1, e2]
                  clear e1 e2
                  go_enter Try.func143, Try.ntmps143
                  go_wp2_with (first | (go_at_call 70; refine (sIn_t _ _ _ _ (by omega) (by omega)).mono ?_; rintro e w' ⟨rfl, rfl⟩) | (go_at_call 105; refine (sIsNum_t _ _ t1 t2).mono ?_; rintro e w' ⟨rfl, rfl⟩))
                  go_ret
                  exact FIN.out _ _ rfl V.out
                · have f1 : (j == i) = true := by simpa using e1
                  have f2 : (j != i) = false := by simpa using e1
                  have f3 : (t == 0) = true := by simpa using e2
                  have V : Hid (isOp 1 i j t rows = true) := by show isOp 1 i j t rows = true; rw [EH.out]; simp [e1, e2]
                  clear e1 e2
                  go_enter Try.func143, Try.ntmps143
                  go_wp2_with (first | (go_at_call 70; refine (sIn_t _ _ _ _ (by omega) (by omega)).mono ?_; rintro e w' ⟨rfl, rfl⟩) | (go_at_call 105; refine (sIsNum_t _ _ t1 t2).mono ?_; rintro e w' ⟨rfl, rfl⟩))
                  go_ret
                  exact FIN.out _ _ rfl V.out
                · have f1 : (j == i) = true := by simpa using e1
                  have f2 : (j != i) = false := by simpa using e1
                  have f3 : (t == 0) = true := by simpa using e2
                  have V : Hid (isOp 2 i j t rows = false) := by show isOp 2 i j t rows = false; rw [EH.out]; simp [e1]
                  clear e1 e2
                  go_enter Try.func143, Try.ntmps143
                  go_wp2_with (first | (go_at_call 70; refine (sIn_t _ _ _ _ (by omega) (by omega)).mono ?_; rintro e w' ⟨rfl, rfl⟩) | (go_at_call 105; refine (sIsNum_t _ _ t1 t2).mono ?_; rintro e w' ⟨rfl, rfl⟩))
                  go_ret
                  exact FIN.out _ _ rfl V.out
              · rcases hk with rfl | rfl | rfl
                · have f1 : (j == i) = true := by simpa using e1
                  have f2 : (j != i) = false := by simpa using e1
                  have f3 : (t == 0) = false := by simpa using e2
                  have V : Hid (isOp 0 i j t rows = false) := by show isOp 0 i j t rows = false; rw [EH.out]; simp [e1, e2]
                  clear e1 e2
                  go_enter Try.func143, Try.ntmps143
                  go_wp2_with (first | (go_at_call 70; refine (sIn_t _ _ _ _ (by omega) (by omega)).mono ?_; rintro e w' ⟨rfl, rfl⟩) | (go_at_call 105; refine (sIsNum_t _ _ t1 t2).mono ?_; rintro e w' ⟨rfl, rfl⟩))
                  go_ret
                  exact FIN.out _ _ rfl V.out
                · have f1 : (j == i) = true := by simpa using e1
                  have f2 : (j != i) = false := by simpa using e1
                  have f3 : (t == 0) = false := by simpa using e2
                  have V : Hid (isOp 1 i j t rows = false) := by show isOp 1 i j t rows = false; rw [EH.out]; simp [e1, e2]
                  clear e1 e2
                  go_enter Try.func143, Try.ntmps143
                  go_wp2_with (first | (go_at_call 70; refine (sIn_t _ _ _ _ (by omega) (by omega)).mono ?_; rintro e w' ⟨rfl, rfl⟩) | (go_at_call 105; refine (sIsNum_t _ _ t1 t2).mono ?_; rintro e w' ⟨rfl, rfl⟩))
                  go_ret
                  exact FIN.out _ _ rfl V.out
                · have f1 : (j == i) = true := by simpa using e1
                  have f2 : (j != i) = false := by simpa using e1
                  have f3 : (t == 0) = false := by simpa using e2
                  have V : Hid (isOp 2 i j t rows = false) := by show isOp 2 i j t rows = false; rw [EH.out]; simp [e1]
                  clear e1 e2
                  go_enter Try.func143, Try.ntmps143
                  go_wp2_with (first | (go_at_call 70; refine (sIn_t _ _ _ _ (by omega) (by omega)).mono ?_; rintro e w' ⟨rfl, rfl⟩) | (go_at_call 105; refine (sIsNum_t _ _ t1 t2).mono ?_; rintro e w' ⟨rfl, rfl⟩))
                  go_ret
                  exact FIN.out _ _ rfl V.out
            · by_cases e2 : t = 0
              · rcases hk with rfl | rfl | rfl
                · have f1 : (j == i) = false := by simpa using e1
                  have f2 : (j != i) = true := by simpa using e1
                  have f3 : (t == 0) = true := by simpa using e2
                  have V : Hid (isOp 0 i j t rows = true) := by show isOp 0 i j t rows = true; rw [EH.out]; simp [e1, e2]
                  clear e1 e2
                  go_enter Try.func143, Try.ntmps143
                  go_wp2_with (first | (go_at_call 70; refine (sIn_t _ _ _ _ (by omega) (by omega)).mono ?_; rintro e w' ⟨rfl, rfl⟩) | (go_at_call 105; refine (sIsNum_t _ _ t1 t2).mono ?_; rintro e w' ⟨rfl, rfl⟩))
                  go_ret
                  exact FIN.out _ _ rfl V.out
                · have f1 : (j == i) = false := by simpa using e1
                  have f2 : (j != i) = true := by simpa using e1
                  have f3 : (t == 0) = true := by simpa using e2
                  have V : Hid (isOp 1 i j t rows = false) := by show isOp 1 i j t rows = false; rw [EH.out]; simp [e1, e2]
                  clear e1 e2
                  go_enter Try.func143, Try.ntmps143
                  go_wp2_with (first | (go_at_call 70; refine (sIn_t _ _ _ _ (by omega) (by omega)).mono ?_; rintro e w' ⟨rfl, rfl⟩) | (go_at_call 105; refine (sIsNum_t _ _ t1 t2).mono ?_; rintro e w' ⟨rfl, rfl⟩))
                  go_ret
                  exact FIN.out _ _ rfl V.out
                · have f1 : (j == i) = false := by simpa using e1
                  have f2 : (j != i) = true := by simpa using e1
                  have f3 : (t == 0) = true := by simpa using e2
                  have V : Hid (isOp 2 i j t rows = true) := by show isOp 2 i j t rows = true; rw [EH.out]; simp [e1]
                  clear e1 e2
                  go_enter Try.func143, Try.ntmps143
                  go_wp2_with (first | (go_at_call 70; refine (sIn_t _ _ _ _ (by omega) (by omega)).mono ?_; rintro e w' ⟨rfl, rfl⟩) | (go_at_call 105; refine (sIsNum_t _ _ t1 t2).mono ?_; rintro e w' ⟨rfl, rfl⟩))
                  go_ret
                  exact FIN.out _ _ rfl V.out
              · rcases hk with rfl | rfl | rfl
                · have f1 : (j == i) = false := by simpa using e1
                  have f2 : (j != i) = true := by simpa using e1
                  have f3 : (t == 0) = false := by simpa using e2
                  have V : Hid (isOp 0 i j t rows = false) := by show isOp 0 i j t rows = false; rw [EH.out]; simp [e1, e2]
                  clear e1 e2
                  go_enter Try.func143, Try.ntmps143
                  go_wp2_with (first | (go_at_call 70; refine (sIn_t _ _ _ _ (by omega) (by omega)).mono ?_; rintro e w' ⟨rfl, rfl⟩) | (go_at_call 105; refine (sIsNum_t _ _ t1 t2).mono ?_; rintro e w' ⟨rfl, rfl⟩))
                  go_ret
                  exact FIN.out _ _ rfl V.out
                · have f1 : (j == i) = false := by simpa using e1
                  have f2 : (j != i) = true := by simpa using e1
                  have f3 : (t == 0) = false := by simpa using e2
                  have V : Hid (isOp 1 i j t rows = false) := by show isOp 1 i j t rows = false; rw [EH.out]; simp [e1, e2]
                  clear e1 e2
                  go_enter Try.func143, Try.ntmps143
                  go_wp2_with (first | (go_at_call 70; refine (sIn_t _ _ _ _ (by omega) (by omega)).mono ?_; rintro e w' ⟨rfl, rfl⟩) | (go_at_call 105; refine (sIsNum_t _ _ t1 t2).mono ?_; rintro e w' ⟨rfl, rfl⟩))
                  go_ret
                  exact FIN.out _ _ rfl V.out
                · have f1 : (j == i) = false := by simpa using e1
                  have f2 : (j != i) = true := by simpa using e1
                  have f3 : (t == 0) = false := by simpa using e2
                  have V : Hid (isOp 2 i j t rows = true) := by show isOp 2 i j t rows = true; rw [EH.out]; simp [e1]
                  clear e1 e2
                  go_enter Try.func143, Try.ntmps143
                  go_wp2_with (first | (go_at_call 70; refine (sIn_t _ _ _ _ (by omega) (by omega)).mono ?_; rintro e w' ⟨rfl, rfl⟩) | (go_at_call 105; refine (sIsNum_t _ _ t1 t2).mono ?_; rintro e w' ⟨rfl, rfl⟩))
                  go_ret
                  exact FIN.out _ _ rfl V.out
          · have V : Hid (isOp k i j t rows = false) := by show isOp k i j t rows = false; unfold isOp rangeOp; rw [decide_eq_false h5]; simp
            have hx : t < -400000000 ∨ 400000000 < t := by unfold NumP at h5; omega
            clear h5
            go_enter Try.func143, Try.ntmps143
            go_wp2_with fail
            refine (sIn_t k 0 2 _ h1.1 h1.2).mono ?_
            rintro e w' ⟨rfl, rfl⟩
            go_wp2_with fail
            refine (sIn_t rows 0 24 _ h2.1 h2.2).mono ?_
            rintro e w' ⟨rfl, rfl⟩
            go_wp2_with fail
            refine (sIn_t i 0 (rows - 1) _ h3.1 h3.2).mono ?_
            rintro e w' ⟨rfl, rfl⟩
            go_wp2_with fail
            refine (sIn_t j 0 (rows - 1) _ h4.1 h4.2).mono ?_
            rintro e w' ⟨rfl, rfl⟩
            go_wp2_with fail
            refine (sIsNum_f t _ hx).mono ?_
            rintro e w' ⟨rfl, rfl⟩
            go_wp2_with fail
            go_ret
            exact FIN.out _ _ rfl V.out
        · have V : Hid (isOp k i j t rows = false) := by show isOp k i j t rows = false; unfold isOp rangeOp; rw [decide_eq_false h4]; simp
          have hx : j < 0 ∨ (rows - 1) < j := by omega
          clear h4
          go_enter Try.func143, Try.ntmps143
          go_wp2_with fail
          refine (sIn_t k 0 2 _ h1.1 h1.2).mono ?_
          rintro e w' ⟨rfl, rfl⟩
          go_wp2_with fail
          refine (sIn_t rows 0 24 _ h2.1 h2.2).mono ?_
          rintro e w' ⟨rfl, rfl⟩
          go_wp2_with fail
          refine (sIn_t i 0 (rows - 1) _ h3.1 h3.2).mono ?_
          rintro e w' ⟨rfl, rfl⟩
          go_wp2_with fail
          refine (sIn_f j 0 (rows - 1) _ hx).mono ?_
          rintro e w' ⟨rfl, rfl⟩
          go_wp2_with fail
          go_ret
          exact FIN.out _ _ rfl V.out
      · have V : Hid (isOp k i j t rows = false) := by show isOp k i j t rows = false; unfold isOp rangeOp; rw [decide_eq_false h3]; simp
        have hx : i < 0 ∨ (rows - 1) < i := by omega
        clear h3
        go_enter Try.func143, Try.ntmps143
        go_wp2_with fail
        refine (sIn_t k 0 2 _ h1.1 h1.2).mono ?_
        rintro e w' ⟨rfl, rfl⟩
        go_wp2_with fail
        refine (sIn_t rows 0 24 _ h2.1 h2.2).mono ?_
        rintro e w' ⟨rfl, rfl⟩
        go_wp2_with fail
        refine (sIn_f i 0 (rows - 1) _ hx).mono ?_
        rintro e w' ⟨rfl, rfl⟩
        go_wp2_with fail
        go_ret
        exact FIN.out _ _ rfl V.out
    · have V : Hid (isOp k i j t rows = false) := by show isOp k i j t rows = false; unfold isOp rangeOp; rw [decide_eq_false h2]; simp
      have hx : rows < 0 ∨ 24 < rows := by omega
      clear h2
      go_enter Try.func143, Try.ntmps143
      go_wp2_with fail
      refine (sIn_t k 0 2 _ h1.1 h1.2).mono ?_
      rintro e w' ⟨rfl, rfl⟩
      go_wp2_with fail
      refine (sIn_f rows 0 24 _ hx).mono ?_
      rintro e w' ⟨rfl, rfl⟩
      go_wp2_with fail
      go_ret
      exact FIN.out _ _ rfl V.out
  · have V : Hid (isOp k i j t rows = false) := by show isOp k i j t rows = false; unfold isOp rangeOp; rw [decide_eq_false h1]; simp
    have hx : k < 0 ∨ 2 < k := by omega
    clear h1
    go_enter Try.func143, Try.ntmps143
    go_wp2_with fail
    refine (sIn_f k 0 2 _ hx).mono ?_
    rintro e w' ⟨rfl, rfl⟩
    go_wp2_with fail
    go_ret
    exact FIN.out _ _ rfl V.out
end Go.Proofs.Ytpelnfenfeoeeaa
end

section
/-
  Plain mathematics of chapter 5: an operation on rows, cell by cell. Nothing of a program is used.
-/
namespace Go.Proofs.Ytpelnfenfeoeeaa

/-- What the cell p becomes. -/
def opAt (k : Int) (I J : Nat) (t : Int) (C : Nat) (xs : List Int) (p : Nat) : Int :=
  if k = 0 then (if p / C = I then xs.getD (J * C + p % C) 0 else if p / C = J then xs.getD (I * C + p % C) 0 else xs.getD p 0)
  else if k = 1 then (if p / C = I then mulB (xs.getD p 0) (-1) else xs.getD p 0)
  else (if p / C = I then addB (xs.getD p 0) (mulB (xs.getD (J * C + p % C) 0) t) else xs.getD p 0)
/-- The columns before q are done. -/
def opTo (k : Int) (I J : Nat) (t : Int) (C : Nat) (xs : List Int) (q : Nat) : List Int := (List.range xs.length).map fun p => if p % C < q then opAt k I J t C xs p else xs.getD p 0
def opL (k : Int) (I J : Nat) (t : Int) (C : Nat) (xs : List Int) : List Int := (List.range xs.length).map (opAt k I J t C xs)
theorem opTo_length (k : Int) (I J : Nat) (t : Int) (C : Nat) (xs : List Int) (q : Nat) : (opTo k I J t C xs q).length = xs.length := by simp [opTo]
theorem opL_length (k : Int) (I J : Nat) (t : Int) (C : Nat) (xs : List Int) : (opL k I J t C xs).length = xs.length := by simp [opL]
theorem opTo_getD (k : Int) (I J : Nat) (t : Int) (C : Nat) (xs : List Int) (q p : Nat) (hp : p < xs.length) : (opTo k I J t C xs q).getD p 0 = if p % C < q then opAt k I J t C xs p else xs.getD p 0 := by
  simp [opTo, List.getD, hp]
theorem opTo_zero (k : Int) (I J : Nat) (t : Int) (C : Nat) (xs : List Int) : opTo k I J t C xs 0 = xs := by
  refine list_getD (opTo_length _ _ _ _ _ _ _) fun p hp => ?_
  rw [opTo_length] at hp
  rw [opTo_getD _ _ _ _ _ _ _ _ hp, if_neg (by omega)]
theorem opTo_all (k : Int) (I J : Nat) (t : Int) (C : Nat) (xs : List Int) (h : xs.length = 0 ∨ 0 < C) : opTo k I J t C xs C = opL k I J t C xs := by
  unfold opTo opL
  refine List.map_congr_left fun p hp => ?_
  have hp := List.mem_range.mp hp
  rw [if_pos (Nat.mod_lt p (by omega))]
theorem opTo_at (k : Int) (I J : Nat) (t : Int) (C : Nat) (xs : List Int) (q i : Nat) (hq : q < C) (hp : i * C + q < xs.length) : (opTo k I J t C xs q).getD (i * C + q) 0 = xs.getD (i * C + q) 0 := by
  rw [opTo_getD _ _ _ _ _ _ _ _ hp, idx_mod hq, if_neg (by omega)]
theorem opTo_next {k : Int} {I J : Nat} {t : Int} {C : Nat} {xs L : List Int} {q : Nat} (hl : L.length = xs.length) (h : ∀ p : Nat, p < xs.length → L.getD p 0 = if p % C = q then opAt k I J t C xs p else (opTo k I J t C xs q).getD p 0) : L = opTo k I J t C xs (q + 1) := by
  refine list_getD (by rw [hl, opTo_length]) fun p hp => ?_
  rw [hl] at hp
  rw [h p hp, opTo_getD _ _ _ _ _ _ _ _ hp, opTo_getD _ _ _ _ _ _ _ _ hp]
  by_cases e : p % C = q
  · rw [if_pos e, if_pos (by omega)]
  · rw [if_neg e]
    by_cases e2 : p % C < q
    · rw [if_pos e2, if_pos (by omega)]
    · rw [if_neg e2, if_neg (by omega)]
theorem split_idx {C p q : Nat} (h : p % C = q) : p = p / C * C + q := by
  have := Nat.div_add_mod p C
  rw [Nat.mul_comm] at this
  omega
theorem op_swap (I J : Nat) (t : Int) (C R : Nat) (xs : List Int) (q : Nat) (hl : xs.length = R * C) (hI : I < R) (hJ : J < R) (hq : q < C) :
    ((opTo 0 I J t C xs q).set (I * C + q) (xs.getD (J * C + q) 0)).set (J * C + q) (xs.getD (I * C + q) 0) = opTo 0 I J t C xs (q + 1) ∨ I = J := by
  by_cases hIJ : I = J
  · exact .inr hIJ
  refine .inl (opTo_next (by rw [List.length_set, List.length_set, opTo_length]) fun p hp => ?_)
  have a1 : I * C + q < xs.length := by rw [hl]; exact idx_lt hI hq
  have a2 : J * C + q < xs.length := by rw [hl]; exact idx_lt hJ hq
  rw [getD_set _ _ _ _ (by rw [List.length_set, opTo_length]; exact a2), getD_set _ _ _ _ (by rw [opTo_length]; exact a1)]
  by_cases e : p % C = q
  · rw [if_pos e]
    have sp := split_idx e
    unfold opAt
    rw [if_pos rfl, e]
    by_cases e1 : p / C = I
    · have : p = I * C + q := by rw [← e1]; exact sp
      rw [if_pos e1, if_neg (fun h => hIJ (by rw [← e1, h, idx_div hq])), if_pos this]
    · rw [if_neg e1]
      by_cases e2 : p / C = J
      · have : p = J * C + q := by rw [← e2]; exact sp
        rw [if_pos e2, if_pos this]
      · rw [if_neg e2, if_neg (fun h => e2 (by rw [h, idx_div hq])), if_neg (fun h => e1 (by rw [h, idx_div hq])), opTo_getD _ _ _ _ _ _ _ _ hp, if_neg (by omega)]
  · rw [if_neg e, if_neg (fun h => e (by rw [h, idx_mod hq])), if_neg (fun h => e (by rw [h, idx_mod hq]))]
theorem op_one (k : Int) (I J : Nat) (t : Int) (C R : Nat) (xs : List Int) (q : Nat) (z : Int) (hl : xs.length = R * C) (hI : I < R) (hq : q < C) (hk : k = 1 ∨ k = 2) (hz : z = opAt k I J t C xs (I * C + q)) :
    (opTo k I J t C xs q).set (I * C + q) z = opTo k I J t C xs (q + 1) := by
  refine opTo_next (by rw [List.length_set, opTo_length]) fun p hp => ?_
  have a1 : I * C + q < xs.length := by rw [hl]; exact idx_lt hI hq
  rw [getD_set _ _ _ _ (by rw [opTo_length]; exact a1)]
  by_cases e : p % C = q
  · rw [if_pos e]
    have sp := split_idx e
    by_cases e1 : p / C = I
    · have : p = I * C + q := by rw [← e1]; exact sp
      rw [if_pos this, hz, this]
    · rw [if_neg (fun h => e1 (by rw [h, idx_div hq])), opTo_getD _ _ _ _ _ _ _ _ hp, if_neg (by omega)]
      unfold opAt
      rcases hk with rfl | rfl
      · rw [if_neg (by decide), if_pos rfl, if_neg e1]
      · rw [if_neg (by decide), if_neg (by decide), if_neg e1]
  · rw [if_neg e, if_neg (fun h => e (by rw [h, idx_mod hq]))]
theorem opAt_one (I J : Nat) (t : Int) (C : Nat) (xs : List Int) {q : Nat} (hq : q < C) : opAt 1 I J t C xs (I * C + q) = mulB (xs.getD (I * C + q) 0) (-1) := by
  unfold opAt
  rw [if_neg (by decide), if_pos rfl, idx_div hq, if_pos rfl]
theorem opAt_two (I J : Nat) (t : Int) (C : Nat) (xs : List Int) {q : Nat} (hq : q < C) : opAt 2 I J t C xs (I * C + q) = addB (xs.getD (I * C + q) 0) (mulB (xs.getD (J * C + q) 0) t) := by
  unfold opAt
  rw [if_neg (by decide), if_neg (by decide), idx_div hq, if_pos rfl, idx_mod hq]
end Go.Proofs.Ytpelnfenfeoeeaa
end
