/-
  Operations on rows as a list, a slice that shows them, a block that holds them. Nothing of a program is used but its types.
-/
import Derived.Test.YtiggioccmlbhhaaInts
import Derived.Test.YtiggioccmlbhhaaBlk4
import Derived.Test.YtiggioccmlbhhaaRowsOwn
namespace Go.Proofs.Ytiggioccmlbhhaa
open Go.RowKit

/-- An operation on rows. -/
structure Ro where
  k : Int
  i : Int
  j : Int
  t : Int
def Ro.zero : Ro := ⟨0, 0, 0, 0⟩
/-- A slice that shows the operations l. -/
def RdO (w : World) (a : Option Addr) (l : List Ro) : Prop :=
  ∀ q : Nat, q < l.length → ∃ b o : Nat, a = some ⟨b, o, none⟩ ∧ b < w.heap.size ∧ w.cell? ⟨b, o + q * 4, none⟩ = some (.int .i64 (l.getD q Ro.zero).k) ∧ w.cell? ⟨b, o + q * 4 + 1, none⟩ = some (.int .i64 (l.getD q Ro.zero).i) ∧ w.cell? ⟨b, o + q * 4 + 2, none⟩ = some (.int .i64 (l.getD q Ro.zero).j) ∧ w.cell? ⟨b, o + q * 4 + 3, none⟩ = some (.int .i64 (l.getD q Ro.zero).t)
theorem RdO.below {w w' : World} {a : Option Addr} {l : List Ro} (h : RdO w a l) (hb : Below w.heap.size w w') : RdO w' a l := fun q hq => by
  obtain ⟨b, o, e, hl, h0, h1, h2, h3⟩ := h q hq
  have c : ∀ x : Nat, w'.cell? ⟨b, x, none⟩ = w.cell? ⟨b, x, none⟩ := fun x => (bcell hb).1 b x hl
  exact ⟨b, o, e, Nat.lt_of_lt_of_le hl hb.size, by rw [c]; exact h0, by rw [c]; exact h1, by rw [c]; exact h2, by rw [c]; exact h3⟩
def Ro.flat (l : List Ro) : List Value := l.flatMap fun u => [.int .i64 u.k, .int .i64 u.i, .int .i64 u.j, .int .i64 u.t]
theorem info_op : (Try.prog.info? 43).map (fun i => (i.zero, i.size, i.bytes)) = some (some (.agg #[.int .i64 0, .int .i64 0, .int .i64 0, .int .i64 0]), 4, 32) := by kernel_rfl
theorem underlying_ops : Try.prog.underlying 55 = some (.slice 43) := by kernel_rfl
theorem facts_op : ∃ i, Try.prog.info? 43 = some i ∧ i.zero = some (.agg #[.int .i64 0, .int .i64 0, .int .i64 0, .int .i64 0]) ∧ i.size = 4 ∧ i.bytes = 32 := by
  have h := info_op
  cases hi : Try.prog.info? 43 with
  | none => rw [hi] at h; simp at h
  | some i => rw [hi] at h; simp only [Option.map_some, Option.some.injEq, Prod.mk.injEq] at h; exact ⟨i, rfl, h.1, h.2.1, h.2.2⟩
theorem Ro.flat_length (l : List Ro) : (Ro.flat l).length = l.length * 4 := by
  induction l with
  | nil => rfl
  | cons u l ih => rw [show Ro.flat (u :: l) = [.int .i64 u.k, .int .i64 u.i, .int .i64 u.j, .int .i64 u.t] ++ Ro.flat l from rfl, List.length_append, ih]; simp; omega
theorem Ro.flat_app (l l' : List Ro) : Ro.flat (l ++ l') = Ro.flat l ++ Ro.flat l' := by unfold Ro.flat; exact List.flatMap_append
theorem cells4_new (w : World) (t : TypeId) (p q r s : Value) : ∀ j u, [p, q, r, s][j]? = some u → (w.alloc (.cells #[p, q, r, s] t)).cell? ((⟨w.heap.size, 0, none⟩ : Addr).add j) = some u := by
  intro j u hu
  obtain ⟨c0, c1, c2, c3⟩ := (Blk4.at_ t p q r s (rfl : w.heap.size = w.heap.size)).all
  match j, hu with
  | 0, h => simp only [List.getElem?_cons_zero, Option.some.injEq] at h; subst h; exact c0
  | 1, h => simp only [List.getElem?_cons_succ, List.getElem?_cons_zero, Option.some.injEq] at h; subst h; exact c1
  | 2, h => simp only [List.getElem?_cons_succ, List.getElem?_cons_zero, Option.some.injEq] at h; subst h; exact c2
  | 3, h => simp only [List.getElem?_cons_succ, List.getElem?_cons_zero, Option.some.injEq] at h; subst h; exact c3
  | j + 4, h => simp at h
/-- A block that begins with the operations l. -/
def OpsB (w : World) (g : Nat) (l : List Ro) : Prop := ∃ rest : List Value, w.heap[g]? = some (.cells (Ro.flat l ++ rest).toArray 43 (0, 0))
theorem OpsB.move {w w' : World} {g : Nat} {l : List Ro} (h : OpsB w g l) (e : w'.heap[g]? = w.heap[g]?) : OpsB w' g l := by
  obtain ⟨rest, h⟩ := h
  exact ⟨rest, e.trans h⟩
theorem OpsB.lt {w : World} {g : Nat} {l : List Ro} (h : OpsB w g l) : g < w.heap.size := by
  obtain ⟨rest, h⟩ := h
  exact lt_of_block h
theorem OpsB.free {w : World} {g : Nat} {l : List Ro} (h : OpsB w g l) (i : Nat) : w.frozen? ⟨g, i, none⟩ = false := by
  obtain ⟨rest, h⟩ := h
  simp [World.frozen?, h]
theorem Ro.flat_cons (u : Ro) (l : List Ro) : Ro.flat (u :: l) = .int .i64 u.k :: .int .i64 u.i :: .int .i64 u.j :: .int .i64 u.t :: Ro.flat l := rfl
theorem Ro.flat_at (l : List Ro) (rest : List Value) : ∀ q : Nat, q < l.length →
    (Ro.flat l ++ rest)[q * 4]? = some (.int .i64 (l.getD q Ro.zero).k) ∧ (Ro.flat l ++ rest)[q * 4 + 1]? = some (.int .i64 (l.getD q Ro.zero).i) ∧ (Ro.flat l ++ rest)[q * 4 + 2]? = some (.int .i64 (l.getD q Ro.zero).j) ∧ (Ro.flat l ++ rest)[q * 4 + 3]? = some (.int .i64 (l.getD q Ro.zero).t) := by
  induction l with
  | nil => intro q h; simp at h
  | cons u l ih =>
    intro q h
    rw [Ro.flat_cons]
    cases q with
    | zero => exact ⟨rfl, rfl, rfl, rfl⟩
    | succ q =>
      have := ih q (by simpa using h)
      rw [show (q + 1) * 4 = q * 4 + 4 by omega]
      exact this
theorem OpsB.cells {w : World} {g : Nat} {l : List Ro} (h : OpsB w g l) {q : Nat} (hq : q < l.length) :
    w.cell? ⟨g, q * 4, none⟩ = some (.int .i64 (l.getD q Ro.zero).k) ∧ w.cell? ⟨g, q * 4 + 1, none⟩ = some (.int .i64 (l.getD q Ro.zero).i) ∧ w.cell? ⟨g, q * 4 + 2, none⟩ = some (.int .i64 (l.getD q Ro.zero).j) ∧ w.cell? ⟨g, q * 4 + 3, none⟩ = some (.int .i64 (l.getD q Ro.zero).t) := by
  obtain ⟨rest, h⟩ := h
  have f := Ro.flat_at l rest q hq
  have c : ∀ n : Nat, w.cell? ⟨g, n, none⟩ = (Ro.flat l ++ rest)[n]? := fun n => by simp only [World.cell?, h]; simp
  rw [c, c, c, c]
  exact f
theorem OpsB.rd {w : World} {g : Nat} {l : List Ro} (h : OpsB w g l) : RdO w (some ⟨g, 0, none⟩) l := fun q hq => by
  have c := h.cells hq
  refine ⟨g, 0, rfl, h.lt, ?_⟩
  simpa using c
theorem Ro.flat_set (l : List Ro) (rest : List Value) (u : Ro) : ∀ q : Nat, q < l.length →
    ((((Ro.flat l ++ rest).set (q * 4) (.int .i64 u.k)).set (q * 4 + 1) (.int .i64 u.i)).set (q * 4 + 2) (.int .i64 u.j)).set (q * 4 + 3) (.int .i64 u.t) = Ro.flat (l.set q u) ++ rest := by
  induction l with
  | nil => intro q h; simp at h
  | cons v l ih =>
    intro q h
    cases q with
    | zero => rfl
    | succ q =>
      have := ih q (by simpa using h)
      rw [show (q + 1) * 4 = q * 4 + 4 by omega, List.set_cons_succ, Ro.flat_cons, Ro.flat_cons]
      exact congrArg (fun L => Value.int .i64 v.k :: .int .i64 v.i :: .int .i64 v.j :: .int .i64 v.t :: L) this
theorem setCell_block {w : World} {g : Nat} {L : List Value} {t : TypeId} (h : w.heap[g]? = some (.cells L.toArray t (0, 0))) (n : Nat) (u : Value) : (w.setCell ⟨g, n, none⟩ u).heap[g]? = some (.cells (L.set n u).toArray t (0, 0)) := by
  have hlt := lt_of_block h
  have h' : w.heap[g] = .cells L.toArray t (0, 0) := by simpa [Array.getElem?_eq_getElem hlt] using h
  show (w.heap.modify g _)[g]? = _
  rw [Array.getElem?_eq_getElem (by simpa using hlt), Array.getElem_modify_self, h']
  simp
theorem OpsB.set {w : World} {g : Nat} {l : List Ro} (h : OpsB w g l) {q : Nat} (hq : q < l.length) (u : Ro) :
    OpsB ((((w.setCell ⟨g, q * 4, none⟩ (.int .i64 u.k)).setCell ⟨g, q * 4 + 1, none⟩ (.int .i64 u.i)).setCell ⟨g, q * 4 + 2, none⟩ (.int .i64 u.j)).setCell ⟨g, q * 4 + 3, none⟩ (.int .i64 u.t)) g (l.set q u) := by
  obtain ⟨rest, h⟩ := h
  refine ⟨rest, ?_⟩
  rw [← Ro.flat_set l rest u q hq]
  exact setCell_block (setCell_block (setCell_block (setCell_block h _ _) _ _) _ _) _ _
theorem OpsB.far {w : World} {g : Nat} {l : List Ro} (h : OpsB w g l) {a : Addr} (ha : g ≠ a.block) (u : Value) : OpsB (w.setCell a u) g l := h.move (Below.heap_setCell w a u g ha)
theorem OpsB.keep {w w' : World} {g B : Nat} {l : List Ro} (h : OpsB w g l) (hb : Below B w w') (hB : g < B) : OpsB w' g l := h.move (hb.block g hB)
theorem OpsB.one {w w' : World} {g c : Nat} {l : List Ro} (h : OpsB w g l) (hg : w.grownBy w' (some c)) (hne : g ≠ c) : OpsB w' g l := h.move (hg.block g h.lt (by simpa using hne))
theorem OpsB.old {w : World} {g : Nat} {l : List Ro} (h : OpsB w g l) (o : Obj) : OpsB (w.alloc o) g l := h.move (Below.heap_alloc w o g h.lt)
theorem flat_zero_mem (n : Nat) : ∀ x ∈ Ro.flat (List.replicate n Ro.zero), x = .int .i64 0 := by
  intro x hx
  obtain ⟨u, hu, hx⟩ := List.mem_flatMap.mp hx
  obtain rfl := List.eq_of_mem_replicate hu
  simpa [Ro.zero] using hx
theorem flat_zeros (n : Nat) : madeCells #[.int .i64 0, .int .i64 0, .int .i64 0, .int .i64 0] (n * 4) = (Ro.flat (List.replicate n Ro.zero)).toArray := by
  apply Array.ext
  · simp [madeCells, Ro.flat_length]
  · intro i h1 h2
    have e : (Ro.flat (List.replicate n Ro.zero)).toArray[i] = .int .i64 0 := flat_zero_mem n _ (by simp)
    rw [e]
    have h4 : i % 4 = 0 ∨ i % 4 = 1 ∨ i % 4 = 2 ∨ i % 4 = 3 := by omega
    rcases h4 with h | h | h | h <;> simp [madeCells, h]
theorem OpsB.made {w : World} {g : Nat} (n : Nat) (hg : g = w.heap.size) : OpsB (w.alloc (.cells (madeCells #[.int .i64 0, .int .i64 0, .int .i64 0, .int .i64 0] (n * 4)) 43)) g (List.replicate n Ro.zero) := by
  subst hg
  refine ⟨[], ?_⟩
  rw [flat_zeros, List.append_nil]
  exact heap_alloc_new w _
end Go.Proofs.Ytiggioccmlbhhaa
