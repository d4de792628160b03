/-
  Texts of this seat, joined: Ro · DrawO · DrawL · Draw5 · DrawM · OpsMath · RowsLaw · RowsProd · LawOps · RI1 · RI2 · RI3
-/
import Derived.Handy
import Derived.Deep.QuietTactic
import Derived.Test.YtdnajkoeojlnbaaPk1
import Derived.Test.YtdnajkoeojlnbaaPk2
import Derived.Test.YtdnajkoeojlnbaaPk4
import Derived.Test.YtdnajkoeojlnbaaPk5
import Derived.Test.YtdnajkoeojlnbaaPk6
import Derived.Test.YtdnajkoeojlnbaaPk7
import Derived.Test.YtdnajkoeojlnbaaPk13

section
/-
  Operations on rows as a list, a slice that shows them, a block that holds them. Nothing of a program is used but its types.
-/
namespace Go.Proofs.Ytdnajkoeojlnbaa
open Go.RowKit

/-- An operation on rows. -/
structure Ro where
  k : Int
  i : Int
  j : Int
  t : Int
def Ro.zero : Ro := ⟨0, 0, 0, 0⟩
/-- A slice that shows the operations l. -/
def RdO (w : World) (a : Option Addr) (l : List Ro) : Prop :=
  ∀ q : Nat, q < l.length → ∃ b o : Nat, a = some ⟨b, o, none⟩ ∧ b < w.heap.size ∧ w.cell? ⟨b, o + q * 4, none⟩ = some (.int .i64 (l.getD q Ro.zero).k) ∧ w.cell? ⟨b, o + q * 4 + 1, none⟩ = some (.int .i64 (l.getD q Ro.zero).i) ∧ w.cell? ⟨b, o + q * 4 + 2, none⟩ = some (.int .i64 (l.getD q Ro.zero).j) ∧ w.cell? ⟨b, o + q * 4 + 3, none⟩ = some (.int .i64 (l.getD q Ro.zero).t)
theorem RdO.below {w w' : World} {a : Option Addr} {l : List Ro} (h : RdO w a l) (hb : Below w.heap.size w w') : RdO w' a l := fun q hq => by
  obtain ⟨b, o, e, hl, h0, h1, h2, h3⟩ := h q hq
  have c : ∀ x : Nat, w'.cell? ⟨b, x, none⟩ = w.cell? ⟨b, x, none⟩ := fun x => (bcell hb).1 b x hl
  exact ⟨b, o, e, Nat.lt_of_lt_of_le hl hb.size, by rw [c]; exact h0, by rw [c]; exact h1, by rw [c]; exact h2, by rw [c]; exact h3⟩
def Ro.flat (l : List Ro) : List Value := l.flatMap fun u => [.int .i64 u.k, .int .i64 u.i, .int .i64 u.j, .int .i64 u.t]
theorem info_op : (Try.prog.info? 49).map (fun i => (i.zero, i.size, i.bytes)) = some (some (.agg #[.int .i64 0, .int .i64 0, .int .i64 0, .int .i64 0]), 4, 32) := by kernel_rfl
theorem underlying_ops : Try.prog.underlying 40 = some (.slice 49) := by kernel_rfl
theorem facts_op : ∃ i, Try.prog.info? 49 = some i ∧ i.zero = some (.agg #[.int .i64 0, .int .i64 0, .int .i64 0, .int .i64 0]) ∧ i.size = 4 ∧ i.bytes = 32 := by
  have h := info_op
  cases hi : Try.prog.info? 49 with
  | none => rw [hi] at h; simp at h
  | some i => rw [hi] at h; simp only [Option.map_some, Option.some.injEq, Prod.mk.injEq] at h; exact ⟨i, rfl, h.1, h.2.1, h.2.2⟩
theorem Ro.flat_length (l : List Ro) : (Ro.flat l).length = l.length * 4 := by
  induction l with
  | nil => rfl
  | cons u l ih => rw [show Ro.flat (u :: l) = [.int .i64 u.k, .int .i64 u.i, .int .i64 u.j, .int .i64 u.t] ++ Ro.flat l from rfl, List.length_append, ih]; simp; omega
theorem Ro.flat_app (l l' : List Ro) : Ro.flat (l ++ l') = Ro.flat l ++ Ro.flat l' := by unfold Ro.flat; exact List.flatMap_append
theorem cells4_new (w : World) (t : TypeId) (p q r s : Value) : ∀ j u, [p, q, r, s][j]? = some u → (w.alloc (.cells #[p, q, r, s] t)).cell? ((⟨w.heap.size, 0, none⟩ : Addr).add j) = some u := by
  intro j u hu
  obtain ⟨c0, c1, c2, c3⟩ := (Blk4.at_ t p q r s (rfl : w.heap.size = w.heap.size)).all
  match j, hu with
  | 0, h => simp only [List.getElem?_cons_zero, Option.some.injEq] at h; subst h; exact c0
  | 1, h => simp only [List.getElem?_cons_succ, List.getElem?_cons_zero, Option.some.injEq] at h; subst h; exact c1
  | 2, h => simp only [List.getElem?_cons_succ, List.getElem?_cons_zero, Option.some.injEq] at h; subst h; exact c2
  | 3, h => simp only [List.getElem?_cons_succ, List.getElem?_cons_zero, Option.some.injEq] at h; subst h; exact c3
  | j + 4, h => simp at h
/-- A block that begins with the operations l. -/
def OpsB (w : World) (g : Nat) (l : List Ro) : Prop := ∃ rest : List Value, w.heap[g]? = some (.cells (Ro.flat l ++ rest).toArray 49 (0, 0))
theorem OpsB.move {w w' : World} {g : Nat} {l : List Ro} (h : OpsB w g l) (e : w'.heap[g]? = w.heap[g]?) : OpsB w' g l := by
  obtain ⟨rest, h⟩ := h
  exact ⟨rest, e.trans h⟩
theorem OpsB.lt {w : World} {g : Nat} {l : List Ro} (h : OpsB w g l) : g < w.heap.size := by
  obtain ⟨rest, h⟩ := h
  exact lt_of_block h
theorem OpsB.free {w : World} {g : Nat} {l : List Ro} (h : OpsB w g l) (i : Nat) : w.frozen? ⟨g, i, none⟩ = false := by
  obtain ⟨rest, h⟩ := h
  simp [World.frozen?, h]
theorem Ro.flat_cons (u : Ro) (l : List Ro) : Ro.flat (u :: l) = .int .i64 u.k :: .int .i64 u.i :: .int .i64 u.j :: .int .i64 u.t :: Ro.flat l := rfl
theorem Ro.flat_at (l : List Ro) (rest : List Value) : ∀ q : Nat, q < l.length →
    (Ro.flat l ++ rest)[q * 4]? = some (.int .i64 (l.getD q Ro.zero).k) ∧ (Ro.flat l ++ rest)[q * 4 + 1]? = some (.int .i64 (l.getD q Ro.zero).i) ∧ (Ro.flat l ++ rest)[q * 4 + 2]? = some (.int .i64 (l.getD q Ro.zero).j) ∧ (Ro.flat l ++ rest)[q * 4 + 3]? = some (.int .i64 (l.getD q Ro.zero).t) := by
  induction l with
  | nil => intro q h; simp at h
  | cons u l ih =>
    intro q h
    rw [Ro.flat_cons]
    cases q with
    | zero => exact ⟨rfl, rfl, rfl, rfl⟩
    | succ q =>
      have := ih q (by simpa using h)
      rw [show (q + 1) * 4 = q * 4 + 4 by omega]
      exact this
theorem OpsB.cells {w : World} {g : Nat} {l : List Ro} (h : OpsB w g l) {q : Nat} (hq : q < l.length) :
    w.cell? ⟨g, q * 4, none⟩ = some (.int .i64 (l.getD q Ro.zero).k) ∧ w.cell? ⟨g, q * 4 + 1, none⟩ = some (.int .i64 (l.getD q Ro.zero).i) ∧ w.cell? ⟨g, q * 4 + 2, none⟩ = some (.int .i64 (l.getD q Ro.zero).j) ∧ w.cell? ⟨g, q * 4 + 3, none⟩ = some (.int .i64 (l.getD q Ro.zero).t) := by
  obtain ⟨rest, h⟩ := h
  have f := Ro.flat_at l rest q hq
  have c : ∀ n : Nat, w.cell? ⟨g, n, none⟩ = (Ro.flat l ++ rest)[n]? := fun n => by simp only [World.cell?, h]; simp
  rw [c, c, c, c]
  exact f
theorem OpsB.rd {w : World} {g : Nat} {l : List Ro} (h : OpsB w g l) : RdO w (some ⟨g, 0, none⟩) l := fun q hq => by
  have c := h.cells hq
  refine ⟨g, 0, rfl, h.lt, ?_⟩
  simpa using c
theorem Ro.flat_set (l : List Ro) (rest : List Value) (u : Ro) : ∀ q : Nat, q < l.length →
    ((((Ro.flat l ++ rest).set (q * 4) (.int .i64 u.k)).set (q * 4 + 1) (.int .i64 u.i)).set (q * 4 + 2) (.int .i64 u.j)).set (q * 4 + 3) (.int .i64 u.t) = Ro.flat (l.set q u) ++ rest := by
  induction l with
  | nil => intro q h; simp at h
  | cons v l ih =>
    intro q h
    cases q with
    | zero => rfl
    | succ q =>
      have := ih q (by simpa using h)
      rw [show (q + 1) * 4 = q * 4 + 4 by omega, List.set_cons_succ, Ro.flat_cons, Ro.flat_cons]
      exact congrArg (fun L => Value.int .i64 v.k :: .int .i64 v.i :: .int .i64 v.j :: .int .i64 v.t :: L) this
theorem setCell_block {w : World} {g : Nat} {L : List Value} {t : TypeId} (h : w.heap[g]? = some (.cells L.toArray t (0, 0))) (n : Nat) (u : Value) : (w.setCell ⟨g, n, none⟩ u).heap[g]? = some (.cells (L.set n u).toArray t (0, 0)) := by
  have hlt := lt_of_block h
  have h' : w.heap[g] = .cells L.toArray t (0, 0) := by simpa [Array.getElem?_eq_getElem hlt] using h
  show (w.heap.modify g _)[g]? = _
  rw [Array.getElem?_eq_getElem (by simpa using hlt), Array.getElem_modify_self, h']
  simp
theorem OpsB.set {w : World} {g : Nat} {l : List Ro} (h : OpsB w g l) {q : Nat} (hq : q < l.length) (u : Ro) :
    OpsB ((((w.setCell ⟨g, q * 4, none⟩ (.int .i64 u.k)).setCell ⟨g, q * 4 + 1, none⟩ (.int .i64 u.i)).setCell ⟨g, q * 4 + 2, none⟩ (.int .i64 u.j)).setCell ⟨g, q * 4 + 3, none⟩ (.int .i64 u.t)) g (l.set q u) := by
  obtain ⟨rest, h⟩ := h
  refine ⟨rest, ?_⟩
  rw [← Ro.flat_set l rest u q hq]
  exact setCell_block (setCell_block (setCell_block (setCell_block h _ _) _ _) _ _) _ _
theorem OpsB.far {w : World} {g : Nat} {l : List Ro} (h : OpsB w g l) {a : Addr} (ha : g ≠ a.block) (u : Value) : OpsB (w.setCell a u) g l := h.move (Below.heap_setCell w a u g ha)
theorem OpsB.keep {w w' : World} {g B : Nat} {l : List Ro} (h : OpsB w g l) (hb : Below B w w') (hB : g < B) : OpsB w' g l := h.move (hb.block g hB)
theorem OpsB.one {w w' : World} {g c : Nat} {l : List Ro} (h : OpsB w g l) (hg : w.grownBy w' (some c)) (hne : g ≠ c) : OpsB w' g l := h.move (hg.block g h.lt (by simpa using hne))
theorem OpsB.old {w : World} {g : Nat} {l : List Ro} (h : OpsB w g l) (o : Obj) : OpsB (w.alloc o) g l := h.move (Below.heap_alloc w o g h.lt)
theorem flat_zero_mem (n : Nat) : ∀ x ∈ Ro.flat (List.replicate n Ro.zero), x = .int .i64 0 := by
  intro x hx
  obtain ⟨u, hu, hx⟩ := List.mem_flatMap.mp hx
  obtain rfl := List.eq_of_mem_replicate hu
  simpa [Ro.zero] using hx
theorem flat_zeros (n : Nat) : madeCells #[.int .i64 0, .int .i64 0, .int .i64 0, .int .i64 0] (n * 4) = (Ro.flat (List.replicate n Ro.zero)).toArray := by
  apply Array.ext
  · simp [madeCells, Ro.flat_length]
  · intro i h1 h2
    have e : (Ro.flat (List.replicate n Ro.zero)).toArray[i] = .int .i64 0 := flat_zero_mem n _ (by simp)
    rw [e]
    have h4 : i % 4 = 0 ∨ i % 4 = 1 ∨ i % 4 = 2 ∨ i % 4 = 3 := by omega
    rcases h4 with h | h | h | h <;> simp [madeCells, h]
theorem OpsB.made {w : World} {g : Nat} (n : Nat) (hg : g = w.heap.size) : OpsB (w.alloc (.cells (madeCells #[.int .i64 0, .int .i64 0, .int .i64 0, .int .i64 0] (n * 4)) 49)) g (List.replicate n Ro.zero) := by
  subst hg
  refine ⟨[], ?_⟩
  rw [flat_zeros, List.append_nil]
  exact heap_alloc_new w _
theorem makeOps (n : Nat) (h : n ≤ 4194304) (w : World) : (Instr.makeSlice 40 (.int .i64 (n : Int)) (.int .i64 (n : Int))).run Try.prog w = .ok (.slice (some ⟨w.heap.size, 0, none⟩) n n) (w.alloc (.cells (madeCells #[.int .i64 0, .int .i64 0, .int .i64 0, .int .i64 0] (n * 4)) 49)) := by
  obtain ⟨fi, hfi, hz0, hz1, hz2⟩ := facts_op
  have := run_makeSlice (P := Try.prog) (w := w) 40 49 fi _ underlying_ops hfi hz0 .i64 .i64 (n : Int) (n : Int) (by omega) (by omega) (by rw [hz1]; omega) (by rw [hz2]; omega) (by omega)
  rw [hz1] at this
  simpa [Value.cells] using this
end Go.Proofs.Ytdnajkoeojlnbaa
end

section
/-
  The drawing of operations on rows.
-/
namespace Go.Proofs.Ytdnajkoeojlnbaa
set_option maxRecDepth 100000
open Go.RowKit

theorem l1Num (w : World) (cb : Nat) (hc : Cur w cb) : Calls Try.prog 121 #[.pointer (some ⟨cb, 0, none⟩), .int .i64 4] w (CurInt (fun _ => True) cb w) := by
  have C0 := Lib.hid hc
  clear hc
  go_enter Try.func121, Try.ntmps121
  go_wp2_with fail
  refine (l1Once _ cb 40 C0.out (by omega)).mono ?_
  rintro e w1 ⟨b, rfl, hc1, hg1⟩
  cases b with
  | true =>
    go_wp2_with fail
    refine (l1Odd _ cb hc1).mono ?_
    rintro e w2 h
    obtain ⟨r, -, rfl, hc2, hg2⟩ := h
    have C2 := Lib.hid hc2
    have G2 := Lib.hid (hg1.trans hg2)
    clear hc1 hg1 hc2 hg2
    go_wp2_with fail
    go_ret
    exact ⟨r, trivial, rfl, C2.out, G2.out⟩
  | false =>
    go_wp2_with fail
    refine (l1Below _ cb 9 hc1 (by omega)).mono ?_
    rintro e w2 ⟨r, ⟨r0, r1⟩, rfl, hc2, hg2⟩
    have C2 := Lib.hid hc2
    have G2 := Lib.hid (hg1.trans hg2)
    have v : IntKind.i64.wrap (r - 4) = r - 4 := IntWalk.i64_in _ (by omega)
    clear hc1 hg1 hc2 hg2
    go_wp2_with fail
    go_ret
    exact ⟨r - 4, trivial, rfl, C2.out, G2.out⟩
/-- What l5Op gives: some operation. -/
def CurOp (cb : Nat) (w : World) (e : Ending) (w' : World) : Prop := ∃ u : Ro, e = .returned (.agg #[.int .i64 u.k, .int .i64 u.i, .int .i64 u.j, .int .i64 u.t]) ∧ Cur w' cb ∧ FrS (fun k => k = cb ∨ w.heap.size ≤ k) w w'
theorem Blk4.frees {w : World} {b : Nat} {t : TypeId} {p q r s : Value} (h : Blk4 w b t p q r s) (i : Nat) : w.frozen? ⟨b, i, none⟩ = false := by
  unfold Blk4 at h
  simp [World.frozen?, h]
theorem Blk4.setK {w : World} {b : Nat} {t : TypeId} {p q r s : Value} (h : Blk4 w b t p q r s) (u : Value) : Blk4 (w.setCell ⟨b, 0, none⟩ u) b t u q r s := by
  unfold Blk4 at *
  obtain ⟨hlt, hget⟩ := Array.getElem?_eq_some_iff.mp h
  simp [World.setCell, hlt, Array.getElem_modify, hget]
theorem Blk4.setI {w : World} {b : Nat} {t : TypeId} {p q r s : Value} (h : Blk4 w b t p q r s) (u : Value) : Blk4 (w.setCell ⟨b, 1, none⟩ u) b t p u r s := by
  unfold Blk4 at *
  obtain ⟨hlt, hget⟩ := Array.getElem?_eq_some_iff.mp h
  simp [World.setCell, hlt, Array.getElem_modify, hget]
theorem Blk4.far4 {w : World} {b : Nat} {t : TypeId} {p q r s : Value} (h : Blk4 w b t p q r s) {a : Addr} (ha : b ≠ a.block) (u : Value) : Blk4 (w.setCell a u) b t p q r s := (Below.heap_setCell w a u b ha).trans h
theorem Blk4.keep1 {w w' : World} {b g : Nat} {t : TypeId} {p q r s : Value} (h : Blk4 w b t p q r s) (hg : w.grownBy w' (some g)) (hb : b ≠ g) : Blk4 w' b t p q r s := (hg.block b h.lt (by simpa using hb)).trans h
theorem FrS.set4 {p : Nat → Prop} {w w' : World} {b : Nat} (h : FrS p w w') (hb : p b ∨ w.heap.size ≤ b) (x y z u : Value) : FrS p w ((((w'.setCell ⟨b, 0, none⟩ x).setCell ⟨b, 1, none⟩ y).setCell ⟨b, 2, none⟩ z).setCell ⟨b, 3, none⟩ u) := (((h.set (a := ⟨b, 0, none⟩) hb _).set (a := ⟨b, 1, none⟩) hb _).set (a := ⟨b, 2, none⟩) hb _).set (a := ⟨b, 3, none⟩) hb _
set_option maxRecDepth 100000 in
set_option maxHeartbeats 2000000 in
theorem l5Op (w : World) (cb : Nat) (rows : Int) (hc : Cur w cb) (hr : 0 < rows) : Calls Try.prog 112 #[.pointer (some ⟨cb, 0, none⟩), .int .i64 rows] w (CurOp cb w) := by
  have hlt := hc.lt
  have C0 := Lib.hid hc
  clear hc
  go_enter Try.func112, Try.ntmps112
  go_wp2_with fail
  refine (l1Below _ cb 3 (C0.out.alloc (.cells #[.int .i64 0, .int .i64 0, .int .i64 0, .int .i64 0] 49)) (by omega)).mono ?_
  rintro e w1 ⟨kd, ⟨k0, k1⟩, rfl, hc1, hg1⟩
  have K4 : Hid (Blk4 w1 w.heap.size 49 (.int .i64 0) (.int .i64 0) (.int .i64 0) (.int .i64 0)) := (Blk4.at_ _ _ _ _ _ rfl).keep1 hg1 (by omega)
  have F1 : Hid (FrS (fun k => k = cb ∨ w.heap.size ≤ k) w w1) := ((FrS.refl _ w).alloc _).trans (FrS.of_one hg1 (.inl rfl))
  have C1 := Lib.hid hc1
  clear hc1 hg1 C0
  go_wp2_with fail
  refine (l1Below _ cb rows C1.out hr).mono ?_
  rintro e w2 ⟨i, -, rfl, hc2, hg2⟩
  have K4 := Lib.hid (K4.out.keep1 hg2 (by omega))
  have F2 := Lib.hid (F1.out.trans (FrS.of_one hg2 (.inl rfl)))
  have C2 := Lib.hid hc2
  clear hc2 hg2 C1 F1
  go_wp2_with fail
  refine (l1Below _ cb rows C2.out hr).mono ?_
  rintro e w3 ⟨j, -, rfl, hc3, hg3⟩
  have l3 : w.heap.size < w3.heap.size := (K4.out.keep1 hg3 (by omega)).lt
  have K4 := Lib.hid ((K4.out.keep1 hg3 (by omega)).old (.cells #[.int .i64 kd, .int .i64 i, .int .i64 j, .int .i64 0] 49))
  have F3 := Lib.hid ((F2.out.trans (FrS.of_one hg3 (.inl rfl))).alloc (.cells #[.int .i64 kd, .int .i64 i, .int .i64 j, .int .i64 0] 49))
  have lc3 := hc3.lt
  have C3 := Lib.hid (hc3.alloc (.cells #[.int .i64 kd, .int .i64 i, .int .i64 j, .int .i64 0] 49))
  have X : Hid (Blk4 (w3.alloc (.cells #[.int .i64 kd, .int .i64 i, .int .i64 j, .int .i64 0] 49)) w3.heap.size 49 (.int .i64 kd) (.int .i64 i) (.int .i64 j) (.int .i64 0)) := Blk4.at_ _ _ _ _ _ rfl
  clear hc3 hg3 C2 F2
  go_upto_region 2 with fail
  obtain ⟨xb, hxb⟩ : ∃ xb, w3.heap.size = xb := ⟨_, rfl⟩
  generalize w3.alloc (.cells #[.int .i64 kd, .int .i64 i, .int .i64 j, .int .i64 0] 49) = U at K4 F3 C3 X ⊢
  rw [hxb] at X lc3 l3 ⊢
  clear hxb
  have FIN : Hid (∀ (W : World) (a b c d : Int), Blk4 W w.heap.size 49 (.int .i64 0) (.int .i64 0) (.int .i64 0) (.int .i64 0) → Cur W cb → FrS (fun k => k = cb ∨ w.heap.size ≤ k) w W → CurOp cb w (.returned (.agg #[.int .i64 a, .int .i64 b, .int .i64 c, .int .i64 d])) ((((W.setCell ⟨w.heap.size, 0, none⟩ (.int .i64 a)).setCell ⟨w.heap.size, 1, none⟩ (.int .i64 b)).setCell ⟨w.heap.size, 2, none⟩ (.int .i64 c)).setCell ⟨w.heap.size, 3, none⟩ (.int .i64 d))) := fun W a b c d _ hcu hf =>
    ⟨⟨a, b, c, d⟩, rfl, (((hcu.setFar (by show cb < w.heap.size; omega) _).setFar (by show cb < w.heap.size; omega) _).setFar (by show cb < w.heap.size; omega) _).setFar (by show cb < w.heap.size; omega) _, hf.set4 (.inl (.inr (Nat.le_refl _))) _ _ _ _⟩
  rcases (show kd = 0 ∨ kd = 1 ∨ kd = 2 by omega) with rfl | rfl | rfl
  · obtain ⟨x0, x1, x2, x3⟩ := X.out.all
    go_wp2_with fail
    refine (l1Once _ cb 24 C3.out (by omega)).mono ?_
    rintro e w7 ⟨b, rfl, hc7, hg7⟩
    have K4 := Lib.hid (K4.out.keep1 hg7 (by omega))
    have X := Lib.hid (X.out.keep1 hg7 (by omega))
    have F3 := Lib.hid (F3.out.trans (FrS.of_one hg7 (.inl rfl)))
    have C3 := Lib.hid hc7
    clear hc7 hg7
    have lx := X.out.lt
    have lk := K4.out.lt
    have lc := C3.out.lt
    cases b with
    | false =>
      clear x0 x1 x2 x3
      obtain ⟨x0, x1, x2, x3⟩ := X.out.all
      obtain ⟨y0, y1, y2, y3⟩ := K4.out.all
      have f0 := K4.out.frees 0
      have f1 := K4.out.frees 1
      have f2 := K4.out.frees 2
      have f3 := K4.out.frees 3
      go_wp2_with fail
      obtain ⟨E0, E1, E2, E3⟩ := ((((K4.out.setK (.int .i64 0)).setI (.int .i64 i)).setJ (.int .i64 j)).setT (.int .i64 0)).all
      exact bodyPost_ret (v := .agg #[.int .i64 0, .int .i64 i, .int .i64 j, .int .i64 0]) (by simp [results, Try.results112, go_sem, E0, E1, E2, E3]) rfl (FIN.out _ _ _ _ _ K4.out C3.out F3.out)
    | true =>
      go_wp2_with fail
      refine (l1PickInt (fun _ => True) _ cb w7.heap.size 3 (C3.out.alloc _) ?_ (by omega) (by omega) (by omega)).mono ?_
      · exact IntList.new [-1, 3, 1] (fun _ _ => trivial) w7 3
      rintro e w8 ⟨z, -, rfl, hc8, hg8⟩
      have K4 := Lib.hid ((K4.out.old _).keep1 hg8 (by omega))
      have X := Lib.hid ((X.out.old _).keep1 hg8 (by omega))
      have F3 := Lib.hid ((F3.out.alloc _).trans (FrS.of_one hg8 (.inl rfl)))
      have C3 := Lib.hid hc8
      clear hc8 hg8 x0 x1 x2 x3
      obtain ⟨x0, x1, x2, x3⟩ := X.out.all
      have g0 := X.out.frees 0
      go_upto_region 9 with fail
      clear x0 x1 x2 x3
      have X := Lib.hid (X.out.setK (.int .i64 z))
      have K4 := Lib.hid (K4.out.far4 (a := ⟨xb, 0, none⟩) (by show w.heap.size ≠ xb; omega) (.int .i64 z))
      have C3 := Lib.hid (C3.out.setFar (x := ⟨xb, 0, none⟩) (by show cb < xb; omega) (.int .i64 z))
      have F3 := Lib.hid (F3.out.set (a := ⟨xb, 0, none⟩) (.inl (.inr (by show w.heap.size ≤ xb; omega))) (.int .i64 z))
      obtain ⟨x0, x1, x2, x3⟩ := X.out.all
      obtain ⟨y0, y1, y2, y3⟩ := K4.out.all
      have f0 := K4.out.frees 0
      have f1 := K4.out.frees 1
      have f2 := K4.out.frees 2
      have f3 := K4.out.frees 3
      go_wp2_with fail
      obtain ⟨E0, E1, E2, E3⟩ := ((((K4.out.setK (.int .i64 z)).setI (.int .i64 i)).setJ (.int .i64 j)).setT (.int .i64 0)).all
      exact bodyPost_ret (v := .agg #[.int .i64 z, .int .i64 i, .int .i64 j, .int .i64 0]) (by simp [results, Try.results112, go_sem, E0, E1, E2, E3]) rfl (FIN.out _ _ _ _ _ K4.out C3.out F3.out)
  · obtain ⟨x0, x1, x2, x3⟩ := X.out.all
    have g2 := X.out.frees 2
    go_upto_region 7 with fail
    clear x0 x1 x2 x3
    have X := Lib.hid (X.out.setJ (.int .i64 i))
    have K4 := Lib.hid (K4.out.far4 (a := ⟨xb, 2, none⟩) (by show w.heap.size ≠ xb; omega) (.int .i64 i))
    have C3 := Lib.hid (C3.out.setFar (x := ⟨xb, 2, none⟩) (by show cb < xb; omega) (.int .i64 i))
    have F3 := Lib.hid (F3.out.set (a := ⟨xb, 2, none⟩) (.inl (.inr (by show w.heap.size ≤ xb; omega))) (.int .i64 i))
    obtain ⟨x0, x1, x2, x3⟩ := X.out.all
    go_wp2_with fail
    refine (l1Once _ cb 24 C3.out (by omega)).mono ?_
    rintro e w7 ⟨b, rfl, hc7, hg7⟩
    have K4 := Lib.hid (K4.out.keep1 hg7 (by omega))
    have X := Lib.hid (X.out.keep1 hg7 (by omega))
    have F3 := Lib.hid (F3.out.trans (FrS.of_one hg7 (.inl rfl)))
    have C3 := Lib.hid hc7
    clear hc7 hg7
    have lx := X.out.lt
    have lk := K4.out.lt
    have lc := C3.out.lt
    cases b with
    | false =>
      clear x0 x1 x2 x3
      obtain ⟨x0, x1, x2, x3⟩ := X.out.all
      obtain ⟨y0, y1, y2, y3⟩ := K4.out.all
      have f0 := K4.out.frees 0
      have f1 := K4.out.frees 1
      have f2 := K4.out.frees 2
      have f3 := K4.out.frees 3
      go_wp2_with fail
      obtain ⟨E0, E1, E2, E3⟩ := ((((K4.out.setK (.int .i64 1)).setI (.int .i64 i)).setJ (.int .i64 i)).setT (.int .i64 0)).all
      exact bodyPost_ret (v := .agg #[.int .i64 1, .int .i64 i, .int .i64 i, .int .i64 0]) (by simp [results, Try.results112, go_sem, E0, E1, E2, E3]) rfl (FIN.out _ _ _ _ _ K4.out C3.out F3.out)
    | true =>
      go_wp2_with fail
      refine (l1PickInt (fun _ => True) _ cb w7.heap.size 3 (C3.out.alloc _) ?_ (by omega) (by omega) (by omega)).mono ?_
      · exact IntList.new [-1, 3, 1] (fun _ _ => trivial) w7 3
      rintro e w8 ⟨z, -, rfl, hc8, hg8⟩
      have K4 := Lib.hid ((K4.out.old _).keep1 hg8 (by omega))
      have X := Lib.hid ((X.out.old _).keep1 hg8 (by omega))
      have F3 := Lib.hid ((F3.out.alloc _).trans (FrS.of_one hg8 (.inl rfl)))
      have C3 := Lib.hid hc8
      clear hc8 hg8 x0 x1 x2 x3
      obtain ⟨x0, x1, x2, x3⟩ := X.out.all
      have g0 := X.out.frees 0
      go_upto_region 9 with fail
      clear x0 x1 x2 x3
      have X := Lib.hid (X.out.setK (.int .i64 z))
      have K4 := Lib.hid (K4.out.far4 (a := ⟨xb, 0, none⟩) (by show w.heap.size ≠ xb; omega) (.int .i64 z))
      have C3 := Lib.hid (C3.out.setFar (x := ⟨xb, 0, none⟩) (by show cb < xb; omega) (.int .i64 z))
      have F3 := Lib.hid (F3.out.set (a := ⟨xb, 0, none⟩) (.inl (.inr (by show w.heap.size ≤ xb; omega))) (.int .i64 z))
      obtain ⟨x0, x1, x2, x3⟩ := X.out.all
      obtain ⟨y0, y1, y2, y3⟩ := K4.out.all
      have f0 := K4.out.frees 0
      have f1 := K4.out.frees 1
      have f2 := K4.out.frees 2
      have f3 := K4.out.frees 3
      go_wp2_with fail
      obtain ⟨E0, E1, E2, E3⟩ := ((((K4.out.setK (.int .i64 z)).setI (.int .i64 i)).setJ (.int .i64 i)).setT (.int .i64 0)).all
      exact bodyPost_ret (v := .agg #[.int .i64 z, .int .i64 i, .int .i64 i, .int .i64 0]) (by simp [results, Try.results112, go_sem, E0, E1, E2, E3]) rfl (FIN.out _ _ _ _ _ K4.out C3.out F3.out)
  · obtain ⟨x0, x1, x2, x3⟩ := X.out.all
    go_wp2_with fail
    refine (l1Num _ cb C3.out).mono ?_
    rintro e w6 ⟨s, -, rfl, hc6, hg6⟩
    have K4 := Lib.hid (K4.out.keep1 hg6 (by omega))
    have X := Lib.hid (X.out.keep1 hg6 (by omega))
    have F3 := Lib.hid (F3.out.trans (FrS.of_one hg6 (.inl rfl)))
    have C3 := Lib.hid hc6
    have g3 := X.out.frees 3
    clear hc6 hg6 x0 x1 x2 x3
    obtain ⟨x0, x1, x2, x3⟩ := X.out.all
    go_upto_region 7 with fail
    clear x0 x1 x2 x3
    have X := Lib.hid (X.out.setT (.int .i64 s))
    have K4 := Lib.hid (K4.out.far4 (a := ⟨xb, 3, none⟩) (by show w.heap.size ≠ xb; omega) (.int .i64 s))
    have C3 := Lib.hid (C3.out.setFar (x := ⟨xb, 3, none⟩) (by show cb < xb; omega) (.int .i64 s))
    have F3 := Lib.hid (F3.out.set (a := ⟨xb, 3, none⟩) (.inl (.inr (by show w.heap.size ≤ xb; omega))) (.int .i64 s))
    obtain ⟨x0, x1, x2, x3⟩ := X.out.all
    go_wp2_with fail
    refine (l1Once _ cb 24 C3.out (by omega)).mono ?_
    rintro e w7 ⟨b, rfl, hc7, hg7⟩
    have K4 := Lib.hid (K4.out.keep1 hg7 (by omega))
    have X := Lib.hid (X.out.keep1 hg7 (by omega))
    have F3 := Lib.hid (F3.out.trans (FrS.of_one hg7 (.inl rfl)))
    have C3 := Lib.hid hc7
    clear hc7 hg7
    have lx := X.out.lt
    have lk := K4.out.lt
    have lc := C3.out.lt
    cases b with
    | false =>
      clear x0 x1 x2 x3
      obtain ⟨x0, x1, x2, x3⟩ := X.out.all
      obtain ⟨y0, y1, y2, y3⟩ := K4.out.all
      have f0 := K4.out.frees 0
      have f1 := K4.out.frees 1
      have f2 := K4.out.frees 2
      have f3 := K4.out.frees 3
      go_wp2_with fail
      obtain ⟨E0, E1, E2, E3⟩ := ((((K4.out.setK (.int .i64 2)).setI (.int .i64 i)).setJ (.int .i64 j)).setT (.int .i64 s)).all
      exact bodyPost_ret (v := .agg #[.int .i64 2, .int .i64 i, .int .i64 j, .int .i64 s]) (by simp [results, Try.results112, go_sem, E0, E1, E2, E3]) rfl (FIN.out _ _ _ _ _ K4.out C3.out F3.out)
    | true =>
      go_wp2_with fail
      refine (l1PickInt (fun _ => True) _ cb w7.heap.size 3 (C3.out.alloc _) ?_ (by omega) (by omega) (by omega)).mono ?_
      · exact IntList.new [-1, 3, 1] (fun _ _ => trivial) w7 3
      rintro e w8 ⟨z, -, rfl, hc8, hg8⟩
      have K4 := Lib.hid ((K4.out.old _).keep1 hg8 (by omega))
      have X := Lib.hid ((X.out.old _).keep1 hg8 (by omega))
      have F3 := Lib.hid ((F3.out.alloc _).trans (FrS.of_one hg8 (.inl rfl)))
      have C3 := Lib.hid hc8
      clear hc8 hg8 x0 x1 x2 x3
      obtain ⟨x0, x1, x2, x3⟩ := X.out.all
      have g0 := X.out.frees 0
      go_upto_region 9 with fail
      clear x0 x1 x2 x3
      have X := Lib.hid (X.out.setK (.int .i64 z))
      have K4 := Lib.hid (K4.out.far4 (a := ⟨xb, 0, none⟩) (by show w.heap.size ≠ xb; omega) (.int .i64 z))
      have C3 := Lib.hid (C3.out.setFar (x := ⟨xb, 0, none⟩) (by show cb < xb; omega) (.int .i64 z))
      have F3 := Lib.hid (F3.out.set (a := ⟨xb, 0, none⟩) (.inl (.inr (by show w.heap.size ≤ xb; omega))) (.int .i64 z))
      obtain ⟨x0, x1, x2, x3⟩ := X.out.all
      obtain ⟨y0, y1, y2, y3⟩ := K4.out.all
      have f0 := K4.out.frees 0
      have f1 := K4.out.frees 1
      have f2 := K4.out.frees 2
      have f3 := K4.out.frees 3
      go_wp2_with fail
      obtain ⟨E0, E1, E2, E3⟩ := ((((K4.out.setK (.int .i64 z)).setI (.int .i64 i)).setJ (.int .i64 j)).setT (.int .i64 s)).all
      exact bodyPost_ret (v := .agg #[.int .i64 z, .int .i64 i, .int .i64 j, .int .i64 s]) (by simp [results, Try.results112, go_sem, E0, E1, E2, E3]) rfl (FIN.out _ _ _ _ _ K4.out C3.out F3.out)
end Go.Proofs.Ytdnajkoeojlnbaa
end

section
/-
  The drawing of lists of operations on rows.
-/
namespace Go.Proofs.Ytdnajkoeojlnbaa
set_option maxRecDepth 100000
open Go.RowKit

/-- Some operations in memory of the call's own. -/
def CurOps (cb : Nat) (w : World) (e : Ending) (w' : World) : Prop := ∃ (v : Value) (l : List Ro), e = .returned v ∧ w'.ownsRow w.heap.size 49 4 v l.length (Ro.flat l) ∧ l.length ≤ 4 ∧ Cur w' cb ∧ FrS (fun k => k = cb ∨ w.heap.size ≤ k) w w'
theorem ownB_far {w : World} {B cb n : Nat} {e : TypeId} {size : Nat} {v : Value} {xs : List Value} (h : w.ownsRow B e size v n xs) (hB : cb < B) : v.ownBlock = none ∨ v.ownBlock ≠ some cb := by
  cases hv : v.ownBlock with
  | none => exact .inl rfl
  | some k => exact .inr (fun h' => by have := (h.lt k hv).1; injection h' with h'; omega)
set_option maxRecDepth 100000 in
set_option maxHeartbeats 4000000 in
theorem l5Ops (w : World) (cb : Nat) (rows : Int) (hc : Cur w cb) (hr : 0 < rows) : Calls Try.prog 86 #[.pointer (some ⟨cb, 0, none⟩), .int .i64 rows] w (CurOps cb w) := by
  have hlt := hc.lt
  have C0 := Lib.hid (hc.alloc (.cells #[] 49))
  have own0 : (w.alloc (.cells #[] 49)).ownsRow w.heap.size 49 4 (.slice (some ⟨w.heap.size, 0, none⟩) 0 0) 0 (Ro.flat []) := ⟨rfl, .inr ⟨w.heap.size, 0, #[], rfl, Nat.le_refl _, heap_alloc_new w _, Nat.le_refl _, by decide, rfl, rfl⟩⟩
  have O0 := Lib.hid own0
  have F0 : Hid (FrS (fun k => k = cb ∨ w.heap.size ≤ k) w (w.alloc (.cells #[] 49))) := (FrS.refl _ w).alloc _
  clear hc own0
  go_enter Try.func86, Try.ntmps86
  go_wp2_with fail
  refine (l1Below _ cb 5 C0.out (by omega)).mono ?_
  rintro e w1 ⟨q, ⟨q0, q1⟩, rfl, hc1, hg1⟩
  obtain ⟨q, rfl⟩ := Int.eq_ofNat_of_zero_le q0
  have O1 := Lib.hid (O0.out.kept hg1 (ownB_far O0.out hlt))
  have F1 := Lib.hid (F0.out.trans (FrS.of_one hg1 (.inl rfl)))
  have C1 := Lib.hid hc1
  clear hc1 hg1 C0 O0 F0
  obtain ⟨fi, hfi, hz0, hz1, hz2⟩ := facts_op
  go_wp2_with fail
  go_loopw [5, 6] (fun v5 v6 wr => ∃ (q : Nat) (l : List Ro), v6 = .int .i64 q ∧ l.length + q ≤ 4 ∧ wr.ownsRow w.heap.size 49 4 v5 l.length (Ro.flat l) ∧ Cur wr cb ∧ FrS (fun k => k = cb ∨ w.heap.size ≤ k) w wr) (fun _ v6 _ => (intOf v6).toNat)
  case atStart => exact ⟨q, [], rfl, by simp; omega, O1.out, C1.out, F1.out⟩
  case round =>
    obtain ⟨q, l, rfl, hq, ho, hcu, hf⟩ := hrel
    have O := Lib.hid ho
    have CU := Lib.hid hcu
    have FR := Lib.hid hf
    obtain ⟨va, vm, vc, rfl⟩ := rows_form ho
    clear ho hcu hf
    by_cases hgo : 0 < q
    · obtain ⟨q, rfl⟩ : ∃ p, q = p + 1 := ⟨q - 1, by omega⟩
      have n1 : decide ((0 : Int) < ((q + 1 : Nat) : Int)) = true := decide_eq_true (by omega)
      have vq : IntKind.i64.wrap (((q + 1 : Nat) : Int) - 1) = ((q + 1 : Nat) : Int) - 1 := IntWalk.i64_in _ (by omega)
      have LE : Hid (l.length ≤ 4) := by show _ ≤ 4; omega
      go_wp2_with fail
      refine (l5Op _ cb rows CU.out hr).mono ?_
      rintro e w2 ⟨u, rfl, hc2, hf2⟩
      have hg2 := hf2.one (g := cb) (fun k hk hp => by omega)
      have O2 := Lib.hid ((O.out.kept hg2 (ownB_far O.out hlt)).kept (World.grownBy_alloc w2 (.cells #[.int .i64 u.k, .int .i64 u.i, .int .i64 u.j, .int .i64 u.t] 49) none) (by cases (Value.slice va vm vc).ownBlock <;> simp))
      have s0 := FR.out.size
      have F2 := Lib.hid ((FR.out.trans (hf2.mono2 (q := fun k => k = cb ∨ w.heap.size ≤ k) (fun k _ hk => by omega))).alloc (.cells #[.int .i64 u.k, .int .i64 u.i, .int .i64 u.j, .int .i64 u.t] 49))
      have C2 := Lib.hid (hc2.alloc (.cells #[.int .i64 u.k, .int .i64 u.i, .int .i64 u.j, .int .i64 u.t] 49))
      clear hc2 hf2 hg2
      go_wp2_with (at_builtin; refine wpList_append_own_at _ rfl _ _ 40 rfl w.heap.size 49 fi (.agg #[.int .i64 0, .int .i64 0, .int .i64 0, .int .i64 0]) 4 32 underlying_ops hfi hz0 hz1 hz2 rfl (by decide) _ _ _ rfl O2.out ⟨w2.heap.size, 0, none⟩ 1 1 [.int .i64 u.k, .int .i64 u.i, .int .i64 u.j, .int .i64 u.t] ?hx ?hl ?hnews ?h1 ?h63 ?hbytes ?hbase ?hnext)
      case hx => rfl
      case hl => rfl
      case hnews => exact cells4_new _ _ _ _ _ _
      case h1 => intro v hv; simp only [List.mem_cons, List.not_mem_nil, or_false] at hv; rcases hv with rfl | rfl | rfl | rfl <;> rfl
      case h63 => have := LE.out; unfold maxLen; omega
      case hbytes => have := LE.out; omega
      case hbase => exact F2.out.size
      case hnext =>
        rintro v2 wr2 ho2 hg2 - -
        obtain ⟨ua, um, uc, rfl⟩ := rows_form ho2
        have hfr : FrS (fun k => w.heap.size ≤ k) (w2.alloc (.cells #[.int .i64 u.k, .int .i64 u.i, .int .i64 u.j, .int .i64 u.t] 49)) wr2 := ⟨hg2.os, hg2.tape, hg2.output, hg2.size, fun k hk hn => hg2.block k hk (fun h => hn (O2.out.lt k h.symm).1)⟩
        have O3 : Hid (wr2.ownsRow w.heap.size 49 4 (.slice ua um uc) (l ++ [u]).length (Ro.flat (l ++ [u]))) := by
          refine Lib.hid ?_
          rw [Ro.flat_app, List.length_append]
          exact ho2
        have C3 := Lib.hid (C2.out.frs hfr (fun k hk => by omega))
        have F3 := Lib.hid (F2.out.trans (hfr.mono (q := fun k => k = cb ∨ w.heap.size ≤ k) (fun k hk => .inr hk)))
        have LE2 : Hid ((l ++ [u]).length + q ≤ 4) := by show _ ≤ 4; rw [List.length_append]; simp; omega
        clear ho2 hg2 hfr
        go_wp2_with fail
        go_roundw
        case rel => exact ⟨q, l ++ [u], by go_num, LE2.out, O3.out, C3.out, F3.out⟩
        case measure => simp [intOf] <;> omega
    · have n1 : decide ((0 : Int) < (q : Int)) = false := by simp; omega
      go_wp2_with fail
      go_ret
      exact ⟨_, l, rfl, O.out, by omega, CU.out, FR.out⟩
end Go.Proofs.Ytdnajkoeojlnbaa
end

section
/-
  The drawing of matrices: one of any size up to 4 by 4.
-/
namespace Go.Proofs.Ytdnajkoeojlnbaa
set_option maxRecDepth 100000
open Go.RowKit

set_option maxRecDepth 20000 in
set_option maxHeartbeats 2000000 in
theorem l3Any (w : World) (cb : Nat) (hc : Cur w cb) :
    Calls Try.prog 85 #[.pointer (some ⟨cb, 0, none⟩)] w (CurMat w.heap.size 600 cb (fun k => k = cb ∨ w.heap.size ≤ k) w) := by
  have hlt := hc.lt
  have C0 := Lib.hid hc
  clear hc
  go_enter Try.func85, Try.ntmps85
  go_wp2_with fail
  refine (l1Below _ cb 5 (C0.out.alloc (.cells #[.int .i64 0, .int .i64 0, .slice none 0 0] 27)) (by omega)).mono ?_
  rintro e w1 ⟨R, ⟨r0, r1⟩, rfl, hc1, hg1⟩
  have K2 : Hid (Blk3 w1 w.heap.size 27 (.int .i64 0) (.int .i64 0) (.slice none 0 0)) := (Blk3.at_ _ _ _ _ rfl).keepOne hg1 (by omega)
  have C1 := Lib.hid hc1
  have F1 : Hid (FrS (fun k => k = cb ∨ w.heap.size ≤ k) w w1) := ((FrS.refl _ w).alloc _).trans (FrS.of_one hg1 (.inl rfl))
  clear hc1 hg1 C0
  go_wp2_with fail
  refine (l1Below _ cb 5 C1.out (by omega)).mono ?_
  rintro e w2 ⟨C, ⟨c0, c1⟩, rfl, hc2, hg2⟩
  have K2 := Lib.hid (K2.out.keepOne hg2 (by omega))
  have C2 := Lib.hid hc2
  have F2 := Lib.hid (F1.out.trans (FrS.of_one hg2 (.inl rfl)))
  clear hc2 hg2 C1 F1
  have lk := K2.out.lt
  have lc := C2.out.lt
  go_wp2_with fail
  refine (l1PickInt (fun z => 1 ≤ z ∧ z ≤ 9) _ cb w2.heap.size 3 (C2.out.alloc _) ?_ (by omega) (by omega) (by omega)).mono ?_
  · exact IntList.new [1, 3, 9] (by decide) w2 3
  rintro e w3 ⟨z, ⟨z0, z1⟩, rfl, hc3, hg3⟩
  have K2 := Lib.hid ((K2.out.old _).keepOne hg3 (by omega))
  have C3 := Lib.hid hc3
  have F3 := Lib.hid ((F2.out.alloc _).trans (FrS.of_one hg3 (.inl rfl)))
  clear hc3 hg3 C2 F2 lk lc
  obtain ⟨R, rfl⟩ := Int.eq_ofNat_of_zero_le r0
  obtain ⟨C, rfl⟩ := Int.eq_ofNat_of_zero_le c0
  obtain ⟨z, rfl⟩ := Int.eq_ofNat_of_zero_le (show 0 ≤ z by omega)
  have lk := K2.out.lt
  have lc := C3.out.lt
  go_wp2_with fail
  refine (l3Draw _ cb R C z C3.out (by omega) (by omega) (by omega)).mono ?_
  rintro e w4 ⟨g, zs, rfl, hg, hz, hi, hc4, hg4⟩
  obtain ⟨N, hN⟩ : ∃ N, R * C = N := ⟨_, rfl⟩
  have hNle : N ≤ 16 := by rw [← hN]; exact Nat.mul_le_mul (show R ≤ 4 by omega) (show C ≤ 4 by omega)
  have HN := Lib.hid hN
  rw [hN] at hz hi ⊢
  have HZ := Lib.hid hz
  have K2 := Lib.hid ((K2.out.keepOne hg4 (by omega)).old (.cells #[.int .i64 R, .int .i64 C, .slice (some ⟨g, 0, none⟩) N N] 27))
  have K6 : Hid (Blk3 (w4.alloc (.cells #[.int .i64 R, .int .i64 C, .slice (some ⟨g, 0, none⟩) N N] 27)) w4.heap.size 27 (.int .i64 R) (.int .i64 C) (.slice (some ⟨g, 0, none⟩) N N)) := Blk3.at_ _ _ _ _ rfl
  have CU := Lib.hid (hc4.alloc (.cells #[.int .i64 R, .int .i64 C, .slice (some ⟨g, 0, none⟩) N N] 27))
  have FR := Lib.hid ((F3.out.trans (FrS.of_one hg4 (.inl rfl))).alloc (.cells #[.int .i64 R, .int .i64 C, .slice (some ⟨g, 0, none⟩) N N] 27))
  have I := Lib.hid (hi.old (.cells #[.int .i64 R, .int .i64 C, .slice (some ⟨g, 0, none⟩) N N] 27))
  have gp := hi.lt
  have wg : w.heap.size < g := by omega
  have wp : w.heap.size < w4.heap.size := by omega
  have hw4 := FR.out.size
  clear hN hz hi hc4 hg4 hg F3 C3 lk lc
  obtain ⟨x0, x1, x2, -, -, -⟩ := K6.out.all
  by_cases h1 : (1 : Int) < R
  · go_wp2_with fail
    refine (l1Once _ cb 4 CU.out (by omega)).mono ?_
    rintro e w5 ⟨b, rfl, hc5, hg5⟩
    have K2 := Lib.hid (K2.out.keepOne hg5 (by omega))
    have K6 := Lib.hid (K6.out.keepOne hg5 (by omega))
    have CU := Lib.hid hc5
    have FR := Lib.hid (FR.out.trans (FrS.of_one hg5 (.inl rfl)))
    have I := Lib.hid (I.out.move (hg5.block g I.out.lt (by simp; omega)))
    clear hc5 hg5 x0 x1 x2
    obtain ⟨x0, x1, x2, -, -, -⟩ := K6.out.all
    cases b with
    | false =>
      go_wp2_with fail
      refine (l3Spoil _ cb w.heap.size g N N R C zs CU.out hlt FR.out.size (by omega) I.out HZ.out (by omega)).mono ?_
      rintro e w9 ⟨r', c', v', zs', rfl, own, hl, hc9, hf⟩
      obtain ⟨q9, qc9, rfl, -, -⟩ := (own.own (by omega)).form
      have lk9 := K2.out.lt
      have K2 := Lib.hid (K2.out.frs hf (by omega))
      have F9 := Lib.hid (FR.out.trans ((hf.mono (q := fun k => k = cb ∨ w.heap.size ≤ k) (fun k hk => by have := FR.out.size; omega))))
      have O9 := Lib.hid own
      have C9 := Lib.hid hc9
      have HL := Lib.hid hl
      clear own hl hc9 hf
      obtain ⟨y0, y1, y2, y3, y4, y5⟩ := K2.out.all
      go_wp2_with fail
      obtain ⟨E0, E1, E2, -, -, -⟩ := (((K2.out.set0 (.int .i64 r')).set1 (.int .i64 c')).set2 (.slice q9 zs'.length qc9)).all
      exact bodyPost_ret (v := .agg #[.int .i64 r', .int .i64 c', .slice q9 zs'.length qc9]) (by simp [results, Try.results85, go_sem, E0, E1, E2]) rfl (CurMat.end_ O9.out (by have := HL.out; omega) K2.out C9.out hlt (.inr (Nat.le_refl _)) F9.out)
    | true =>
      go_wp2_with fail
      go_loopw [4] (fun i wr => ∃ (k : Nat) (zs : List Int), i = .int .i64 k ∧ k ≤ C ∧ zs.length = N ∧ IntsC wr g N zs ∧ FrS (fun k => k = g) w5 wr) (fun i _ => C - (intOf i).toNat)
      case atStart => exact ⟨0, zs, rfl, by omega, HZ.out, I.out, FrS.refl _ _⟩
      case round =>
        clear HZ
        obtain ⟨k, zs, rfl, hk, hz, hi, hfr⟩ := hrel
        have HZ := Lib.hid hz
        have I := Lib.hid hi
        have FG := Lib.hid hfr
        clear hz hi hfr x0 x1 x2
        have K6 := Lib.hid (K6.out.frs FG.out (by omega))
        obtain ⟨x0, x1, x2, -, -, -⟩ := K6.out.all
        by_cases hk2 : k < C
        · obtain ⟨R', hR'⟩ : ∃ R', R = R' + 1 := ⟨R - 1, by omega⟩
          have q1 : R' * C + k < N := by rw [← HN.out, hR']; exact idx_lt (Nat.lt_succ_self R') hk2
          have q2 : k < N := by omega
          have hc1 := I.out.ints.cell (i := R' * C + k) (by rw [HZ.out]; exact q1)
          have hc2 := I.out.ints.cell (i := k) (by rw [HZ.out]; exact q2)
          have hfr := I.out.ints.free k
          obtain ⟨x, hx⟩ : ∃ x, zs.getD (R' * C + k) 0 = x := ⟨_, rfl⟩
          rw [hx] at hc1
          obtain ⟨y, hy⟩ : ∃ y, zs.getD k 0 = y := ⟨_, rfl⟩
          rw [hy] at hc2
          have e0 : (R : Int) - 1 = (R' : Int) := by omega
          have e01 : IntKind.i64.wrap (R' : Int) = (R' : Int) := IntWalk.i64_in _ (by omega)
          have c1 : (R' : Int) * (C : Int) = ((R' * C : Nat) : Int) := (Int.natCast_mul _ _).symm
          have d1 : 0 ≤ (R' : Int) * (C : Int) ∧ (R' : Int) * (C : Int) ≤ 600 := by rw [c1]; omega
          have e1 : 0 ≤ (R' : Int) * (C : Int) + (k : Int) := by omega
          have e2 : (R' : Int) * (C : Int) + (k : Int) < (N : Int) := by rw [c1]; omega
          have e3 : ((R' : Int) * (C : Int) + (k : Int)).toNat = R' * C + k := by rw [c1]; omega
          obtain ⟨d11, d12⟩ := d1
          have v1 : IntKind.i64.wrap ((R' : Int) * (C : Int)) = (R' : Int) * (C : Int) := IntWalk.i64_in _ (by omega)
          have v2 : IntKind.i64.wrap ((R' : Int) * (C : Int) + (k : Int)) = (R' : Int) * (C : Int) + (k : Int) := IntWalk.i64_in _ (by omega)
          clear c1 hx hy hR'
          go_wp2_with fail
          go_still_tail 17, (by kernel_rfl)
          go_wp2_with fail
          go_roundw
          case rel =>
            refine ⟨k + 1, zs.set k (wrap64 (2 * x)), by go_num, by omega, by rw [List.length_set]; exact HZ.out, ?_, ?_⟩
            · exact I.out.drew.set k (by rw [HZ.out]; exact q2) _
            · exact (FG.out.drew).set (a := ⟨g, k, none⟩) (.inl rfl) _
          case measure => simp [intOf]; omega
        · have hk3 : decide (k < C) = false := by simpa using hk2
          have K2 := Lib.hid (K2.out.frs FG.out (by omega))
          have CU := Lib.hid (CU.out.frs FG.out (fun k hk => by omega))
          have FR := Lib.hid (FR.out.trans (FG.out.mono (q := fun k => k = cb ∨ w.heap.size ≤ k) (fun k hk => by omega)))
          go_wp2_with fail
          refine (l3Spoil _ cb w.heap.size g N N R C zs CU.out hlt FR.out.size (by omega) I.out HZ.out (by omega)).mono ?_
          rintro e w9 ⟨r', c', v', zs', rfl, own, hl, hc9, hf⟩
          obtain ⟨q9, qc9, rfl, -, -⟩ := (own.own (by omega)).form
          have lk9 := K2.out.lt
          have K2 := Lib.hid (K2.out.frs hf (by omega))
          have F9 := Lib.hid (FR.out.trans ((hf.mono (q := fun k => k = cb ∨ w.heap.size ≤ k) (fun k hk => by have := FR.out.size; omega))))
          have O9 := Lib.hid own
          have C9 := Lib.hid hc9
          have HL := Lib.hid hl
          clear own hl hc9 hf
          obtain ⟨y0, y1, y2, y3, y4, y5⟩ := K2.out.all
          go_wp2_with fail
          obtain ⟨E0, E1, E2, -, -, -⟩ := (((K2.out.set0 (.int .i64 r')).set1 (.int .i64 c')).set2 (.slice q9 zs'.length qc9)).all
          exact bodyPost_ret (v := .agg #[.int .i64 r', .int .i64 c', .slice q9 zs'.length qc9]) (by simp [results, Try.results85, go_sem, E0, E1, E2]) rfl (CurMat.end_ O9.out (by have := HL.out; omega) K2.out C9.out hlt (.inr (Nat.le_refl _)) F9.out)
  · have h1' : decide ((1 : Int) < (R : Int)) = false := by simpa using h1
    go_wp2_with fail
    refine (l3Spoil _ cb w.heap.size g N N R C zs CU.out hlt FR.out.size (by omega) I.out HZ.out (by omega)).mono ?_
    rintro e w9 ⟨r', c', v', zs', rfl, own, hl, hc9, hf⟩
    obtain ⟨q9, qc9, rfl, -, -⟩ := (own.own (by omega)).form
    have lk9 := K2.out.lt
    have K2 := Lib.hid (K2.out.frs hf (by omega))
    have F9 := Lib.hid (FR.out.trans ((hf.mono (q := fun k => k = cb ∨ w.heap.size ≤ k) (fun k hk => by have := FR.out.size; omega))))
    have O9 := Lib.hid own
    have C9 := Lib.hid hc9
    have HL := Lib.hid hl
    clear own hl hc9 hf
    obtain ⟨y0, y1, y2, y3, y4, y5⟩ := K2.out.all
    go_wp2_with fail
    obtain ⟨E0, E1, E2, -, -, -⟩ := (((K2.out.set0 (.int .i64 r')).set1 (.int .i64 c')).set2 (.slice q9 zs'.length qc9)).all
    exact bodyPost_ret (v := .agg #[.int .i64 r', .int .i64 c', .slice q9 zs'.length qc9]) (by simp [results, Try.results85, go_sem, E0, E1, E2]) rfl (CurMat.end_ O9.out (by have := HL.out; omega) K2.out C9.out hlt (.inr (Nat.le_refl _)) F9.out)
end Go.Proofs.Ytdnajkoeojlnbaa
end

section
/-
  The drawing of a matrix and operations on its rows from a code.
-/
namespace Go.Proofs.Ytdnajkoeojlnbaa
set_option maxRecDepth 100000
open Go.RowKit

def MatOps (w : World) (e : Ending) (w' : World) : Prop := ∃ (r c : Int) (q : Option Addr) (qc : Nat) (zs : List Int) (v : Value) (l : List Ro), e = .returned (.tuple #[.agg #[.int .i64 r, .int .i64 c, .slice q zs.length qc], v]) ∧ Own w.heap.size w' (.slice q zs.length qc) zs ∧ zs.length ≤ 601 ∧ w'.ownsRow w.heap.size 49 4 v l.length (Ro.flat l) ∧ l.length ≤ 4 ∧ Below w.heap.size w w'
theorem rows_set {w : World} {B n : Nat} {e : TypeId} {size : Nat} {v : Value} {xs : List Value} (h : w.ownsRow B e size v n xs) {a : Addr} (ha : a.block < B) (u : Value) : (w.setCell a u).ownsRow B e size v n xs := by
  obtain ⟨h1, ⟨h2, h3⟩ | ⟨g, cap, cur, e, hB, hg, rest⟩⟩ := h
  · exact ⟨h1, .inl ⟨h2, h3⟩⟩
  · exact ⟨h1, .inr ⟨g, cap, cur, e, hB, (Below.heap_setCell w a u g (by omega)).trans hg, rest⟩⟩
theorem rows_le {w : World} {B B' n : Nat} {e : TypeId} {size : Nat} {v : Value} {xs : List Value} (h : w.ownsRow B e size v n xs) (hB : B' ≤ B) : w.ownsRow B' e size v n xs := by
  obtain ⟨h1, ⟨h2, h3⟩ | ⟨g, cap, cur, e, hB', hg, rest⟩⟩ := h
  · exact ⟨h1, .inl ⟨h2, h3⟩⟩
  · exact ⟨h1, .inr ⟨g, cap, cur, e, Nat.le_trans hB hB', hg, rest⟩⟩
set_option maxRecDepth 100000 in
set_option maxHeartbeats 2000000 in
theorem drawOps (w : World) (a : Option Addr) (len cap : Nat) (hc : CodeIn w a len) : Calls Try.prog 35 #[.slice a len cap] w (MatOps w) := by
  have HC := Lib.hid hc
  clear hc
  go_enter Try.func35, Try.ntmps35
  go_wp2_with fail
  refine (l1New _ a len cap (HC.out.below ((Below.refl _ _).alloc (Nat.le_refl _) _))).mono ?_
  rintro e w1 ⟨cb, rfl, hcb, hc1, hb1⟩
  have CB : w.heap.size < cb := by simp at hcb; omega
  have K2 : Hid (Blk3 w1 w.heap.size 27 (.int .i64 0) (.int .i64 0) (.slice none 0 0)) := (Blk3.at_ _ _ _ _ rfl).keep hb1 (by simp)
  have F1 : Hid (FrS (fun k => w.heap.size ≤ k) w w1) := ((FrS.refl _ w).alloc _).trans (FrS.of_below hb1)
  have C1 := Lib.hid hc1
  clear hcb hc1 hb1
  go_wp2_with fail
  refine (l3Any _ cb C1.out).mono ?_
  rintro e w2 ⟨r, c, v, xs, rfl, own, hl, hc2, hf⟩
  have s1 := F1.out.size
  have lk := K2.out.lt
  have c1 := C1.out.lt
  obtain ⟨q, qc, rfl, -, -⟩ := (own.own (by omega)).form
  have K2 := Lib.hid ((K2.out.frs hf (by omega)).old (.cells #[.int .i64 r, .int .i64 c, .slice q xs.length qc] 27))
  have F2 := Lib.hid ((F1.out.trans (hf.mono2 (q := fun k => w.heap.size ≤ k) (fun k _ hk => by omega))).alloc (.cells #[.int .i64 r, .int .i64 c, .slice q xs.length qc] 27))
  have C2 := Lib.hid (hc2.alloc (.cells #[.int .i64 r, .int .i64 c, .slice q xs.length qc] 27))
  have O2 : Hid (OwnC w1.heap.size (w2.alloc (.cells #[.int .i64 r, .int .i64 c, .slice q xs.length qc] 27)) (.slice q xs.length qc) xs) := own.frs ((FrS.refl (fun _ => False) w2).alloc _) (fun _ _ h => h)
  have K5 : Hid (Blk3 (w2.alloc (.cells #[.int .i64 r, .int .i64 c, .slice q xs.length qc] 27)) w2.heap.size 27 (.int .i64 r) (.int .i64 c) (.slice q xs.length qc)) := Blk3.at_ _ _ _ _ rfl
  have s2 := hf.size
  clear own hc2 hf
  go_upto_region 3 with fail
  obtain ⟨pb, hpb⟩ : ∃ pb, w2.heap.size = pb := ⟨_, rfl⟩
  generalize w2.alloc (.cells #[.int .i64 r, .int .i64 c, .slice q xs.length qc] 27) = W at K2 F2 C2 O2 K5 ⊢
  rw [hpb] at K5 s2 ⊢
  clear hpb
  have lW := K5.out.lt
  refine wp_region_held_drew (S := fun w' => FrS (fun k => k = cb ∨ k = w.heap.size ∨ W.heap.size ≤ k) W w') (by kernel_rfl) (FrS.refl _ _).drew (fun hH => ?_)
  refine wpAnyH_take (i := 0) (v := ?_) (by simp only [List.getElem?_toArray, List.getElem?_cons_zero]; rfl) (by kernel_rfl) (by kernel_rfl) (by kernel_rfl) (by exact fun _ _ _ h => h) (Or.inl ⟨by rfl, ?_⟩) hH ?_
  rotate_left
  · (intro wS hS; (try dsimp only at hS); obtain ⟨k1, k2, k3⟩ := sevenF K5.out hS (by omega); go_simp; try rfl)
  try simp only [Act.put, List.setIfInBounds_toArray, List.set_cons_zero, List.set_cons_succ]
  refine wpAnyH_take (i := 1) (v := ?_) (by simp only [List.getElem?_toArray, List.getElem?_cons_succ, List.getElem?_cons_zero]; rfl) (by kernel_rfl) (by kernel_rfl) (by kernel_rfl) (by exact fun _ _ _ h => h) (Or.inl ⟨by rfl, ?_⟩) hH ?_
  rotate_left
  · (intro wS hS; clear hS; go_simp; try rfl)
  try simp only [Act.put, List.setIfInBounds_toArray, List.set_cons_zero, List.set_cons_succ]
  refine wpAnyH_take (i := 2) (v := ?_) (by simp only [List.getElem?_toArray, List.getElem?_cons_succ, List.getElem?_cons_zero]; rfl) (by kernel_rfl) (by kernel_rfl) (by kernel_rfl) (by exact fun _ _ _ h => h) (Or.inl ⟨by rfl, ?_⟩) hH ?_
  rotate_left
  · (intro wS hS; clear hS; go_simp; try rfl)
  try simp only [Act.put, List.setIfInBounds_toArray, List.set_cons_zero, List.set_cons_succ]
  refine wpAnyH_take (i := 3) (v := ?_) (by simp only [List.getElem?_toArray, List.getElem?_cons_succ, List.getElem?_cons_zero]; rfl) (by kernel_rfl) (by kernel_rfl) (by kernel_rfl) (by exact fun _ _ _ h => h) (Or.inl ⟨by rfl, ?_⟩) hH ?_
  rotate_left
  · (intro wS hS; (try dsimp only at hS); obtain ⟨k1, k2, k3⟩ := sevenF K5.out hS (by omega); go_simp; try rfl)
  try simp only [Act.put, List.setIfInBounds_toArray, List.set_cons_zero, List.set_cons_succ]
  refine wpAnyH_ready (rs := [4]) (by kernel_rfl) (by simp) ?_
  refine AllReadyH.cons (by simp only [List.getElem?_toArray, List.getElem?_cons_succ, List.getElem?_cons_zero]; rfl) (fun K hK => ?_) AllReadyH.nil
  go_simp
  refine hK.out _ _ ?_ (fun hH2 => ?_)
  · exact hH
  clear hK K hH
  have hH := hH2
  clear hH2
  try simp only [Act.put, List.setIfInBounds_toArray, List.set_cons_zero, List.set_cons_succ]
  refine wpAnyH_ready (rs := [5]) (by kernel_rfl) (by simp) ?_
  refine AllReadyH.cons (by simp only [List.getElem?_toArray, List.getElem?_cons_succ, List.getElem?_cons_zero]; rfl) (fun K hK => ?_) AllReadyH.nil
  go_simp
  refine hK.out _ _ ?_ (fun hH2 => ?_)
  · exact hH
  clear hK K hH
  have hH := hH2
  clear hH2
  try simp only [Act.put, List.setIfInBounds_toArray, List.set_cons_zero, List.set_cons_succ]
  refine wpAnyH_ready (rs := [6]) (by kernel_rfl) (by simp) ?_
  refine AllReadyH.cons (by simp only [List.getElem?_toArray, List.getElem?_cons_succ, List.getElem?_cons_zero]; rfl) (fun K hK => ?_) AllReadyH.nil
  go_simp
  have CD : Cur W.drew cb := C2.out
  (with_reducible refine (l5Ops _ cb _ CD (by first | omega | (repeat' split) <;> omega)).mono ?_)
  rintro e v6 ⟨v, l, rfl, own6, hl6, hc6, hf6⟩
  obtain ⟨va, vm, vc, rfl⟩ := rows_form own6
  try dsimp only
  refine hK.out _ _ ?_ (fun hH2 => ?_)
  · exact hH.trans (hf6.mono (fun k hk => by have := hH.size; simp at hk ⊢; omega))
  clear hK K hH
  have hH := hH2
  clear hH2
  try simp only [Act.put, List.setIfInBounds_toArray, List.set_cons_zero, List.set_cons_succ]
  have hf7 : FrS (fun k => k = cb ∨ W.heap.size ≤ k) W v6 := ⟨hf6.os, hf6.tape, hf6.output, hf6.size, hf6.block⟩
  have s6 := hf7.size
  have K2 := Lib.hid (K2.out.frs hf7 (by omega))
  have O6 := Lib.hid (O2.out.frs2 hf7 (fun k hk hk2 => by omega))
  have L6 := Lib.hid own6
  have HL6 := Lib.hid hl6
  have F6 := Lib.hid (F2.out.trans (hf7.mono2 (q := fun k => w.heap.size ≤ k) (fun k _ hk => by omega)))
  clear own6 hl6 hc6 hf6 hf7
  refine wpAnyH_ready (rs := [7]) (by kernel_rfl) (by simp) ?_
  refine AllReadyH.cons (by simp only [List.getElem?_toArray, List.getElem?_cons_succ, List.getElem?_cons_zero]; rfl) (fun K hK => ?_) AllReadyH.nil
  obtain ⟨y0, y1, y2, y3, y4, y5⟩ := K2.out.all
  have FX := Lib.hid (hH.set3 (b := w.heap.size) (.inl (.inr (.inl rfl))) (.int .i64 r) (.int .i64 c) (.slice q xs.length qc))
  clear hH
  go_simp
  refine hK.out _ _ ?_ (fun hH2 => ?_)
  · exact FX.out
  clear hK K
  have hH := hH2
  clear hH2
  try simp only [Act.put, List.setIfInBounds_toArray, List.set_cons_zero, List.set_cons_succ]
  refine wpAnyH_take (i := 8) (v := ?_) (by simp only [List.getElem?_toArray, List.getElem?_cons_succ, List.getElem?_cons_zero]; rfl) (by kernel_rfl) (by kernel_rfl) (by kernel_rfl) (by exact fun _ _ _ h => h) (Or.inl ⟨by rfl, ?_⟩) hH ?_
  rotate_left
  · (intro wS hS; clear hS; go_simp; try rfl)
  try simp only [Act.put, List.setIfInBounds_toArray, List.set_cons_zero, List.set_cons_succ]
  refine wpAnyH_done (by kernel_rfl) ?_ _
  have FIN : Hid (MatOps w (.returned (.tuple #[.agg #[.int .i64 r, .int .i64 c, .slice q xs.length qc], .slice va vm vc])) (((v6.setCell ⟨w.heap.size, 0, none⟩ (.int .i64 r)).setCell ⟨w.heap.size, 1, none⟩ (.int .i64 c)).setCell ⟨w.heap.size, 2, none⟩ (.slice q xs.length qc))) := by
    have hw : w.heap.size < W.drew.heap.size := by show w.heap.size < W.heap.size; omega
    refine ⟨r, c, q, qc, xs, .slice va vm vc, l, rfl, ((O6.out.out3 K2.out (.int .i64 r) (.int .i64 c) (.slice q xs.length qc)).own (by omega)).le (by omega), by omega, ?_, HL6.out, ?_⟩
    · exact rows_le (rows_set (rows_set (rows_set L6.out (by exact hw) _) (by exact hw) _) (by exact hw) _) (Nat.le_of_lt hw)
    · exact (((F6.out.below (fun k hk => hk) (Nat.le_refl _)).setCell (Nat.le_refl _) _).setCell (Nat.le_refl _) _).setCell (Nat.le_refl _) _
  obtain ⟨E0, E1, E2, -, -, -⟩ := (K2.out.set3 (.int .i64 r) (.int .i64 c) (.slice q xs.length qc)).all
  go_wp2_with fail
  all_goals exact bodyPost_ret (v := .tuple #[.agg #[.int .i64 r, .int .i64 c, .slice q xs.length qc], .slice va vm vc]) (by simp [results, Try.results35, go_sem, E0, E1, E2]) rfl FIN.out
end Go.Proofs.Ytdnajkoeojlnbaa
end

section
/-
  Plain mathematics of chapter 5: lists of operations, what undoes them. Nothing of a program is used but its types.
-/
namespace Go.Proofs.Ytdnajkoeojlnbaa
open Go.RowKit

def unT (k t : Int) : Int := if k = 2 then wrap64 (-t) else t
theorem Blk4.set3 {w : World} {b : Nat} {t : TypeId} {p q r s : Value} (h : Blk4 w b t p q r s) (u : Value) : Blk4 (w.setCell ⟨b, 3, none⟩ u) b t p q r u := by
  unfold Blk4 at *
  obtain ⟨hlt, hget⟩ := Array.getElem?_eq_some_iff.mp h
  simp [World.setCell, hlt, Array.getElem_modify, hget]
/-! ### OpMatrix -/
def opMat (k i j t n : Int) : MR := if isOp k i j t n = true then opM k i j t n n (idL n.toNat n.toNat) else MR.no
def opsM (r c : Int) : List Int → List Ro → MR
  | xs, [] => ⟨true, r, c, xs⟩
  | xs, x :: l => if (opM x.k x.i x.j x.t r c xs).ok = true then opsM r c (opM x.k x.i x.j x.t r c xs).zs l else MR.no
theorem opsM_t {r c : Int} {x : Ro} {l : List Ro} {xs : List Int} (h : (opM x.k x.i x.j x.t r c xs).ok = true) : opsM r c xs (x :: l) = opsM r c (opM x.k x.i x.j x.t r c xs).zs l := by
  show (if _ then _ else _) = _
  rw [if_pos h]
theorem opsM_f {r c : Int} {x : Ro} {l : List Ro} {xs : List Int} (h : (opM x.k x.i x.j x.t r c xs).ok = false) : opsM r c xs (x :: l) = MR.no := by
  show (if _ then _ else _) = _
  rw [if_neg (by rw [h]; decide)]
theorem opsM_app {r c : Int} (l' : List Ro) {ys : List Int} (l : List Ro) : ∀ (xs : List Int), opsM r c xs l = ⟨true, r, c, ys⟩ → opsM r c xs (l ++ l') = opsM r c ys l' := by
  induction l with
  | nil =>
    intro xs h
    have h2 := congrArg MR.zs h
    have h2 : xs = ys := h2
    rw [h2]; rfl
  | cons y l ih =>
    intro xs h
    rw [List.cons_append]
    rcases Bool.eq_false_or_eq_true (opM y.k y.i y.j y.t r c xs).ok with h2 | h2
    · rw [opsM_t h2] at h ⊢
      exact ih _ h
    · rw [opsM_f h2] at h
      exact absurd (congrArg MR.ok h) (by simp [MR.no])
theorem opM_dims {k i j t r c : Int} {xs : List Int} (h : (opM k i j t r c xs).ok = true) : (opM k i j t r c xs).r = r ∧ (opM k i j t r c xs).c = c := by
  unfold opM at h ⊢
  by_cases h1 : (isMat r c xs && isOp k i j t r) = true
  · rw [if_pos h1] at h ⊢
    unfold MR.done at h ⊢
    by_cases h2 : isMat r c (opL k i.toNat j.toNat t c.toNat xs) = true
    · rw [if_pos h2]; exact ⟨rfl, rfl⟩
    · rw [if_neg h2] at h; exact absurd h (by simp [MR.no])
  · rw [if_neg h1] at h; exact absurd h (by simp [MR.no])
theorem opM_no {k i j t r c : Int} {xs : List Int} (h : (opM k i j t r c xs).ok = false) : opM k i j t r c xs = MR.no := by
  unfold opM at h ⊢
  by_cases h1 : (isMat r c xs && isOp k i j t r) = true
  · rw [if_pos h1] at h ⊢
    unfold MR.done at h ⊢
    by_cases h2 : isMat r c (opL k i.toNat j.toNat t c.toNat xs) = true
    · rw [if_pos h2] at h; exact absurd h (by simp)
    · rw [if_neg h2]
  · rw [if_neg h1]
theorem Own.old {B : Nat} {w : World} {v : Value} {zs : List Int} (h : Own B w v zs) (o : Obj) : Own B (w.alloc o) v zs := h.keep ((Below.refl _ _).alloc (Nat.le_refl _) o)
theorem Own.spot {B n c : Nat} {w : World} {a : Option Addr} {zs : List Int} (h : Own B w (.slice a n c) zs) : Rd w a zs ∧ Spot a ∧ n = zs.length ∧ zs.length ≤ 16777216 := by
  rcases h with ⟨hv, rfl⟩ | ⟨g, cap, hv, _, hi, hl, hc⟩
  · simp only [Value.slice.injEq] at hv
    obtain ⟨rfl, rfl, -⟩ := hv
    exact ⟨Rd.nil _ _, .inl rfl, rfl, by simp⟩
  · simp only [Value.slice.injEq] at hv
    obtain ⟨rfl, rfl, -⟩ := hv
    exact ⟨hi.rd, .inr ⟨_, _, rfl⟩, rfl, hc⟩
theorem opsF {w w' : World} {b b2 o q : Nat} {t : TypeId} {x y z : Value} {l : List Ro} {u : Ro} (h : Blk3 w b t x y z) (hl : RdO w (some ⟨b2, o, none⟩) l) (hq : q < l.length) (hu : l.getD q Ro.zero = u) (hb : Below w.heap.size w w') :
    w'.cell? ⟨b, 0, none⟩ = some x ∧ w'.cell? ⟨b, 1, none⟩ = some y ∧ w'.cell? ⟨b, 2, none⟩ = some z ∧ w'.cell? ⟨b2, o + q * 4, none⟩ = some (.int .i64 u.k) ∧ w'.cell? ⟨b2, o + q * 4 + 1, none⟩ = some (.int .i64 u.i) ∧ w'.cell? ⟨b2, o + q * 4 + 2, none⟩ = some (.int .i64 u.j) ∧ w'.cell? ⟨b2, o + q * 4 + 3, none⟩ = some (.int .i64 u.t) := by
  subst hu
  obtain ⟨b3, o3, e, hlt, h0, h1, h2, h3⟩ := (hl.below hb) q hq
  simp only [Option.some.injEq, Addr.mk.injEq] at e
  obtain ⟨rfl, rfl, -⟩ := e
  exact ⟨(h.keep hb h.lt).cell0, (h.keep hb h.lt).cell1, (h.keep hb h.lt).cell2, h0, h1, h2, h3⟩
def opsR (r c : Int) (xs : List Int) (l : List Ro) : MR := if isMat r c xs = true ∧ l.length ≤ 40 then opsM r c xs l else MR.no
def Ro.undo (u : Ro) : Ro := ⟨u.k, u.i, u.j, unT u.k u.t⟩
/-- What undoes the last n of l. -/
def undoL (l : List Ro) (n : Nat) : List Ro := (l.reverse.take n).map Ro.undo
theorem undoL_length (l : List Ro) (n : Nat) (h : n ≤ l.length) : (undoL l n).length = n := by unfold undoL; simp [h]
theorem undoL_succ (l : List Ro) (n q : Nat) (h : n + q + 1 = l.length) : undoL l (n + 1) = undoL l n ++ [(l.getD q Ro.zero).undo] := by
  unfold undoL
  have h1 : n < l.reverse.length := by rw [List.length_reverse]; omega
  rw [List.take_succ_eq_append_getElem h1, List.map_append, List.getElem_reverse]
  have h2 : l.length - 1 - n = q := by omega
  simp only [h2, List.map_cons, List.map_nil]
  simp [List.getD, show q < l.length by omega]
end Go.Proofs.Ytdnajkoeojlnbaa
end

section
/-
  Plain mathematics of chapters 5 and 6: operations on rows are undone, and are products. Nothing of a program is used.
-/
namespace Go.Proofs.Ytdnajkoeojlnbaa

theorem opM_says {k i j t r c : Int} {xs : List Int} (h : (opM k i j t r c xs).ok = true) : ∃ R C I J : Nat, r = R ∧ c = C ∧ i = I ∧ j = J ∧ isMat r c xs = true ∧ isOp k i j t r = true ∧ isMat r c (opL k I J t C xs) = true ∧ opM k i j t r c xs = ⟨true, r, c, opL k I J t C xs⟩ := by
  unfold opM at h ⊢
  by_cases h1 : (isMat r c xs && isOp k i j t r) = true
  · rw [if_pos h1] at h ⊢
    simp only [Bool.and_eq_true] at h1
    obtain ⟨hm, ho⟩ := h1
    obtain ⟨⟨r1, -⟩, ⟨c1, -⟩, -, -⟩ := isMat_says hm
    obtain ⟨-, -, ⟨i1, -⟩, ⟨j1, -⟩, -, -⟩ := isOp_says ho
    obtain ⟨R, rfl⟩ := Int.eq_ofNat_of_zero_le r1
    obtain ⟨C, rfl⟩ := Int.eq_ofNat_of_zero_le c1
    obtain ⟨I, rfl⟩ := Int.eq_ofNat_of_zero_le i1
    obtain ⟨J, rfl⟩ := Int.eq_ofNat_of_zero_le j1
    unfold MR.done at h ⊢
    by_cases h2 : isMat R C (opL k I J t C xs) = true
    · exact ⟨R, C, I, J, rfl, rfl, rfl, rfl, hm, ho, h2, if_pos h2⟩
    · rw [show (if isMat R C (opL k (I : Int).toNat (J : Int).toNat t (C : Int).toNat xs) = true then _ else MR.no) = MR.no from if_neg h2] at h
      exact absurd h (by simp [MR.no])
  · rw [if_neg h1] at h; exact absurd h (by simp [MR.no])
theorem isOp_dist {k i j t r : Int} (h : isOp k i j t r = true) : k ≠ 1 → i ≠ j := fun h1 => by
  obtain ⟨hk, -⟩ := isOp_says h
  rcases hk with rfl | rfl | rfl
  · exact isOp_rows0 h
  · exact absurd rfl h1
  · exact isOp_rows2 h
/-- The cells, without marks, of an operation that succeeds. -/
theorem opM_cell {k t : Int} {R C I J : Nat} {xs : List Int} (hm : isMat R C xs = true) (ho : isOp k I J t R = true) (h2 : isMat R C (opL k I J t C xs) = true) : (∀ p, p < R * C → (opL k I J t C xs).getD p 0 = rwAt k I J t C xs p) ∧ xs.length = R * C ∧ prodTo k J t C xs C := by
  obtain ⟨-, -, hl, hx⟩ := isMat_says hm
  obtain ⟨hk, -, ⟨i1, i2⟩, ⟨j1, j2⟩, ht, -⟩ := isOp_says ho
  rw [← Int.natCast_mul] at hl
  have hl : xs.length = R * C := by omega
  have hn := (isMat_says h2).2.2.2
  refine ⟨opL_raw hk hl hx (by omega) ht hn, hl, ?_⟩
  intro e q hq
  subst e
  by_cases hb : NumP (xs.getD (J * C + q) 0 * t)
  · exact hb
  · exfalso
    have hi : I * C + q < xs.length := by rw [hl]; exact idx_lt (by omega) hq
    have e : (opL 2 I J t C xs).getD (I * C + q) 0 = badN := by
      rw [opL_getD hi, opAt_two _ _ _ _ _ hq, mulB_num (nums_def hx _) ht, fitB_bad hb, addB_bad]
    have := nums_at hn (j := I * C + q) (by rw [opL_length]; exact hi)
    rw [e] at this
    exact bad_not this
/-- What an operation makes, from the cells without marks. -/
theorem opM_make {k t : Int} {R C I J : Nat} {ys zs : List Int} (hm : isMat R C ys = true) (ho : isOp k I J t R = true) (hp : prodTo k J t C ys C) (hz : isMat R C zs = true) (hc : ∀ p, p < R * C → rwAt k I J t C ys p = zs.getD p 0) : opM k I J t R C ys = ⟨true, R, C, zs⟩ := by
  obtain ⟨-, -, hl, hx⟩ := isMat_says hm
  obtain ⟨-, -, hlz, -⟩ := isMat_says hz
  obtain ⟨hk, -, ⟨i1, i2⟩, ⟨j1, j2⟩, ht, -⟩ := isOp_says ho
  rw [← Int.natCast_mul] at hl hlz
  have hl : ys.length = R * C := by omega
  have hlz : zs.length = R * C := by omega
  have hC : ys.length = 0 ∨ 0 < C := by
    rcases Nat.eq_zero_or_pos C with h | h
    · left; rw [hl, h, Nat.mul_zero]
    · exact .inr h
  unfold opM
  rw [if_pos (by rw [hm, ho]; rfl)]
  show MR.done R C (opL k I J t C ys) = _
  rw [rw_done k I J t R C ys hk hl hx ht hp, colTo_all _ _ _ hC]
  have e : (List.range ys.length).map (rwAt k I J t C ys) = zs := by
    refine list_getD (by simp; omega) fun p hp' => ?_
    simp only [List.length_map, List.length_range] at hp'
    simp only [List.getD, List.getElem?_map, List.getElem?_range hp', Option.map_some, Option.getD_some]
    have := hc p (by omega)
    simpa [List.getD] using this
  rw [e]
  unfold MR.done
  rw [if_pos hz]
theorem unT_num {k t : Int} (ht : NumP t) : unT k t = if k = 2 then -t else t := by
  unfold unT
  by_cases h : k = 2
  · rw [if_pos h, if_pos h, wrap_small (by unfold NumP at ht; omega)]
  · rw [if_neg h, if_neg h]
theorem isOp_undo {k i j t r : Int} (h : isOp k i j t r = true) : isOp k i j (unT k t) r = true := by
  obtain ⟨hk, -, -, -, ht, -⟩ := isOp_says h
  rw [unT_num ht]
  by_cases h2 : k = 2
  · rw [if_pos h2]
    subst h2
    unfold isOp rangeOp at h ⊢
    simp only [Bool.and_eq_true, decide_eq_true_eq] at h ⊢
    obtain ⟨⟨⟨⟨⟨a1, a2⟩, a3⟩, a4⟩, a5⟩, a6⟩ := h
    exact ⟨⟨⟨⟨⟨a1, a2⟩, a3⟩, a4⟩, NumP_neg a5⟩, by simpa using a6⟩
  · rw [if_neg h2]; exact h
/-- An operation is undone. -/
theorem op_undo {k i j t r c : Int} {xs ys : List Int} (h : opM k i j t r c xs = ⟨true, r, c, ys⟩) : opM k i j (unT k t) r c ys = ⟨true, r, c, xs⟩ := by
  obtain ⟨R, C, I, J, rfl, rfl, rfl, rfl, hm, ho, h2, e⟩ := opM_says (by rw [h])
  obtain rfl : ys = opL k I J t C xs := by rw [h] at e; exact congrArg MR.zs e
  obtain ⟨hcell, hl, hpr⟩ := opM_cell hm ho h2
  obtain ⟨hk, -, ⟨i1, i2⟩, ⟨j1, j2⟩, ht, -⟩ := isOp_says ho
  have hIJ := isOp_dist ho
  have hu := unT_num (k := k) ht
  have hCp : ∀ p, p < R * C → 0 < C := fun p hp => by
    rcases Nat.eq_zero_or_pos C with e | e
    · subst e; omega
    · exact e
  have lj : ∀ p, p < R * C → J * C + p % C < R * C := fun p hp => idx_lt (by omega) (Nat.mod_lt p (hCp p hp))
  have li : ∀ p, p < R * C → I * C + p % C < R * C := fun p hp => idx_lt (by omega) (Nat.mod_lt p (hCp p hp))
  have dj : ∀ p, p < R * C → (J * C + p % C) / C = J := fun p hp => idx_div (Nat.mod_lt p (hCp p hp))
  have di : ∀ p, p < R * C → (I * C + p % C) / C = I := fun p hp => idx_div (Nat.mod_lt p (hCp p hp))
  have mj : ∀ p, p < R * C → (J * C + p % C) % C = p % C := fun p hp => idx_mod (Nat.mod_lt p (hCp p hp))
  have mi : ∀ p, p < R * C → (I * C + p % C) % C = p % C := fun p hp => idx_mod (Nat.mod_lt p (hCp p hp))
  have sp : ∀ p, p / C * C + p % C = p := fun p => by rw [Nat.mul_comm]; exact Nat.div_add_mod p C
  refine opM_make h2 (isOp_undo ho) ?_ hm fun p hp => ?_
  · intro e2 q hq
    subst e2
    have hIJ' : I ≠ J := by have := hIJ (by decide); omega
    have hq' : J * C + q < R * C := idx_lt (by omega) hq
    rw [hu, if_pos rfl, hcell _ hq']
    unfold rwAt
    rw [if_neg (by decide), if_neg (by decide), idx_div hq, if_neg (fun h => hIJ' h.symm), Int.mul_neg]
    exact NumP_neg (hpr rfl q hq)
  · rcases hk with rfl | rfl | rfl
    · have hIJ' : I ≠ J := by have := hIJ (by decide); omega
      unfold rwAt
      rw [if_pos rfl]
      by_cases h1 : p / C = I
      · rw [if_pos h1, hcell _ (lj p hp)]
        unfold rwAt
        rw [if_pos rfl, dj p hp, if_neg (fun h => hIJ' h.symm), if_pos rfl, mj p hp, ← h1, sp]
      · rw [if_neg h1]
        by_cases h3 : p / C = J
        · rw [if_pos h3, hcell _ (li p hp)]
          unfold rwAt
          rw [if_pos rfl, di p hp, if_pos rfl, mi p hp, ← h3, sp]
        · rw [if_neg h3, hcell _ hp]
          unfold rwAt
          rw [if_pos rfl, if_neg h1, if_neg h3]
    · unfold rwAt
      rw [if_neg (by decide), if_pos rfl]
      by_cases h1 : p / C = I
      · rw [if_pos h1, hcell _ hp]
        unfold rwAt
        rw [if_neg (by decide), if_pos rfl, if_pos h1, Int.neg_neg]
      · rw [if_neg h1, hcell _ hp]
        unfold rwAt
        rw [if_neg (by decide), if_pos rfl, if_neg h1]
    · have hIJ' : I ≠ J := by have := hIJ (by decide); omega
      unfold rwAt
      rw [if_neg (by decide), if_neg (by decide), hu, if_pos rfl]
      by_cases h1 : p / C = I
      · rw [if_pos h1, hcell _ hp, hcell _ (lj p hp)]
        unfold rwAt
        rw [if_neg (by decide), if_neg (by decide), if_pos h1, if_neg (by decide), if_neg (by decide), dj p hp, if_neg (fun h => hIJ' h.symm), Int.mul_neg]
        omega
      · rw [if_neg h1, hcell _ hp]
        unfold rwAt
        rw [if_neg (by decide), if_neg (by decide), if_neg h1]
/-- A list of operations is undone. -/
theorem undo_cons (x : Ro) (l : List Ro) : undoL (x :: l) (l.length + 1) = undoL l l.length ++ [x.undo] := by
  unfold undoL
  rw [List.take_of_length_le (by simp), List.take_of_length_le (by simp), List.reverse_cons, List.map_append]
  rfl
theorem opM_ok3 {k i j t r c : Int} {xs : List Int} (h : (opM k i j t r c xs).ok = true) : opM k i j t r c xs = ⟨true, r, c, (opM k i j t r c xs).zs⟩ := by
  obtain ⟨_, _, _, _, -, -, -, -, -, -, -, e⟩ := opM_says h
  rw [e]
theorem ops_undo {r c : Int} (l : List Ro) : ∀ {xs ys : List Int}, opsM r c xs l = ⟨true, r, c, ys⟩ → opsM r c ys (undoL l l.length) = ⟨true, r, c, xs⟩ := by
  induction l with
  | nil =>
    intro xs ys h
    have h2 : xs = ys := congrArg MR.zs h
    rw [h2]; rfl
  | cons x l ih =>
    intro xs ys h
    rcases Bool.eq_false_or_eq_true (opM x.k x.i x.j x.t r c xs).ok with ho | ho
    · rw [opsM_t ho] at h
      have e := opM_ok3 ho
      show opsM r c ys (undoL (x :: l) (l.length + 1)) = _
      rw [undo_cons, opsM_app [x.undo] (undoL l l.length) ys (ih h)]
      have u := op_undo e
      rw [opsM_t (x := x.undo) (by show (opM x.k x.i x.j (unT x.k x.t) r c _).ok = true; rw [u])]
      show (⟨true, r, c, (opM x.k x.i x.j (unT x.k x.t) r c _).zs⟩ : MR) = _
      rw [u]
    · rw [opsM_f ho] at h
      exact absurd (congrArg MR.ok h) (by simp [MR.no])
end Go.Proofs.Ytdnajkoeojlnbaa
end

section
/-
  Plain mathematics of chapters 5 and 6: operations on rows are products with a matrix of determinant 1 or -1. Nothing of a program is used.
-/
namespace Go.Proofs.Ytdnajkoeojlnbaa

theorem opX_mul (n : Nat) (k : Int) (I J : Nat) (t : Int) (U M : Mx) (i c : Nat) : sumN n (fun q => opX k I J t U i q * M q c) = opX k I J t (fun i c => sumN n fun q => U i q * M q c) i c := by
  unfold opX
  by_cases h0 : k = 0
  · simp only [h0, if_true]
    by_cases h1 : i = I
    · simp only [h1, if_true]
    · simp only [h1, if_false]
      by_cases h2 : i = J
      · simp only [h2, if_true]
      · simp only [h2, if_false]
  · by_cases h1 : k = 1
    · subst h1
      simp only [show (1 : Int) ≠ 0 by decide, if_false, if_true]
      by_cases h2 : i = I
      · simp only [h2, if_true]
        rw [sumN_congr (g := fun q => (-1) * (U I q * M q c)) (fun q _ => by rw [Int.neg_mul]; omega), ← sumN_mul_left]; omega
      · simp only [h2, if_false]
    · simp only [h0, h1, if_false]
      by_cases h2 : i = I
      · simp only [h2, if_true]
        rw [sumN_congr (g := fun q => U I q * M q c + U J q * M q c * t) (fun q _ => by rw [Int.add_mul, Int.mul_assoc, Int.mul_comm t, ← Int.mul_assoc]), sumN_add, sumN_scale]
      · simp only [h2, if_false]
/-- x is the product of u and m. -/
def MulEq (R C : Nat) (u m x : List Int) : Prop := ∀ i c, i < R → c < C → sumN R (fun q => u.getD (i * R + q) 0 * m.getD (q * C + c) 0) = x.getD (i * C + c) 0
theorem mulEq_id (R C : Nat) (m : List Int) : MulEq R C (idL R R) m m := fun i c hi hc => by
  rw [sumN_congr (g := fun q => (if i = q then 1 else 0) * m.getD (q * C + c) 0) (fun q hq => by rw [idL_at2 hi hq])]
  rw [sumN_one hi (fun q _ hne => by rw [if_neg (fun h => hne h.symm), Int.zero_mul]), if_pos rfl, Int.one_mul]
theorem mulEq_op {R C : Nat} {k i j t : Int} {m u u' x x' : List Int} (h : MulEq R C u m x) (hu : opM k i j t R R u = ⟨true, R, R, u'⟩) (hx : opM k i j t R C x = ⟨true, R, C, x'⟩) : MulEq R C u' m x' := by
  obtain ⟨R1, R2, I, J, e1, e2, rfl, rfl, hm, ho, h2, e⟩ := opM_says (by rw [hu])
  obtain rfl : R = R1 := by omega
  obtain rfl : R = R2 := by omega
  obtain rfl : u' = opL k I J t R u := by rw [hu] at e; exact congrArg MR.zs e
  obtain ⟨R3, C3, I3, J3, e3, e4, e5, e6, hm', ho', h2', e'⟩ := opM_says (by rw [hx])
  obtain rfl : C = C3 := by omega
  obtain rfl : I = I3 := by omega
  obtain rfl : J = J3 := by omega
  obtain rfl : x' = opL k I J t C x := by rw [hx] at e'; exact congrArg MR.zs e'
  obtain ⟨cu, -, -⟩ := opM_cell hm ho h2
  obtain ⟨cx, -, -⟩ := opM_cell hm' ho' h2'
  obtain ⟨-, -, ⟨i1, i2⟩, ⟨j1, j2⟩, -, -⟩ := isOp_says ho
  intro a c ha hc
  rw [cx _ (idx_lt ha hc), rwAt_mx hc, sumN_congr (g := fun q => opX k I J t (fun r c => u.getD (r * R + c) 0) a q * (fun q c => m.getD (q * C + c) 0) q c) (fun q hq => by rw [cu _ (idx_lt ha hq), rwAt_mx hq])]
  rw [opX_mul R k I J t (fun r c => u.getD (r * R + c) 0) (fun q c => m.getD (q * C + c) 0) a c]
  unfold opX
  dsimp only
  rw [h a c ha hc, h I c (by omega) hc, h J c (by omega) hc]
theorem mulEq_ops {R C : Nat} {m : List Int} (l : List Ro) : ∀ {u u' x x' : List Int}, MulEq R C u m x → opsM R R u l = ⟨true, R, R, u'⟩ → opsM R C x l = ⟨true, R, C, x'⟩ → MulEq R C u' m x' := by
  induction l with
  | nil =>
    intro u u' x x' h hu hx
    have h1 : u = u' := congrArg MR.zs hu
    have h2 : x = x' := congrArg MR.zs hx
    rw [← h1, ← h2]; exact h
  | cons y l ih =>
    intro u u' x x' h hu hx
    rcases Bool.eq_false_or_eq_true (opM y.k y.i y.j y.t R R u).ok with ho | ho
    · rcases Bool.eq_false_or_eq_true (opM y.k y.i y.j y.t R C x).ok with ho' | ho'
      · rw [opsM_t ho] at hu
        rw [opsM_t ho'] at hx
        exact ih (mulEq_op h (opM_ok3 ho) (opM_ok3 ho')) hu hx
      · rw [opsM_f ho'] at hx; exact absurd (congrArg MR.ok hx) (by simp [MR.no])
    · rw [opsM_f ho] at hu; exact absurd (congrArg MR.ok hu) (by simp [MR.no])
theorem mulEq_mulL {R C : Nat} {u m x : List Int} (h : MulEq R C u m x) (hx : x.length = R * C) : mulL R R C u m = x := by
  have : x = tab R C fun i j => dot R C u m i j R := tab_ext hx fun i j hi hj => by
    rw [← h i j hi hj, dot_sum]
  rw [this]; rfl
theorem opsM_mat {r c : Int} (l : List Ro) : ∀ {xs ys : List Int}, isMat r c xs = true → opsM r c xs l = ⟨true, r, c, ys⟩ → isMat r c ys = true := by
  induction l with
  | nil =>
    intro xs ys hm h
    have h1 : xs = ys := congrArg MR.zs h
    rw [← h1]; exact hm
  | cons y l ih =>
    intro xs ys _ h
    rcases Bool.eq_false_or_eq_true (opM y.k y.i y.j y.t r c xs).ok with ho | ho
    · rw [opsM_t ho] at h
      obtain ⟨R, C, I, J, rfl, rfl, _, _, hm, _, h2, e⟩ := opM_says ho
      refine ih ?_ h
      rw [e]; exact h2
    · rw [opsM_f ho] at h; exact absurd (congrArg MR.ok h) (by simp [MR.no])
/-- An operation on the identity succeeds. -/
theorem op_id_ok {k i j t : Int} {R : Nat} (hR : R ≤ 24) (ho : isOp k i j t R = true) : ∃ o, opM k i j t R R (idL R R) = ⟨true, R, R, o⟩ := by
  obtain ⟨hk, -, ⟨i1, i2⟩, ⟨j1, j2⟩, ht, -⟩ := isOp_says ho
  obtain ⟨I, rfl⟩ := Int.eq_ofNat_of_zero_le i1
  obtain ⟨J, rfl⟩ := Int.eq_ofNat_of_zero_le j1
  have hIJ := isOp_dist ho
  have hmi := idL_mat hR
  have z1 : NumP 1 := by decide
  have z0 : NumP 0 := by decide
  have d01 : ∀ r c, r < R → c < R → (idL R R).getD (r * R + c) 0 = 0 ∨ (idL R R).getD (r * R + c) 0 = 1 := fun r c hr hc => by
    rw [idL_at2 hr hc]; split; exact .inr rfl; exact .inl rfl
  refine ⟨tab R R fun r c => opX k I J t (fun r c => (idL R R).getD (r * R + c) 0) r c, opM_make hmi ho ?_ ?_ fun p hp => ?_⟩
  · intro _ q hq
    rcases d01 J q (by omega) hq with h | h <;> rw [h]
    · rw [Int.zero_mul]; exact z0
    · rw [Int.one_mul]; exact ht
  · unfold isMat
    rw [decide_eq_true (show SizeP R from ⟨by omega, by omega⟩), decide_eq_true (by rw [tab_length, Int.natCast_mul])]
    refine (Bool.true_and _).trans ?_
    refine nums_true fun p hp => ?_
    rw [tab_length] at hp
    have hC : 0 < R := by
      rcases Nat.eq_zero_or_pos R with e | e
      · subst e; omega
      · exact e
    have e : p = p / R * R + p % R := by rw [Nat.mul_comm]; exact (Nat.div_add_mod p R).symm
    have h1 : p / R < R := Nat.div_lt_of_lt_mul hp
    have h2 : p % R < R := Nat.mod_lt p hC
    rw [e, tab_at R R _ h1 h2]
    show NumP (opX k I J t (fun r c => (idL R R).getD (r * R + c) 0) (p / R) (p % R))
    generalize p / R = a at h1
    generalize p % R = b at h2
    have ha := d01 a b h1 h2
    have hi := d01 I b (by omega) h2
    have hj := d01 J b (by omega) h2
    unfold opX
    dsimp only
    rcases hk with rfl | rfl | rfl
    · rw [if_pos rfl]
      split
      · rcases hj with h | h <;> rw [h] <;> assumption
      · split
        · rcases hi with h | h <;> rw [h] <;> assumption
        · rcases ha with h | h <;> rw [h] <;> assumption
    · rw [if_neg (by decide), if_pos rfl]
      split
      · rcases ha with h | h <;> rw [h] <;> decide
      · rcases ha with h | h <;> rw [h] <;> assumption
    · rw [if_neg (by decide), if_neg (by decide)]
      have hIJ' : I ≠ J := by have := hIJ (by decide); omega
      split
      · rename_i e2
        subst e2
        by_cases hb : a = b
        · rw [idL_at2 (r := J) (by omega) h2, if_neg (fun e => hIJ' (by omega)), Int.zero_mul, Int.add_zero]
          rcases ha with h | h <;> rw [h] <;> assumption
        · rw [idL_at2 (r := a) h1 h2, if_neg hb, Int.zero_add]
          rcases hj with h | h <;> rw [h]
          · rw [Int.zero_mul]; exact z0
          · rw [Int.one_mul]; exact ht
      · rcases ha with h | h <;> rw [h] <;> assumption
  · have hC : 0 < R := by
      rcases Nat.eq_zero_or_pos R with e | e
      · subst e; omega
      · exact e
    have e : p = p / R * R + p % R := by rw [Nat.mul_comm]; exact (Nat.div_add_mod p R).symm
    have h1 : p / R < R := Nat.div_lt_of_lt_mul hp
    have h2 : p % R < R := Nat.mod_lt p hC
    rw [e, rwAt_mx h2, tab_at R R _ h1 h2]
/-- One step: the operation's matrix times e is the operation done to e. -/
theorem step_mul {k i j t : Int} {R : Nat} {e e' : List Int} (hR : R ≤ 24) (he : opM k i j t R R e = ⟨true, R, R, e'⟩) : ∃ o, opMat k i j t R = ⟨true, R, R, o⟩ ∧ mulM R R o R R e = ⟨true, R, R, e'⟩ := by
  obtain ⟨R1, R2, I, J, e1, e2, e3, e4, hm, ho, h2, eq⟩ := opM_says (by rw [he])
  obtain ⟨o, h1⟩ := op_id_ok hR ho
  obtain rfl : R = R2 := by omega
  have hz : e' = opL k I J t R e := by rw [he] at eq; exact congrArg MR.zs eq
  have hm' : isMat R R e' = true := by rw [hz]; exact h2
  refine ⟨o, ?_, ?_⟩
  · unfold opMat
    rw [if_pos ho]
    exact h1
  · obtain ⟨_, R4, I4, J4, f1, f2, f3, f4, _, _, h4, eo⟩ := opM_says (by rw [h1])
    have hmo : isMat R R o = true := by
      have : o = opL k I4 J4 t R4 (idL R R) := by rw [h1] at eo; exact congrArg MR.zs eo
      rw [this]; exact h4
    obtain ⟨-, -, hl, -⟩ := isMat_says hm'
    rw [← Int.natCast_mul] at hl
    exact mulM_of hmo hm (mulEq_mulL (mulEq_op (mulEq_id R R e) h1 he) (by omega)) hm'
theorem ops_det {R : Nat} (l : List Ro) : ∀ {u u' : List Int}, opsM R R u l = ⟨true, R, R, u'⟩ → det R (mxL R u') = det R (mxL R u) ∨ det R (mxL R u') = - det R (mxL R u) := by
  induction l with
  | nil =>
    intro u u' h
    have h1 : u = u' := congrArg MR.zs h
    rw [h1]; exact .inl rfl
  | cons y l ih =>
    intro u u' h
    rcases Bool.eq_false_or_eq_true (opM y.k y.i y.j y.t R R u).ok with ho | ho
    · rw [opsM_t ho] at h
      obtain ⟨ys, e, -, -, -, -, hd⟩ := opM_det ho
      rw [e] at h
      have := ih h
      rw [hd] at this
      unfold opSg at this
      split at this
      · rw [Int.one_mul] at this; exact this
      · rw [Int.neg_mul, Int.one_mul] at this; omega
    · rw [opsM_f ho] at h; exact absurd (congrArg MR.ok h) (by simp [MR.no])
end Go.Proofs.Ytdnajkoeojlnbaa
end

section
/-
  Chapter 5 and 6: what FnRowOps asks, and its helper unimodular.
-/
namespace Go.Proofs.Ytdnajkoeojlnbaa
set_option maxRecDepth 100000
open Go.RowKit

theorem RdO.keep {w w' : World} {a : Option Addr} {l : List Ro} (h : RdO w a l) (hb : Below w.heap.size w w') : RdO w' a l := h.below hb
theorem RdO.old {w : World} {a : Option Addr} {l : List Ro} (h : RdO w a l) (o : Obj) : RdO (w.alloc o) a l := h.below ((Below.refl _ _).alloc (Nat.le_refl _) o)
/-- Operations in memory of the call's own are shown by their slice. -/
theorem rows_rdo {w : World} {B : Nat} {v : Value} {l : List Ro} (h : w.ownsRow B 49 4 v l.length (Ro.flat l)) : ∃ (a : Option Addr) (c : Nat), v = .slice a l.length c ∧ RdO w a l := by
  obtain ⟨h1, ⟨h2, h3⟩ | ⟨g, cap, cur, e, hB, hg, h4, h5, h6, h7⟩⟩ := h
  · have hl : l = [] := List.eq_nil_of_length_eq_zero h3
    subst hl
    exact ⟨none, 0, h2, fun q hq => absurd hq (by simp)⟩
  · refine ⟨some ⟨g, 0, none⟩, cap, e, ?_⟩
    have hx : OpsB w g l := by
      refine ⟨cur.toList.drop (l.length * 4), ?_⟩
      rw [hg, ← h7, List.take_append_drop]
    exact hx.rd
theorem opsR_no {r c : Int} {xs : List Int} {l : List Ro} {m : MR} (h : opsR r c xs l = m) (ho : m.ok = false) : m = ⟨false, 0, 0, []⟩ := by
  have key : ∀ (l : List Ro) (xs : List Int), (opsM r c xs l).ok = false → opsM r c xs l = MR.no := by
    intro l
    induction l with
    | nil => intro xs h; exact absurd h (by simp [opsM])
    | cons y l ih =>
      intro xs h
      rcases Bool.eq_false_or_eq_true (opM y.k y.i y.j y.t r c xs).ok with h2 | h2
      · rw [opsM_t h2] at h ⊢; exact ih _ h
      · exact opsM_f h2
  rw [← h] at ho ⊢
  unfold opsR at ho ⊢
  split
  · rename_i h1
    rw [if_pos h1] at ho
    exact key l xs ho
  · rfl
theorem opsR_says {r c : Int} {xs : List Int} {l : List Ro} {m : MR} (h : opsR r c xs l = m) (ho : m.ok = true) (hl : l.length ≤ 40) : ∃ (R C : Nat) (X : List Int), r = R ∧ c = C ∧ R ≤ 24 ∧ C ≤ 24 ∧ isMat r c xs = true ∧ isMat r c X = true ∧ m = ⟨true, r, c, X⟩ ∧ opsM r c xs l = ⟨true, r, c, X⟩ ∧ opsR r c X (undoL l l.length) = ⟨true, r, c, xs⟩ := by
  have key : ∀ (l : List Ro) (xs : List Int), (opsM r c xs l).ok = true → ∃ X, opsM r c xs l = ⟨true, r, c, X⟩ := by
    intro l
    induction l with
    | nil => intro xs _; exact ⟨xs, rfl⟩
    | cons y l ih =>
      intro xs h
      rcases Bool.eq_false_or_eq_true (opM y.k y.i y.j y.t r c xs).ok with h2 | h2
      · rw [opsM_t h2] at h ⊢; exact ih _ h
      · rw [opsM_f h2] at h; exact absurd h (by simp [MR.no])
  by_cases h1 : isMat r c xs = true ∧ l.length ≤ 40
  · have e : opsR r c xs l = opsM r c xs l := by unfold opsR; rw [if_pos h1]
    rw [e] at h
    obtain ⟨X, hX⟩ := key l xs (by rw [h]; exact ho)
    obtain ⟨⟨r0, r1⟩, ⟨c0, c1⟩, -, -⟩ := isMat_says h1.1
    obtain ⟨R, rfl⟩ := Int.eq_ofNat_of_zero_le r0
    obtain ⟨C, rfl⟩ := Int.eq_ofNat_of_zero_le c0
    have hm := opsM_mat l h1.1 hX
    refine ⟨R, C, X, rfl, rfl, by omega, by omega, h1.1, hm, by rw [← h, hX], hX, ?_⟩
    unfold opsR
    rw [if_pos ⟨hm, by rw [undoL_length _ _ (Nat.le_refl _)]; exact hl⟩]
    exact ops_undo l hX
  · unfold opsR at h
    rw [if_neg h1] at h
    rw [← h] at ho
    exact absurd ho (by simp [MR.no])
/-- The determinant of what operations make of the identity is 1 or -1. -/
theorem unim_law {R : Nat} {l : List Ro} {U : List Int} (h : opsM R R (idL R R) l = ⟨true, R, R, U⟩) (hk : (detOf R R U).2 = true) : (detOf R R U).1 = 1 ∨ (detOf R R U).1 = -1 := by
  obtain ⟨n, e1, -, -, -, -, -, -, ed⟩ := detOf_says rfl hk
  obtain rfl : R = n := by omega
  rw [ed]
  have := ops_det l h
  rw [idL_det] at this
  exact this
/-- The product of what operations make of the identity with a matrix. -/
theorem prod_law {R C : Nat} {l : List Ro} {xs U X : List Int} {m : MR} (hu : opsM R R (idL R R) l = ⟨true, R, R, U⟩) (hx : opsM R C xs l = ⟨true, R, C, X⟩) (hX : isMat R C X = true) (hm : mulM R R U R C xs = m) (ho : m.ok = true) : m = ⟨true, R, C, X⟩ := by
  obtain ⟨R1, K, C1, e1, e2, e3, e4, -, -, e⟩ := mulM_says (by rw [hm]; exact ho)
  obtain rfl : R = R1 := by omega
  obtain rfl : R = K := by omega
  obtain rfl : C = C1 := by omega
  obtain ⟨-, -, hl, -⟩ := isMat_says hX
  rw [← Int.natCast_mul] at hl
  rw [← hm, e, mulEq_mulL (mulEq_ops l (mulEq_id R C xs) hu hx) (by omega)]
/-- One round of the law's loop. -/
theorem loop_law {R q : Nat} {l : List Ro} {U E : List Int} {u : Ro} (hR : R ≤ 24) (hu : opsM R R (idL R R) l = ⟨true, R, R, U⟩) (hq : q < l.length) (hg : l.getD q Ro.zero = u) (hE : opsM R R (idL R R) (l.take q) = ⟨true, R, R, E⟩) :
    ∃ o E', opMat u.k u.i u.j u.t R = ⟨true, R, R, o⟩ ∧ mulM R R o R R E = ⟨true, R, R, E'⟩ ∧ opsM R R (idL R R) (l.take (q + 1)) = ⟨true, R, R, E'⟩ := by
  have eg : l[q]'hq = u := by rw [← hg]; simp [List.getD, hq]
  have e1 : l.take (q + 1) = l.take q ++ [u] := by rw [List.take_succ_eq_append_getElem hq, eg]
  have e2 : l = l.take q ++ (u :: l.drop (q + 1)) := by rw [← eg, ← List.drop_eq_getElem_cons hq, List.take_append_drop]
  have n1 := opsM_app [u] (l.take q) (idL R R) hE
  have n2 := opsM_app (u :: l.drop (q + 1)) (l.take q) (idL R R) hE
  rw [← e2, hu] at n2
  rcases Bool.eq_false_or_eq_true (opM u.k u.i u.j u.t R R E).ok with ho | ho
  · have eo := opM_ok3 ho
    obtain ⟨o, h1, h2⟩ := step_mul hR eo
    refine ⟨o, _, h1, h2, ?_⟩
    rw [e1, n1, opsM_t ho]
    rfl
  · rw [opsM_f ho] at n2
    exact absurd (congrArg MR.ok n2) (by simp [MR.no])
end Go.Proofs.Ytdnajkoeojlnbaa
end

section
/-
  Chapter 5, in the program: the kinds of operations.
-/
namespace Go.Proofs.Ytdnajkoeojlnbaa
open Go.RowKit

abbrev aggO (k i j t : Int) : Value := .agg #[.int .i64 k, .int .i64 i, .int .i64 j, .int .i64 t]
theorem below1 (w : World) (o : Obj) : Below w.heap.size w (w.alloc o) := (Below.refl _ _).alloc (Nat.le_refl _) o
theorem iOpOf0 (i j t : Int) (w : World) : Calls Try.prog 114 #[aggO 0 i j t] w (Gives (.iface 108 (aggO 0 i j t)) w) := by
  go_enter Try.func114, Try.ntmps114
  go_wp2_with fail
  go_ret
  exact ⟨rfl, below1 _ _⟩
theorem iOpOf1 (i j t : Int) (w : World) : Calls Try.prog 114 #[aggO 1 i j t] w (Gives (.iface 109 (aggO 1 i j t)) w) := by
  go_enter Try.func114, Try.ntmps114
  go_wp2_with fail
  go_ret
  exact ⟨rfl, below1 _ _⟩
theorem iOpOf2 (i j t : Int) (w : World) : Calls Try.prog 114 #[aggO 2 i j t] w (Gives (.iface 110 (aggO 2 i j t)) w) := by
  go_enter Try.func114, Try.ntmps114
  go_wp2_with fail
  go_ret
  exact ⟨rfl, below1 _ _⟩
theorem iOpOfN (k i j t : Int) (w : World) (h : k < 0 ∨ 2 < k) : Calls Try.prog 114 #[aggO k i j t] w (Gives .nilIface w) := by
  have f0 : (k == 0) = false := by simp; omega
  have f1 : (k == 1) = false := by simp; omega
  have f2 : (k == 2) = false := by simp; omega
  clear h
  go_enter Try.func114, Try.ntmps114
  go_wp2_with fail
  go_ret
  exact ⟨rfl, below1 _ _⟩
theorem iFit0 (i j t : Int) (w : World) : Calls Try.prog 141 #[aggO 0 i j t] w (Gives (.bool (decide (j ≠ i ∧ t = 0))) w) := by
  by_cases e1 : j = i
  · subst e1
    rw [show decide (j ≠ j ∧ t = 0) = false by simp]
    go_enter Try.func141, Try.ntmps141
    go_wp2_with fail
    go_ret
    exact ⟨rfl, below1 _ _⟩
  · have g1 : (i != j) = true := by simp; omega
    have g2 : (i == j) = false := by simp; omega
    by_cases e2 : t = 0
    · subst e2
      rw [show decide (j ≠ i ∧ (0 : Int) = 0) = true by simp [e1]]
      clear e1
      go_enter Try.func141, Try.ntmps141
      go_wp2_with fail
      go_ret
      exact ⟨rfl, below1 _ _⟩
    · have g3 : (t == 0) = false := by simp; omega
      rw [show decide (j ≠ i ∧ t = 0) = false by simp [e2]]
      clear e1 e2
      go_enter Try.func141, Try.ntmps141
      go_wp2_with fail
      go_ret
      exact ⟨rfl, below1 _ _⟩
theorem iFit1 (i j t : Int) (w : World) : Calls Try.prog 143 #[aggO 1 i j t] w (Gives (.bool (decide (j = i ∧ t = 0))) w) := by
  by_cases e1 : j = i
  · subst e1
    by_cases e2 : t = 0
    · subst e2
      rw [show decide (j = j ∧ (0 : Int) = 0) = true by simp]
      go_enter Try.func143, Try.ntmps143
      go_wp2_with fail
      go_ret
      exact ⟨rfl, below1 _ _⟩
    · have g3 : (t == 0) = false := by simp; omega
      rw [show decide (j = j ∧ t = 0) = false by simp [e2]]
      clear e2
      go_enter Try.func143, Try.ntmps143
      go_wp2_with fail
      go_ret
      exact ⟨rfl, below1 _ _⟩
  · have g1 : (i != j) = true := by simp; omega
    have g2 : (i == j) = false := by simp; omega
    rw [show decide (j = i ∧ t = 0) = false by simp [e1]]
    clear e1
    go_enter Try.func143, Try.ntmps143
    go_wp2_with fail
    go_ret
    exact ⟨rfl, below1 _ _⟩
theorem iFit2 (i j t : Int) (w : World) : Calls Try.prog 145 #[aggO 2 i j t] w (Gives (.bool (decide (j ≠ i))) w) := by
  by_cases e1 : j = i
  · subst e1
    rw [show decide (j ≠ j) = false by simp]
    go_enter Try.func145, Try.ntmps145
    go_wp2_with fail
    go_ret
    exact ⟨rfl, below1 _ _⟩
  · have g1 : (i != j) = true := by simp; omega
    have g2 : (i == j) = false := by simp; omega
    rw [show decide (j ≠ i) = true by simp [e1]]
    clear e1
    go_enter Try.func145, Try.ntmps145
    go_wp2_with fail
    go_ret
    exact ⟨rfl, below1 _ _⟩
theorem iDo0 (x y i j t : Int) (w : World) : Calls Try.prog 140 #[aggO 0 i j t, .int .i64 x, .int .i64 y] w (Gives (.tuple #[.int .i64 y, .int .i64 x, .bool true]) w) := by
  go_enter Try.func140, Try.ntmps140
  go_wp2_with fail
  exact bodyPost_ret (v := .tuple #[.int .i64 y, .int .i64 x, .bool true]) (by simp [results, Try.results140, go_sem]) rfl ⟨rfl, below1 _ _⟩
theorem iDo1 (x y i j t : Int) (w : World) (hx : NumP x) : Calls Try.prog 142 #[aggO 1 i j t, .int .i64 x, .int .i64 y] w (Gives (.tuple #[.int .i64 (-x), .int .i64 (-x), .bool true]) w) := by
  obtain ⟨x1, x2⟩ := hx
  have v : IntKind.i64.wrap (-x) = -x := IntWalk.i64_in _ (by omega)
  clear x1 x2
  go_enter Try.func142, Try.ntmps142
  go_wp2_with fail
  exact bodyPost_ret (v := .tuple #[.int .i64 (-x), .int .i64 (-x), .bool true]) (by simp [results, Try.results142, go_sem]) rfl ⟨rfl, below1 _ _⟩
theorem iDo2 (x y i j t : Int) (w : World) (hx : NumP x) (hy : NumP y) (ht : NumP t) : Calls Try.prog 144 #[aggO 2 i j t, .int .i64 x, .int .i64 y] w (Gives (.tuple #[.int .i64 (x + y * t), .int .i64 y, .bool (decide (NumP (y * t)))]) w) := by
  obtain ⟨m1, m2⟩ := mul_num y t hy ht
  obtain ⟨x1, x2⟩ := hx
  have v1 : IntKind.i64.wrap (y * t) = y * t := IntWalk.i64_in _ (by omega)
  have v2 : IntKind.i64.wrap (x + y * t) = x + y * t := IntWalk.i64_in _ (by omega)
  clear m1 m2 x1 x2 hy ht
  go_enter Try.func144, Try.ntmps144
  go_wp2_with fail
  go_quiet ((refine (iIsNum _ _).mono ?_; rintro e w' ⟨rfl, rfl⟩; exact ⟨rfl, _, rfl⟩))
  go_wp2_with fail
  exact bodyPost_ret (v := .tuple #[.int .i64 (x + y * t), .int .i64 y, .bool (decide (NumP (y * t)))]) (by simp [results, Try.results144, go_sem]) rfl ⟨rfl, below_drewN (below1 _ _) nq⟩
theorem iRow (n rows : Int) (pb : Nat) (w : World) (hc : w.cell? ⟨pb, 0, none⟩ = some (.int .i64 rows)) : Calls Try.prog 122 #[.int .i64 n, .pointer (some ⟨pb, 0, none⟩)] w fun e w' => e = .returned (.bool (decide (0 ≤ n ∧ n < rows))) ∧ w = w' := by
  by_cases h0 : 0 ≤ n
  · by_cases h1 : n < rows
    · rw [show decide (0 ≤ n ∧ n < rows) = true by simp [h0, h1]]
      go_enter Try.func122, Try.ntmps122
      go_wp2_with fail
      go_ret
      exact ⟨rfl, rfl⟩
    · rw [show decide (0 ≤ n ∧ n < rows) = false by simp [h1]]
      have h2 : decide (n < rows) = false := by simpa using h1
      go_enter Try.func122, Try.ntmps122
      go_wp2_with fail
      go_ret
      exact ⟨rfl, rfl⟩
  · rw [show decide (0 ≤ n ∧ n < rows) = false by simp [h0]]
    have h2 : decide (0 ≤ n) = false := by simpa using h0
    go_enter Try.func122, Try.ntmps122
    go_wp2_with fail
    go_ret
    exact ⟨rfl, rfl⟩
end Go.Proofs.Ytdnajkoeojlnbaa
end

section
/-
  Chapter 5, in the program: IsRowOp.
-/
namespace Go.Proofs.Ytdnajkoeojlnbaa
open Go.RowKit

theorem cell_new (w : World) (v : Value) (t : TypeId) (pb : Nat) (h : pb = w.heap.size) : (w.alloc (.cells #[v] t)).cell? ⟨pb, 0, none⟩ = some v := by
  subst h
  have e : (w.alloc (.cells #[v] t)).heap[w.heap.size]? = some (.cells #[v] t (0, 0)) := by show (w.heap.push _)[w.heap.size]? = _; rw [Array.getElem?_push, if_pos rfl]
  generalize w.alloc (.cells #[v] t) = w' at e
  simp [World.cell?, e]
theorem iRow_t (n rows : Int) (pb : Nat) (w : World) (hc : w.cell? ⟨pb, 0, none⟩ = some (.int .i64 rows)) (h : 0 ≤ n ∧ n < rows) : Calls Try.prog 122 #[.int .i64 n, .pointer (some ⟨pb, 0, none⟩)] w fun e w' => e = .returned (.bool true) ∧ w = w' := by
  have := iRow n rows pb w hc; rwa [decide_eq_true h] at this
theorem iRow_f (n rows : Int) (pb : Nat) (w : World) (hc : w.cell? ⟨pb, 0, none⟩ = some (.int .i64 rows)) (h : n < 0 ∨ rows ≤ n) : Calls Try.prog 122 #[.int .i64 n, .pointer (some ⟨pb, 0, none⟩)] w fun e w' => e = .returned (.bool false) ∧ w = w' := by
  have := iRow n rows pb w hc; rwa [decide_eq_false (by omega)] at this
theorem step2 {w a c : World} (h : Below w.heap.size w a) (hb : Below a.heap.size a c) : Below w.heap.size w c := h.trans (hb.mono h.size)
set_option maxHeartbeats 1000000 in
theorem iIsOp (k i j t rows : Int) (w : World) : Calls Try.prog 113 #[.agg #[.int .i64 k, .int .i64 i, .int .i64 j, .int .i64 t], .int .i64 rows] w (Gives (.bool (isOp k i j t rows)) w) := by
  have BH : Hid (∀ o o2, Below w.heap.size w ((w.alloc o).alloc o2)) := fun o o2 => ((Below.refl _ _).alloc (Nat.le_refl _) o).alloc (by simp) o2
  have CN : Hid (∀ o, ((w.alloc o).alloc (.cells #[.int .i64 rows] 3)).cell? ⟨w.heap.size + 1, 0, none⟩ = some (.int .i64 rows)) := fun o => cell_new _ _ _ _ (by simp)
  by_cases h2 : 0 ≤ rows ∧ rows ≤ 24
  · by_cases h3 : 0 ≤ i ∧ i < rows
    · by_cases h4 : 0 ≤ j ∧ j < rows
      · by_cases h5 : NumP t
        · have RG : Hid (rangeOp k i j t rows = (decide (0 ≤ k ∧ k ≤ 2))) := by show rangeOp k i j t rows = _; unfold rangeOp; rw [decide_eq_true h2, decide_eq_true (show 0 ≤ i ∧ i ≤ rows - 1 by omega), decide_eq_true (show 0 ≤ j ∧ j ≤ rows - 1 by omega), decide_eq_true h5]; simp only [Bool.and_true]
          by_cases k0 : k = 0
          · subst k0
            have V : Hid (isOp 0 i j t rows = decide (j ≠ i ∧ t = 0)) := by show isOp 0 i j t rows = _; unfold isOp; rw [RG.out]; rfl
            obtain ⟨b, hbb⟩ : ∃ b, decide (j ≠ i ∧ t = 0) = b := ⟨_, rfl⟩
            have FT := Lib.hid (iFit0 i j t)
            rw [hbb] at V
            have FT : Hid (∀ w, Calls Try.prog 141 #[aggO 0 i j t] w (Gives (.bool b) w)) := fun w => by rw [← hbb]; exact FT.out w
            clear hbb
            go_enter Try.func113, Try.ntmps113
            go_wp2_with fail
            refine (iSize_t rows _ h2.1 h2.2).mono ?_
            rintro e w' ⟨rfl, rfl⟩
            go_wp2_with fail
            refine (iRow_t i rows _ _ (CN.out _) h3).mono ?_
            rintro e w' ⟨rfl, rfl⟩
            go_wp2_with fail
            refine (iRow_t j rows _ _ (CN.out _) h4).mono ?_
            rintro e w' ⟨rfl, rfl⟩
            go_wp2_with fail
            refine (iIsNum_t t _ h5.1 h5.2).mono ?_
            rintro e w' ⟨rfl, rfl⟩
            go_wp2_with fail
            refine (iOpOf0 i j t _).mono ?_
            rintro e w1 ⟨rfl, hb⟩
            have B : Hid (Below w.heap.size w w1) := step2 (BH.out _ _) hb
            clear hb
            go_wp2_with fail
            refine (FT.out _).mono ?_
            rintro e w2 ⟨rfl, hb⟩
            have B2 : Hid (Below w.heap.size w w2) := step2 B.out hb
            clear hb
            go_wp2_with fail
            go_ret
            exact ⟨by rw [V.out]; rfl, B2.out⟩
          by_cases k1 : k = 1
          · subst k1
            have V : Hid (isOp 1 i j t rows = decide (j = i ∧ t = 0)) := by show isOp 1 i j t rows = _; unfold isOp; rw [RG.out]; rfl
            obtain ⟨b, hbb⟩ : ∃ b, decide (j = i ∧ t = 0) = b := ⟨_, rfl⟩
            have FT := Lib.hid (iFit1 i j t)
            rw [hbb] at V
            have FT : Hid (∀ w, Calls Try.prog 143 #[aggO 1 i j t] w (Gives (.bool b) w)) := fun w => by rw [← hbb]; exact FT.out w
            clear hbb
            go_enter Try.func113, Try.ntmps113
            go_wp2_with fail
            refine (iSize_t rows _ h2.1 h2.2).mono ?_
            rintro e w' ⟨rfl, rfl⟩
            go_wp2_with fail
            refine (iRow_t i rows _ _ (CN.out _) h3).mono ?_
            rintro e w' ⟨rfl, rfl⟩
            go_wp2_with fail
            refine (iRow_t j rows _ _ (CN.out _) h4).mono ?_
            rintro e w' ⟨rfl, rfl⟩
            go_wp2_with fail
            refine (iIsNum_t t _ h5.1 h5.2).mono ?_
            rintro e w' ⟨rfl, rfl⟩
            go_wp2_with fail
            refine (iOpOf1 i j t _).mono ?_
            rintro e w1 ⟨rfl, hb⟩
            have B : Hid (Below w.heap.size w w1) := step2 (BH.out _ _) hb
            clear hb
            go_wp2_with fail
            refine (FT.out _).mono ?_
            rintro e w2 ⟨rfl, hb⟩
            have B2 : Hid (Below w.heap.size w w2) := step2 B.out hb
            clear hb
            go_wp2_with fail
            go_ret
            exact ⟨by rw [V.out]; rfl, B2.out⟩
          by_cases k2 : k = 2
          · subst k2
            have V : Hid (isOp 2 i j t rows = decide (j ≠ i)) := by show isOp 2 i j t rows = _; unfold isOp; rw [RG.out]; rfl
            obtain ⟨b, hbb⟩ : ∃ b, decide (j ≠ i) = b := ⟨_, rfl⟩
            have FT := Lib.hid (iFit2 i j t)
            rw [hbb] at V
            have FT : Hid (∀ w, Calls Try.prog 145 #[aggO 2 i j t] w (Gives (.bool b) w)) := fun w => by rw [← hbb]; exact FT.out w
            clear hbb
            go_enter Try.func113, Try.ntmps113
            go_wp2_with fail
            refine (iSize_t rows _ h2.1 h2.2).mono ?_
            rintro e w' ⟨rfl, rfl⟩
            go_wp2_with fail
            refine (iRow_t i rows _ _ (CN.out _) h3).mono ?_
            rintro e w' ⟨rfl, rfl⟩
            go_wp2_with fail
            refine (iRow_t j rows _ _ (CN.out _) h4).mono ?_
            rintro e w' ⟨rfl, rfl⟩
            go_wp2_with fail
            refine (iIsNum_t t _ h5.1 h5.2).mono ?_
            rintro e w' ⟨rfl, rfl⟩
            go_wp2_with fail
            refine (iOpOf2 i j t _).mono ?_
            rintro e w1 ⟨rfl, hb⟩
            have B : Hid (Below w.heap.size w w1) := step2 (BH.out _ _) hb
            clear hb
            go_wp2_with fail
            refine (FT.out _).mono ?_
            rintro e w2 ⟨rfl, hb⟩
            have B2 : Hid (Below w.heap.size w w2) := step2 B.out hb
            clear hb
            go_wp2_with fail
            go_ret
            exact ⟨by rw [V.out]; rfl, B2.out⟩
          have V : Hid (isOp k i j t rows = false) := by show isOp k i j t rows = false; unfold isOp; rw [RG.out, decide_eq_false (by omega)]; rfl
          have hk : k < 0 ∨ 2 < k := by omega
          clear k0 k1 k2
          go_enter Try.func113, Try.ntmps113
          go_wp2_with fail
          refine (iSize_t rows _ h2.1 h2.2).mono ?_
          rintro e w' ⟨rfl, rfl⟩
          go_wp2_with fail
          refine (iRow_t i rows _ _ (CN.out _) h3).mono ?_
          rintro e w' ⟨rfl, rfl⟩
          go_wp2_with fail
          refine (iRow_t j rows _ _ (CN.out _) h4).mono ?_
          rintro e w' ⟨rfl, rfl⟩
          go_wp2_with fail
          refine (iIsNum_t t _ h5.1 h5.2).mono ?_
          rintro e w' ⟨rfl, rfl⟩
          go_wp2_with fail
          refine (iOpOfN k i j t _ hk).mono ?_
          rintro e w1 ⟨rfl, hb⟩
          have B : Hid (Below w.heap.size w w1) := step2 (BH.out _ _) hb
          clear hb
          go_wp2_with fail
          go_ret
          exact ⟨by rw [V.out]; rfl, B.out⟩
        · have V : Hid (isOp k i j t rows = false) := by show isOp k i j t rows = false; unfold isOp rangeOp; rw [decide_eq_false h5]; simp
          have hx : t < -400000000 ∨ 400000000 < t := by unfold NumP at h5; omega
          clear h5
          go_enter Try.func113, Try.ntmps113
          go_wp2_with fail
          refine (iSize_t rows _ h2.1 h2.2).mono ?_
          rintro e w' ⟨rfl, rfl⟩
          go_wp2_with fail
          refine (iRow_t i rows _ _ (CN.out _) h3).mono ?_
          rintro e w' ⟨rfl, rfl⟩
          go_wp2_with fail
          refine (iRow_t j rows _ _ (CN.out _) h4).mono ?_
          rintro e w' ⟨rfl, rfl⟩
          go_wp2_with fail
          refine (iIsNum_f t _ hx).mono ?_
          rintro e w' ⟨rfl, rfl⟩
          go_wp2_with fail
          go_ret
          exact ⟨by rw [V.out]; rfl, BH.out _ _⟩
      · have V : Hid (isOp k i j t rows = false) := by show isOp k i j t rows = false; unfold isOp rangeOp; rw [decide_eq_false (show ¬ (0 ≤ j ∧ j ≤ rows - 1) by omega)]; simp
        have hx : j < 0 ∨ rows ≤ j := by omega
        clear h4
        go_enter Try.func113, Try.ntmps113
        go_wp2_with fail
        refine (iSize_t rows _ h2.1 h2.2).mono ?_
        rintro e w' ⟨rfl, rfl⟩
        go_wp2_with fail
        refine (iRow_t i rows _ _ (CN.out _) h3).mono ?_
        rintro e w' ⟨rfl, rfl⟩
        go_wp2_with fail
        refine (iRow_f j rows _ _ (CN.out _) hx).mono ?_
        rintro e w' ⟨rfl, rfl⟩
        go_wp2_with fail
        go_ret
        exact ⟨by rw [V.out]; rfl, BH.out _ _⟩
    · have V : Hid (isOp k i j t rows = false) := by show isOp k i j t rows = false; unfold isOp rangeOp; rw [decide_eq_false (show ¬ (0 ≤ i ∧ i ≤ rows - 1) by omega)]; simp
      have hx : i < 0 ∨ rows ≤ i := by omega
      clear h3
      go_enter Try.func113, Try.ntmps113
      go_wp2_with fail
      refine (iSize_t rows _ h2.1 h2.2).mono ?_
      rintro e w' ⟨rfl, rfl⟩
      go_wp2_with fail
      refine (iRow_f i rows _ _ (CN.out _) hx).mono ?_
      rintro e w' ⟨rfl, rfl⟩
      go_wp2_with fail
      go_ret
      exact ⟨by rw [V.out]; rfl, BH.out _ _⟩
  · have V : Hid (isOp k i j t rows = false) := by show isOp k i j t rows = false; unfold isOp rangeOp; rw [decide_eq_false h2]; simp
    have hx : rows < 0 ∨ 24 < rows := by omega
    clear h2
    go_enter Try.func113, Try.ntmps113
    go_wp2_with fail
    refine (iSize_f rows _ hx).mono ?_
    rintro e w' ⟨rfl, rfl⟩
    go_wp2_with fail
    go_ret
    exact ⟨by rw [V.out]; rfl, BH.out _ _⟩
end Go.Proofs.Ytdnajkoeojlnbaa
end

section
/-
  Chapter 5, in the program: DoRowOp.
-/
namespace Go.Proofs.Ytdnajkoeojlnbaa
set_option maxRecDepth 100000
open Go.RowKit

theorem sevB {W w' : World} {b b' : Nat} {t t' : TypeId} {p q r x y z u : Value} (h0 : Blk3 W b t p q r) (h1 : Blk4 W b' t' x y z u) (hb : Below W.heap.size W w') :
    w'.cell? ⟨b, 0, none⟩ = some p ∧ w'.cell? ⟨b, 1, none⟩ = some q ∧ w'.cell? ⟨b, 2, none⟩ = some r ∧ w'.cell? ⟨b', 0, none⟩ = some x ∧ w'.cell? ⟨b', 1, none⟩ = some y ∧ w'.cell? ⟨b', 2, none⟩ = some z ∧ w'.cell? ⟨b', 3, none⟩ = some u := by
  obtain ⟨a1, a2, a3, -, -, -⟩ := (h0.step hb).all
  obtain ⟨c1, c2, c3, c4⟩ := (h1.step hb).all
  exact ⟨a1, a2, a3, c1, c2, c3, c4⟩
theorem colCells {W w' : World} {b ba oa i j n : Nat} {t : TypeId} {p q r : Value} {xs : List Int} (h0 : Blk3 W b t p q r) (h : Rd W (some ⟨ba, oa, none⟩) xs) (hn : xs.length = n) (hi : i < n) (hj : j < n) (hb : Below W.heap.size W w') :
    w'.cell? ⟨b, 0, none⟩ = some p ∧ w'.cell? ⟨b, 1, none⟩ = some q ∧ w'.cell? ⟨b, 2, none⟩ = some r ∧ w'.cell? ⟨ba, oa + i, none⟩ = some (.int .i64 (xs.getD i 0)) ∧ w'.cell? ⟨ba, oa + j, none⟩ = some (.int .i64 (xs.getD j 0)) := by
  obtain ⟨a1, a2, a3, -, -, -⟩ := (h0.step hb).all
  exact ⟨a1, a2, a3, (h.below hb).cells i (by omega), (h.below hb).cells j (by omega)⟩
end Go.Proofs.Ytdnajkoeojlnbaa
end
