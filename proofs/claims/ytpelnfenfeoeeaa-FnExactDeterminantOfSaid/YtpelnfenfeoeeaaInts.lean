/-
  Slices of ints: what is read through one, a block of the call's own that is one; worlds. No function of the program is named.
-/
import Derived.Test.YtpelnfenfeoeeaaRows
import Derived.Test.YtpelnfenfeoeeaaBlk
import Derived.WalkKit
import Derived.Deep.OwnRows
import Derived.KernelRfl
namespace Go.Proofs.Ytpelnfenfeoeeaa
open Go.RowKit

theorem info_int : (Try.prog.info? 3).map (fun i => (i.zero, i.size, i.bytes)) = some (some (.int .i64 0), 1, 8) := by kernel_rfl
theorem cells_int : Try.prog.cellsOf 3 = 1 := by kernel_rfl
theorem underlying_ints : Try.prog.underlying 22 = some (.slice 3) := by kernel_rfl
theorem facts_int : ∃ i, Try.prog.info? 3 = some i ∧ i.zero = some (.int .i64 0) ∧ i.size = 1 ∧ i.bytes = 8 := by
  obtain ⟨i, h, e⟩ := Option.map_eq_some_iff.mp info_int
  injection e with e1 e2
  injection e2 with e2 e3
  exact ⟨i, h, e1, e2, e3⟩
/-- make, for every world. -/
theorem makeInts (n : Nat) (h : n ≤ 16777216) (w : World) : (Instr.makeSlice 22 (.int .i64 (n : Int)) (.int .i64 (n : Int))).run Try.prog w = .ok (.slice (some ⟨w.heap.size, 0, none⟩) n n) (w.alloc (.cells (madeCells #[.int .i64 0] n) 3)) :=
  run_make_row' (P := Try.prog) 22 3 (.int .i64 0) 8 Try.underlying22 info_int rfl .i64 .i64 n (by omega) (by omega) w
theorem makeProd (R C : Nat) (h : R * C ≤ 16777216) (w : World) : (Instr.makeSlice 22 (.int .i64 ((R : Int) * (C : Int))) (.int .i64 ((R : Int) * (C : Int)))).run Try.prog w = .ok (.slice (some ⟨w.heap.size, 0, none⟩) (R * C) (R * C)) (w.alloc (.cells (madeCells #[.int .i64 0] (R * C)) 3)) := by
  rw [← Int.natCast_mul]; exact makeInts (R * C) h w

/-! ### What is read through a slice -/
/-- Through address a the ints zs are read. -/
def Rd (w : World) (a : Option Addr) (zs : List Int) : Prop :=
  ∀ i : Nat, i < zs.length → ∃ b o : Nat, a = some ⟨b, o, none⟩ ∧ w.cell? ⟨b, o + i, none⟩ = some (.int .i64 (zs.getD i 0))
theorem Rd.nil (w : World) (a : Option Addr) : Rd w a [] := fun _ h => absurd h (Nat.not_lt_zero _)
theorem Rd.below {w w' : World} {a : Option Addr} {zs : List Int} (h : Rd w a zs) (hb : Below w.heap.size w w') : Rd w' a zs := fun i hi => by
  obtain ⟨b, o, ha, hc⟩ := h i hi
  exact ⟨b, o, ha, (hb.cell (World.block_lt_of_cell? w _ hc)).trans hc⟩
theorem Rd.drewN {w : World} {a : Option Addr} {zs : List Int} (h : Rd w a zs) (n : Nat) : Rd (w.drewN n) a zs := h
/-- Only one block has changed, and it is not this one. -/
theorem Rd.one {w w' : World} {g : Nat} {a : Option Addr} {zs : List Int} (h : Rd w a zs) (hg : w.grownBy w' (some g)) (hne : ∀ b o : Nat, a = some ⟨b, o, none⟩ → b ≠ g) : Rd w' a zs := fun i hi => by
  obtain ⟨b, o, ha, hc⟩ := h i hi
  exact ⟨b, o, ha, hg.cell hc (by simpa using hne b o ha)⟩
theorem Rd.take {w : World} {a : Option Addr} {zs : List Int} (h : Rd w a zs) (n : Nat) : Rd w a (zs.take n) := fun i hi => by
  simp only [List.length_take] at hi
  obtain ⟨b, o, ha, hc⟩ := h i (by omega)
  refine ⟨b, o, ha, ?_⟩
  rw [hc]
  simp [List.getD, show i < n by omega]

/-! ### A block of ints -/
/-- Block g begins with the row of ints zs, none of its cells frozen. -/
def Ints (w : World) (g : Nat) (zs : List Int) : Prop := ∃ rest : List Value, w.heap[g]? = some (.cells (zs.map (Value.int .i64) ++ rest).toArray 3 (0, 0))
theorem Ints.move {w w' : World} {g : Nat} {zs : List Int} (h : Ints w g zs) (e : w'.heap[g]? = w.heap[g]?) : Ints w' g zs := by
  obtain ⟨rest, h⟩ := h
  exact ⟨rest, e.trans h⟩
theorem Ints.lt {w : World} {g : Nat} {zs : List Int} (h : Ints w g zs) : g < w.heap.size := by
  obtain ⟨_, h⟩ := h
  exact lt_of_block h
theorem Ints.cell {w : World} {g : Nat} {zs : List Int} (h : Ints w g zs) {i : Nat} (hi : i < zs.length) : w.cell? ⟨g, i, none⟩ = some (.int .i64 (zs.getD i 0)) := by
  obtain ⟨rest, h⟩ := h
  simp [World.cell?, h, List.getElem?_append, hi, List.getD]
theorem Ints.free {w : World} {g : Nat} {zs : List Int} (h : Ints w g zs) (i : Nat) : w.frozen? ⟨g, i, none⟩ = false := by
  obtain ⟨_, h⟩ := h
  simp [World.frozen?, h]
theorem Ints.rd {w : World} {g : Nat} {zs : List Int} (h : Ints w g zs) : Rd w (some ⟨g, 0, none⟩) zs := fun i hi => ⟨g, 0, rfl, by rw [Nat.zero_add]; exact h.cell hi⟩
theorem Ints.set {w : World} {g : Nat} {zs : List Int} (h : Ints w g zs) (i : Nat) (z : Int) : Ints (w.setCell ⟨g, i, none⟩ (.int .i64 z)) g (zs.set i z) := by
  obtain ⟨rest, h⟩ := h
  rcases Nat.lt_or_ge i zs.length with hi | hi
  · refine ⟨rest, ?_⟩
    simp [World.setCell, Array.getElem?_modify, h, hi]
  · refine ⟨rest.set (i - zs.length) (.int .i64 z), ?_⟩
    simp [World.setCell, Array.getElem?_modify, h, List.set_append, Nat.not_lt.mpr hi, List.set_eq_of_length_le hi]
theorem Ints.far {w : World} {g : Nat} {zs : List Int} (h : Ints w g zs) {a : Addr} (ha : g ≠ a.block) (u : Value) : Ints (w.setCell a u) g zs := h.move (Below.heap_setCell w a u g ha)
theorem Ints.keep {w w' : World} {g B : Nat} {zs : List Int} (h : Ints w g zs) (hb : Below B w w') (hB : g < B) : Ints w' g zs := h.move (hb.block g hB)
theorem Ints.one {w w' : World} {g c : Nat} {zs : List Int} (h : Ints w g zs) (hg : w.grownBy w' (some c)) (hne : g ≠ c) : Ints w' g zs := h.move (hg.block g h.lt (by simpa using hne))
theorem Ints.drewN {w : World} {g : Nat} {zs : List Int} (h : Ints w g zs) (n : Nat) : Ints (w.drewN n) g zs := h
theorem Ints.drew {w : World} {g : Nat} {zs : List Int} (h : Ints w g zs) : Ints w.drew g zs := h
theorem Ints.old {w : World} {g : Nat} {zs : List Int} (h : Ints w g zs) (o : Obj) : Ints (w.alloc o) g zs := h.move (Below.heap_alloc w o g h.lt)
theorem madeCells_ints (n : Nat) : madeCells #[.int .i64 0] n = ((List.replicate n (0 : Int)).map (Value.int .i64)).toArray := by
  apply Array.ext
  · simp [madeCells]
  · intro i h1 h2
    simp [madeCells, Nat.mod_one]
theorem Ints.made {w : World} {g : Nat} (n : Nat) (hg : g = w.heap.size) : Ints (w.alloc (.cells (madeCells #[.int .i64 0] n) 3)) g (List.replicate n 0) := by
  subst hg
  refine ⟨[], ?_⟩
  rw [madeCells_ints, List.append_nil]
  exact heap_alloc_new w _

theorem Ints.ne_blk {w : World} {g b : Nat} {zs : List Int} {p q r : Value} (h : Ints w g zs) (k : Blk3 w b 26 p q r) : g ≠ b := by
  rintro rfl
  obtain ⟨rest, h⟩ := h
  unfold Blk3 at k
  rw [h] at k
  injection k with k
  injection k with _ k2 _
  exact absurd k2 (by decide)

/-! ### Lists -/
theorem set_step (zs : List Int) (k : Nat) (hk : k < zs.length) : (zs.take k ++ List.replicate (zs.length - k) 0).set k (zs.getD k 0) = zs.take (k + 1) ++ List.replicate (zs.length - (k + 1)) 0 := by
  rw [List.set_append]
  have e : (zs.take k).length = k := by simp; omega
  rw [if_neg (by omega), e, Nat.sub_self]
  have e2 : zs.length - k = (zs.length - (k + 1)) + 1 := by omega
  rw [e2, List.replicate_succ, List.set_cons_zero]
  have e3 : zs.take (k + 1) = zs.take k ++ [zs.getD k 0] := by
    rw [List.take_succ_eq_append_getElem hk]
    simp [List.getD, hk]
  rw [e3, List.append_assoc]
  rfl
theorem mid_zero (zs : List Int) (m k : Nat) (hk : k ≤ zs.length) : (zs.take k ++ List.replicate m (0 : Int)).getD k 0 = 0 := by
  have e : (zs.take k).length = k := by simp; omega
  unfold List.getD
  rw [List.getElem?_append_right (by omega), e, Nat.sub_self]
  cases m <;> simp [List.replicate_succ]
/-- The marks k, k + 1 .. -/
def marks (k : Int) (n : Nat) : List Int := (List.range n).map fun (i : Nat) => k + (i : Int)
theorem marks_length (k : Int) (n : Nat) : (marks k n).length = n := by simp [marks]
theorem marks_getD (k : Int) (n i : Nat) (h : i < n) : (marks k n).getD i 0 = k + (i : Int) := by simp [marks, List.getD, h]
theorem mark_step (zs : List Int) (c : Int) (k : Nat) (hk : k < zs.length) : (marks c k ++ zs.drop k).set k (c + (k : Int)) = marks c (k + 1) ++ zs.drop (k + 1) := by
  rw [List.set_append, if_neg (by rw [marks_length]; omega), marks_length, Nat.sub_self, List.drop_eq_getElem_cons hk, List.set_cons_zero]
  have e : marks c (k + 1) = marks c k ++ [c + (k : Int)] := by simp [marks, List.range_succ]
  rw [e, List.append_assoc]
  rfl

/-! ### A slice of the call's own -/
/-- The slice value v shows the ints zs; it is nil, or it begins a block from B on that nothing else shows. -/
def Own (B : Nat) (w : World) (v : Value) (zs : List Int) : Prop :=
  (v = .slice none 0 0 ∧ zs = []) ∨ ∃ (g cap : Nat), v = .slice (some ⟨g, 0, none⟩) zs.length cap ∧ B ≤ g ∧ Ints w g zs ∧ zs.length ≤ cap ∧ zs.length ≤ 16777216
theorem Own.form {B : Nat} {w : World} {v : Value} {zs : List Int} (h : Own B w v zs) : ∃ (a : Option Addr) (cap : Nat), v = .slice a zs.length cap ∧ Rd w a zs ∧ zs.length ≤ 16777216 := by
  rcases h with ⟨rfl, rfl⟩ | ⟨g, cap, rfl, _, hi, hl, hc⟩
  · exact ⟨none, 0, rfl, Rd.nil _ _, by simp⟩
  · exact ⟨_, _, rfl, hi.rd, hc⟩
theorem Own.keep {B : Nat} {w w' : World} {v : Value} {zs : List Int} (h : Own B w v zs) (hb : Below w.heap.size w w') : Own B w' v zs := by
  rcases h with h | ⟨g, cap, hv, hB, hi, hl, hc⟩
  · exact .inl h
  · exact .inr ⟨g, cap, hv, hB, hi.keep hb hi.lt, hl, hc⟩
theorem Own.le {B B' : Nat} {w : World} {v : Value} {zs : List Int} (h : Own B w v zs) (hB : B' ≤ B) : Own B' w v zs := by
  rcases h with h | ⟨g, cap, hv, hB', hi, hl, hc⟩
  · exact .inl h
  · exact .inr ⟨g, cap, hv, by omega, hi, hl, hc⟩
theorem Own.small {B : Nat} {w : World} {v : Value} {zs : List Int} (h : Own B w v zs) : zs.length ≤ 16777216 := by
  obtain ⟨a, cap, _, _, h1⟩ := h.form
  exact h1
/-- What a call has built by append is its own. -/
theorem Own.of_row {B : Nat} {w : World} {v : Value} {zs : List Int} (h : w.ownsRow B 3 1 v zs.length (zs.map (Value.int .i64))) (hl : zs.length ≤ 16777216) : Own B w v zs := by
  rcases h.2 with ⟨rfl, h0⟩ | ⟨g, cap, cur, rfl, hB, hg, hc, -, -, ht⟩
  · exact .inl ⟨rfl, List.eq_nil_of_length_eq_zero h0⟩
  · refine .inr ⟨g, cap, rfl, hB, ⟨cur.toList.drop zs.length, ?_⟩, hc, hl⟩
    rw [hg]
    congr 1
    congr 1
    rw [Nat.mul_one] at ht
    rw [← ht, List.take_append_drop]
end Go.Proofs.Ytpelnfenfeoeeaa
