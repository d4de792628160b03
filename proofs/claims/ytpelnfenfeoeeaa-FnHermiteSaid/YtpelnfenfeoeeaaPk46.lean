/-
  Texts of this seat, joined: ZCBlk · ZCInts · ZCNumIs · ZCLawInts · ZCLawMat · ZCMatMath · ZCMatS · ZCMem · ZCFrB · ZCDraw · ZCFr · ZCStp · ZCDraw3 · ZCDraw4 · ZCCode · ZCAnyM · ZCDraw5 · ZCDrawH · ZCSumMath · ZCDet1 · ZCSpn
-/
import Derived.WalkKit
import Derived.OneCell
import Derived.WalkSmall
import Derived.Maps.AppendAt
import Derived.Lib.Hide
import Derived.Test.YtpelnfenfeoeeaaRows
import Derived.Deep.OwnRows
import Derived.KernelRfl
import Derived.BigQuiet
import Derived.Deep.QuietTactic
import Derived.Deep.LoopGhost
import Derived.OwnWalk
import Derived.Deep.RegionHeld3
import Derived.Deep.DeepCutAuto
import Derived.StillTailTactics
import Derived.IntWalk
import Derived.ProofKit
import Derived.OpenShut

section
/-
  Small facts on worlds that all walks of this seat use: a block of three cells; what stays as it was; four results. No program is imported.
-/
namespace Go.Proofs.Ytpelnfenfeoeeaa
open Go.RowKit
def Gives (v : Value) (w : World) (e : Ending) (w' : World) : Prop := e = .returned v ∧ Below w.heap.size w w'
def Blk3 (w : World) (b : Nat) (t : TypeId) (p q r : Value) : Prop := w.heap[b]? = some (.cells #[p, q, r] t (0, 0))
theorem Blk3.cell0 {w : World} {b : Nat} {t : TypeId} {p q r : Value} (h : Blk3 w b t p q r) : w.cell? ⟨b, 0, none⟩ = some p := by unfold Blk3 at h; simp [World.cell?, h]
theorem Blk3.cell1 {w : World} {b : Nat} {t : TypeId} {p q r : Value} (h : Blk3 w b t p q r) : w.cell? ⟨b, 1, none⟩ = some q := by unfold Blk3 at h; simp [World.cell?, h]
theorem Blk3.cell2 {w : World} {b : Nat} {t : TypeId} {p q r : Value} (h : Blk3 w b t p q r) : w.cell? ⟨b, 2, none⟩ = some r := by unfold Blk3 at h; simp [World.cell?, h]
theorem Blk3.free {w : World} {b : Nat} {t : TypeId} {p q r : Value} (h : Blk3 w b t p q r) (o : Nat) : w.frozen? ⟨b, o, none⟩ = false := by unfold Blk3 at h; simp [World.frozen?, h]
theorem Blk3.lt {w : World} {b : Nat} {t : TypeId} {p q r : Value} (h : Blk3 w b t p q r) : b < w.heap.size := lt_of_block h
theorem Blk3.all {w : World} {b : Nat} {t : TypeId} {p q r : Value} (h : Blk3 w b t p q r) : w.cell? ⟨b, 0, none⟩ = some p ∧ w.cell? ⟨b, 1, none⟩ = some q ∧ w.cell? ⟨b, 2, none⟩ = some r ∧ w.frozen? ⟨b, 0, none⟩ = false ∧ w.frozen? ⟨b, 1, none⟩ = false ∧ w.frozen? ⟨b, 2, none⟩ = false :=
  ⟨h.cell0, h.cell1, h.cell2, h.free 0, h.free 1, h.free 2⟩
theorem Blk3.set0 {w : World} {b : Nat} {t : TypeId} {p q r : Value} (h : Blk3 w b t p q r) (u : Value) : Blk3 (w.setCell ⟨b, 0, none⟩ u) b t u q r := by
  have hlt := h.lt
  unfold Blk3 at h ⊢
  have h' : w.heap[b] = .cells #[p, q, r] t (0, 0) := by simpa [Array.getElem?_eq_getElem hlt] using h
  show (w.heap.modify b _)[b]? = _
  rw [Array.getElem?_eq_getElem (by simpa using hlt), Array.getElem_modify_self, h']
  rfl
theorem Blk3.set1 {w : World} {b : Nat} {t : TypeId} {p q r : Value} (h : Blk3 w b t p q r) (u : Value) : Blk3 (w.setCell ⟨b, 1, none⟩ u) b t p u r := by
  have hlt := h.lt
  unfold Blk3 at h ⊢
  have h' : w.heap[b] = .cells #[p, q, r] t (0, 0) := by simpa [Array.getElem?_eq_getElem hlt] using h
  show (w.heap.modify b _)[b]? = _
  rw [Array.getElem?_eq_getElem (by simpa using hlt), Array.getElem_modify_self, h']
  rfl
theorem Blk3.set2 {w : World} {b : Nat} {t : TypeId} {p q r : Value} (h : Blk3 w b t p q r) (u : Value) : Blk3 (w.setCell ⟨b, 2, none⟩ u) b t p q u := by
  have hlt := h.lt
  unfold Blk3 at h ⊢
  have h' : w.heap[b] = .cells #[p, q, r] t (0, 0) := by simpa [Array.getElem?_eq_getElem hlt] using h
  show (w.heap.modify b _)[b]? = _
  rw [Array.getElem?_eq_getElem (by simpa using hlt), Array.getElem_modify_self, h']
  rfl
theorem Blk3.far {w : World} {b : Nat} {t : TypeId} {p q r : Value} (h : Blk3 w b t p q r) {a : Addr} (ha : b ≠ a.block) (u : Value) : Blk3 (w.setCell a u) b t p q r := (Below.heap_setCell w a u b ha).trans h
theorem Blk3.keep {w w' : World} {b B : Nat} {t : TypeId} {p q r : Value} (h : Blk3 w b t p q r) (hb : Below B w w') (hB : b < B) : Blk3 w' b t p q r := (hb.block b hB).trans h
theorem Blk3.drewN {w : World} {b : Nat} {t : TypeId} {p q r : Value} (h : Blk3 w b t p q r) (n : Nat) : Blk3 (w.drewN n) b t p q r := h
theorem Blk3.new (w : World) (t : TypeId) (p q r : Value) : Blk3 (w.alloc (.cells #[p, q, r] t)) w.heap.size t p q r := by
  unfold Blk3; show (w.heap.push _)[w.heap.size]? = _
  rw [Array.getElem?_push, if_pos rfl]
theorem Blk3.at_ {w : World} {b : Nat} (t : TypeId) (p q r : Value) (hb : b = w.heap.size) : Blk3 (w.alloc (.cells #[p, q, r] t)) b t p q r := by
  subst hb; exact Blk3.new w t p q r
theorem Blk3.drew {w : World} {b : Nat} {t : TypeId} {p q r : Value} (h : Blk3 w b t p q r) : Blk3 w.drew b t p q r := h
theorem Blk3.old {w : World} {b : Nat} {t : TypeId} {p q r : Value} (h : Blk3 w b t p q r) (o : Obj) : Blk3 (w.alloc o) b t p q r := (Below.heap_alloc w o b h.lt).trans h
def Blk2 (w : World) (b : Nat) (t : TypeId) (p q : Value) : Prop := w.heap[b]? = some (.cells #[p, q] t (0, 0))
theorem Blk2.cell0 {w : World} {b : Nat} {t : TypeId} {p q : Value} (h : Blk2 w b t p q) : w.cell? ⟨b, 0, none⟩ = some p := by unfold Blk2 at h; simp [World.cell?, h]
theorem Blk2.cell1 {w : World} {b : Nat} {t : TypeId} {p q : Value} (h : Blk2 w b t p q) : w.cell? ⟨b, 1, none⟩ = some q := by unfold Blk2 at h; simp [World.cell?, h]
theorem Blk2.free {w : World} {b : Nat} {t : TypeId} {p q : Value} (h : Blk2 w b t p q) (o : Nat) : w.frozen? ⟨b, o, none⟩ = false := by unfold Blk2 at h; simp [World.frozen?, h]
theorem Blk2.lt {w : World} {b : Nat} {t : TypeId} {p q : Value} (h : Blk2 w b t p q) : b < w.heap.size := lt_of_block h
theorem Blk2.all {w : World} {b : Nat} {t : TypeId} {p q : Value} (h : Blk2 w b t p q) : w.cell? ⟨b, 0, none⟩ = some p ∧ w.cell? ⟨b, 1, none⟩ = some q ∧ w.frozen? ⟨b, 0, none⟩ = false ∧ w.frozen? ⟨b, 1, none⟩ = false :=
  ⟨h.cell0, h.cell1, h.free 0, h.free 1⟩
theorem Blk2.far {w : World} {b : Nat} {t : TypeId} {p q : Value} (h : Blk2 w b t p q) {a : Addr} (ha : b ≠ a.block) (u : Value) : Blk2 (w.setCell a u) b t p q := (Below.heap_setCell w a u b ha).trans h
theorem Blk2.keep {w w' : World} {b B : Nat} {t : TypeId} {p q : Value} (h : Blk2 w b t p q) (hb : Below B w w') (hB : b < B) : Blk2 w' b t p q := (hb.block b hB).trans h
theorem Blk2.at_ {w : World} {b : Nat} (t : TypeId) (p q : Value) (hb : b = w.heap.size) : Blk2 (w.alloc (.cells #[p, q] t)) b t p q := by
  subst hb; unfold Blk2; show (w.heap.push _)[w.heap.size]? = _
  rw [Array.getElem?_push, if_pos rfl]
theorem grown_drewN_one {w w' : World} {row : Option Nat} (h : w.grownBy w' row) (n : Nat) : w.grownBy (w'.drewN n) row := ⟨h.os, h.tape, h.output, h.size, h.block⟩
theorem grown_drew_one {w w' : World} {row : Option Nat} (h : w.grownBy w' row) : w.grownBy w'.drew row := ⟨h.os, h.tape, h.output, h.size, h.block⟩
theorem grown_set_one {w w' : World} {b : Nat} (h : w.grownBy w' (some b)) {a : Addr} (ha : a.block = b) (u : Value) : w.grownBy (w'.setCell a u) (some b) :=
  ⟨h.os, h.tape, h.output, by simpa [World.setCell] using h.size, fun k hk hne => (Below.heap_setCell w' a u k (by rintro rfl; exact hne (by rw [ha]))).trans (h.block k hk hne)⟩
theorem below_of_one {w w' : World} {b B : Nat} (h : w.grownBy w' (some b)) (hB : B ≤ b) (hw : B ≤ w.heap.size) : Below B w w' :=
  ⟨h.os, h.tape, h.output, h.size, fun k hk => h.block k (by omega) (by simp; omega)⟩
theorem Blk3.keepOne {w w' : World} {b c : Nat} {t : TypeId} {p q r : Value} (h : Blk3 w b t p q r) (hg : w.grownBy w' (some c)) (hne : b ≠ c) : Blk3 w' b t p q r :=
  (hg.block b h.lt (by simpa using hne)).trans h
theorem grown_of_below {w w' : World} (h : Below w.heap.size w w') (row : Option Nat) : w.grownBy w' row := ⟨h.os, h.tape, h.output, h.size, fun k hk _ => h.block k hk⟩
end Go.Proofs.Ytpelnfenfeoeeaa
end

section
/-
  Slices of ints: what is read through one, a block of the call's own that is one; worlds. No function of the program is named.
-/
namespace Go.Proofs.Ytpelnfenfeoeeaa
open Go.RowKit
theorem info_int : (Try.prog.info? 3).map (fun i => (i.zero, i.size, i.bytes)) = some (some (.int .i64 0), 1, 8) := by kernel_rfl
theorem underlying_ints : Try.prog.underlying 22 = some (.slice 3) := by kernel_rfl
theorem facts_int : ∃ i, Try.prog.info? 3 = some i ∧ i.zero = some (.int .i64 0) ∧ i.size = 1 ∧ i.bytes = 8 := by
  obtain ⟨i, h, e⟩ := Option.map_eq_some_iff.mp info_int
  injection e with e1 e2
  injection e2 with e2 e3
  exact ⟨i, h, e1, e2, e3⟩
theorem makeInts (n : Nat) (h : n ≤ 16777216) (w : World) : (Instr.makeSlice 22 (.int .i64 (n : Int)) (.int .i64 (n : Int))).run Try.prog w = .ok (.slice (some ⟨w.heap.size, 0, none⟩) n n) (w.alloc (.cells (madeCells #[.int .i64 0] n) 3)) :=
  run_make_row' (P := Try.prog) 22 3 (.int .i64 0) 8 Try.underlying22 info_int rfl .i64 .i64 n (by omega) (by omega) w
theorem makeProd (R C : Nat) (h : R * C ≤ 16777216) (w : World) : (Instr.makeSlice 22 (.int .i64 ((R : Int) * (C : Int))) (.int .i64 ((R : Int) * (C : Int)))).run Try.prog w = .ok (.slice (some ⟨w.heap.size, 0, none⟩) (R * C) (R * C)) (w.alloc (.cells (madeCells #[.int .i64 0] (R * C)) 3)) := by
  rw [← Int.natCast_mul]; exact makeInts (R * C) h w
def Rd (w : World) (a : Option Addr) (zs : List Int) : Prop :=
  ∀ i : Nat, i < zs.length → ∃ b o : Nat, a = some ⟨b, o, none⟩ ∧ w.cell? ⟨b, o + i, none⟩ = some (.int .i64 (zs.getD i 0))
theorem Rd.nil (w : World) (a : Option Addr) : Rd w a [] := fun _ h => absurd h (Nat.not_lt_zero _)
theorem Rd.below {w w' : World} {a : Option Addr} {zs : List Int} (h : Rd w a zs) (hb : Below w.heap.size w w') : Rd w' a zs := fun i hi => by
  obtain ⟨b, o, ha, hc⟩ := h i hi
  exact ⟨b, o, ha, (hb.cell (World.block_lt_of_cell? w _ hc)).trans hc⟩
def Ints (w : World) (g : Nat) (zs : List Int) : Prop := ∃ rest : List Value, w.heap[g]? = some (.cells (zs.map (Value.int .i64) ++ rest).toArray 3 (0, 0))
theorem Ints.move {w w' : World} {g : Nat} {zs : List Int} (h : Ints w g zs) (e : w'.heap[g]? = w.heap[g]?) : Ints w' g zs := by
  obtain ⟨rest, h⟩ := h
  exact ⟨rest, e.trans h⟩
theorem Ints.lt {w : World} {g : Nat} {zs : List Int} (h : Ints w g zs) : g < w.heap.size := by
  obtain ⟨_, h⟩ := h
  exact lt_of_block h
theorem Ints.cell {w : World} {g : Nat} {zs : List Int} (h : Ints w g zs) {i : Nat} (hi : i < zs.length) : w.cell? ⟨g, i, none⟩ = some (.int .i64 (zs.getD i 0)) := by
  obtain ⟨rest, h⟩ := h
  simp [World.cell?, h, List.getElem?_append, hi, List.getD]
theorem Ints.free {w : World} {g : Nat} {zs : List Int} (h : Ints w g zs) (i : Nat) : w.frozen? ⟨g, i, none⟩ = false := by
  obtain ⟨_, h⟩ := h
  simp [World.frozen?, h]
theorem Ints.rd {w : World} {g : Nat} {zs : List Int} (h : Ints w g zs) : Rd w (some ⟨g, 0, none⟩) zs := fun i hi => ⟨g, 0, rfl, by rw [Nat.zero_add]; exact h.cell hi⟩
theorem Ints.set {w : World} {g : Nat} {zs : List Int} (h : Ints w g zs) (i : Nat) (z : Int) : Ints (w.setCell ⟨g, i, none⟩ (.int .i64 z)) g (zs.set i z) := by
  obtain ⟨rest, h⟩ := h
  rcases Nat.lt_or_ge i zs.length with hi | hi
  · refine ⟨rest, ?_⟩
    simp [World.setCell, Array.getElem?_modify, h, hi]
  · refine ⟨rest.set (i - zs.length) (.int .i64 z), ?_⟩
    simp [World.setCell, Array.getElem?_modify, h, List.set_append, Nat.not_lt.mpr hi, List.set_eq_of_length_le hi]
theorem Ints.far {w : World} {g : Nat} {zs : List Int} (h : Ints w g zs) {a : Addr} (ha : g ≠ a.block) (u : Value) : Ints (w.setCell a u) g zs := h.move (Below.heap_setCell w a u g ha)
theorem Ints.keep {w w' : World} {g B : Nat} {zs : List Int} (h : Ints w g zs) (hb : Below B w w') (hB : g < B) : Ints w' g zs := h.move (hb.block g hB)
theorem Ints.one {w w' : World} {g c : Nat} {zs : List Int} (h : Ints w g zs) (hg : w.grownBy w' (some c)) (hne : g ≠ c) : Ints w' g zs := h.move (hg.block g h.lt (by simpa using hne))
theorem Ints.drewN {w : World} {g : Nat} {zs : List Int} (h : Ints w g zs) (n : Nat) : Ints (w.drewN n) g zs := h
theorem Ints.drew {w : World} {g : Nat} {zs : List Int} (h : Ints w g zs) : Ints w.drew g zs := h
theorem Ints.old {w : World} {g : Nat} {zs : List Int} (h : Ints w g zs) (o : Obj) : Ints (w.alloc o) g zs := h.move (Below.heap_alloc w o g h.lt)
theorem madeCells_ints (n : Nat) : madeCells #[.int .i64 0] n = ((List.replicate n (0 : Int)).map (Value.int .i64)).toArray := by
  apply Array.ext
  · simp [madeCells]
  · intro i h1 h2
    simp [madeCells, Nat.mod_one]
theorem Ints.made {w : World} {g : Nat} (n : Nat) (hg : g = w.heap.size) : Ints (w.alloc (.cells (madeCells #[.int .i64 0] n) 3)) g (List.replicate n 0) := by
  subst hg
  refine ⟨[], ?_⟩
  rw [madeCells_ints, List.append_nil]
  exact heap_alloc_new w _
theorem Ints.ne_blk {w : World} {g b : Nat} {zs : List Int} {p q r : Value} (h : Ints w g zs) (k : Blk3 w b 26 p q r) : g ≠ b := by
  rintro rfl
  obtain ⟨rest, h⟩ := h
  unfold Blk3 at k
  rw [h] at k
  injection k with k
  injection k with _ k2 _
  exact absurd k2 (by decide)
def Own (B : Nat) (w : World) (v : Value) (zs : List Int) : Prop :=
  (v = .slice none 0 0 ∧ zs = []) ∨ ∃ (g cap : Nat), v = .slice (some ⟨g, 0, none⟩) zs.length cap ∧ B ≤ g ∧ Ints w g zs ∧ zs.length ≤ cap ∧ zs.length ≤ 16777216
theorem Own.form {B : Nat} {w : World} {v : Value} {zs : List Int} (h : Own B w v zs) : ∃ (a : Option Addr) (cap : Nat), v = .slice a zs.length cap ∧ Rd w a zs ∧ zs.length ≤ 16777216 := by
  rcases h with ⟨rfl, rfl⟩ | ⟨g, cap, rfl, _, hi, hl, hc⟩
  · exact ⟨none, 0, rfl, Rd.nil _ _, by simp⟩
  · exact ⟨_, _, rfl, hi.rd, hc⟩
theorem Own.keep {B : Nat} {w w' : World} {v : Value} {zs : List Int} (h : Own B w v zs) (hb : Below w.heap.size w w') : Own B w' v zs := by
  rcases h with h | ⟨g, cap, hv, hB, hi, hl, hc⟩
  · exact .inl h
  · exact .inr ⟨g, cap, hv, hB, hi.keep hb hi.lt, hl, hc⟩
theorem Own.le {B B' : Nat} {w : World} {v : Value} {zs : List Int} (h : Own B w v zs) (hB : B' ≤ B) : Own B' w v zs := by
  rcases h with h | ⟨g, cap, hv, hB', hi, hl, hc⟩
  · exact .inl h
  · exact .inr ⟨g, cap, hv, by omega, hi, hl, hc⟩
theorem Own.small {B : Nat} {w : World} {v : Value} {zs : List Int} (h : Own B w v zs) : zs.length ≤ 16777216 := by
  obtain ⟨a, cap, _, _, h1⟩ := h.form
  exact h1
theorem Own.of_row {B : Nat} {w : World} {v : Value} {zs : List Int} (h : w.ownsRow B 3 1 v zs.length (zs.map (Value.int .i64))) (hl : zs.length ≤ 16777216) : Own B w v zs := by
  rcases h.2 with ⟨rfl, h0⟩ | ⟨g, cap, cur, rfl, hB, hg, hc, -, -, ht⟩
  · exact .inl ⟨rfl, List.eq_nil_of_length_eq_zero h0⟩
  · refine .inr ⟨g, cap, rfl, hB, ⟨cur.toList.drop zs.length, ?_⟩, hc, hl⟩
    rw [hg]
    congr 1
    congr 1
    rw [Nat.mul_one] at ht
    rw [← ht, List.take_append_drop]
end Go.Proofs.Ytpelnfenfeoeeaa
end

section
/-
  Chapter 1, in the model and in the program: IsNumber.
-/
namespace Go.Proofs.Ytpelnfenfeoeeaa
open Go.RowKit
theorem ret_int {k : IntKind} {a b : Int} (h : a = b) : Ending.returned (.int k a) = .returned (.int k b) := by rw [h]
theorem sIn_t (n a b : Int) (w : World) (h1 : a ≤ n) (h2 : n ≤ b) :
    Calls Try.prog 70 #[.int .i64 n, .int .i64 a, .int .i64 b] w fun e w' => e = .returned (.bool true) ∧ w = w' := by
  go_enter Try.func70, Try.ntmps70
  go_wp2
  go_ret
  exact ⟨rfl, rfl⟩
theorem sIn_f (n a b : Int) (w : World) (h : n < a ∨ b < n) :
    Calls Try.prog 70 #[.int .i64 n, .int .i64 a, .int .i64 b] w fun e w' => e = .returned (.bool false) ∧ w = w' := by
  by_cases h1 : a ≤ n
  · have h2 : decide (n ≤ b) = false := by simp; omega
    go_enter Try.func70, Try.ntmps70
    go_wp2
    go_ret
    exact ⟨rfl, rfl⟩
  · go_enter Try.func70, Try.ntmps70
    go_wp2
    go_ret
    exact ⟨rfl, rfl⟩
theorem sIsNum_t (n : Int) (w : World) (h1 : -400000000 ≤ n) (h2 : n ≤ 400000000) :
    Calls Try.prog 105 #[.int .i64 n] w fun e w' => e = .returned (.bool true) ∧ w = w' := by
  go_enter Try.func105, Try.ntmps105
  go_wp2
  go_ret
  exact ⟨rfl, rfl⟩
theorem sIsNum_f (n : Int) (w : World) (h : n < -400000000 ∨ 400000000 < n) :
    Calls Try.prog 105 #[.int .i64 n] w fun e w' => e = .returned (.bool false) ∧ w = w' := by
  rcases h with h | h
  · go_enter Try.func105, Try.ntmps105
    go_wp2
    go_ret
    exact ⟨rfl, rfl⟩
  · have h1 : -400000000 ≤ n := by omega
    have h2 : decide (n ≤ 400000000) = false := by simp; omega
    go_enter Try.func105, Try.ntmps105
    go_wp2
    go_ret
    exact ⟨rfl, rfl⟩
theorem iIsNum_t (n : Int) (w : World) (h1 : -400000000 ≤ n) (h2 : n ≤ 400000000) :
    Calls Try.prog 114 #[.int .i64 n] w fun e w' => e = .returned (.bool true) ∧ w = w' := by
  go_enter Try.func114, Try.ntmps114
  go_wp2
  go_ret
  exact ⟨rfl, rfl⟩
theorem iIsNum_f (n : Int) (w : World) (h : n < -400000000 ∨ 400000000 < n) :
    Calls Try.prog 114 #[.int .i64 n] w fun e w' => e = .returned (.bool false) ∧ w = w' := by
  rcases h with h | h
  · go_enter Try.func114, Try.ntmps114
    go_wp2
    go_ret
    exact ⟨rfl, rfl⟩
  · have h1 : -400000000 ≤ n := by omega
    have h2 : decide (n ≤ 400000000) = false := by simp; omega
    go_enter Try.func114, Try.ntmps114
    go_wp2
    go_ret
    exact ⟨rfl, rfl⟩
end Go.Proofs.Ytpelnfenfeoeeaa
end

section
/-
  The laws' own helpers on slices of ints: sizes, copies, comparisons, marks.
-/
namespace Go.Proofs.Ytpelnfenfeoeeaa
open Go.RowKit
end Go.Proofs.Ytpelnfenfeoeeaa
end

section
/-
  The laws' own helpers on matrices: sizes, copies, comparisons, marks.
-/
namespace Go.Proofs.Ytpelnfenfeoeeaa
open Go.RowKit
def NewMat (r c : Int) (zs : List Int) (w : World) (e : Ending) (w' : World) : Prop :=
  ∃ g : Nat, e = .returned (.agg #[.int .i64 r, .int .i64 c, .slice (some ⟨g, 0, none⟩) zs.length zs.length]) ∧ w.heap.size ≤ g ∧ Ints w' g zs ∧ Below w.heap.size w w'
end Go.Proofs.Ytpelnfenfeoeeaa
end

section
/-
  Plain mathematics of chapter 3: matrices as lists of cells. Nothing of a program is imported.
-/
namespace Go.Proofs.Ytpelnfenfeoeeaa
def NumP (z : Int) : Prop := -400000000 ≤ z ∧ z ≤ 400000000
instance (z : Int) : Decidable (NumP z) := by unfold NumP; exact inferInstance
def SizeP (z : Int) : Prop := 0 ≤ z ∧ z ≤ 24
instance (z : Int) : Decidable (SizeP z) := by unfold SizeP; exact inferInstance
def nums (zs : List Int) : Bool := zs.all fun z => decide (NumP z)
def isMat (r c : Int) (zs : List Int) : Bool := decide (SizeP r) && decide (SizeP c) && decide ((zs.length : Int) = r * c) && nums zs
theorem nums_true {zs : List Int} (h : ∀ j : Nat, j < zs.length → NumP (zs.getD j 0)) : nums zs = true := by
  unfold nums
  rw [List.all_eq_true]
  intro z hz
  obtain ⟨i, hi, rfl⟩ := List.getElem_of_mem hz
  have := h i hi
  simp only [List.getD, hi, List.getElem?_eq_getElem, Option.getD_some] at this
  exact decide_eq_true this
theorem nums_false {zs : List Int} {j : Nat} (hj : j < zs.length) (h : ¬ NumP (zs.getD j 0)) : nums zs = false := by
  unfold nums
  rw [List.all_eq_false]
  refine ⟨zs[j], List.getElem_mem hj, ?_⟩
  simp only [List.getD, hj, List.getElem?_eq_getElem, Option.getD_some] at h
  simpa using h
theorem nums_at {zs : List Int} (h : nums zs = true) {j : Nat} (hj : j < zs.length) : NumP (zs.getD j 0) := by
  unfold nums at h
  rw [List.all_eq_true] at h
  have := h zs[j] (List.getElem_mem hj)
  simp only [List.getD, hj, List.getElem?_eq_getElem, Option.getD_some]
  exact of_decide_eq_true this
theorem isMat_says {r c : Int} {zs : List Int} (h : isMat r c zs = true) : (0 ≤ r ∧ r ≤ 24) ∧ (0 ≤ c ∧ c ≤ 24) ∧ (zs.length : Int) = r * c ∧ nums zs = true := by
  unfold isMat at h
  simp only [Bool.and_eq_true, decide_eq_true_eq] at h
  exact ⟨h.1.1.1, h.1.1.2, h.1.2, h.2⟩
theorem mul_size (r c : Int) (hr : 0 ≤ r ∧ r ≤ 24) (hc : 0 ≤ c ∧ c ≤ 24) : 0 ≤ r * c ∧ r * c ≤ 576 := by
  constructor
  · exact Int.mul_nonneg hr.1 hc.1
  · have := Int.mul_le_mul hr.2 hc.2 hc.1 (by omega); omega
def tab (r c : Nat) (f : Nat → Nat → Int) : List Int := (List.range (r * c)).map fun p => f (p / c) (p % c)
theorem tab_length (r c : Nat) (f : Nat → Nat → Int) : (tab r c f).length = r * c := by simp [tab]
theorem idx_lt {r c i j : Nat} (hi : i < r) (hj : j < c) : i * c + j < r * c := by
  have : (i + 1) * c ≤ r * c := Nat.mul_le_mul_right c hi
  rw [Nat.add_mul, Nat.one_mul] at this; omega
theorem idx_div {c i j : Nat} (hj : j < c) : (i * c + j) / c = i := by
  rw [Nat.mul_comm, Nat.mul_add_div (by omega), Nat.div_eq_of_lt hj]; omega
theorem idx_mod {c i j : Nat} (hj : j < c) : (i * c + j) % c = j := by
  rw [Nat.mul_comm, Nat.mul_add_mod, Nat.mod_eq_of_lt hj]
theorem tab_at (r c : Nat) (f : Nat → Nat → Int) {i j : Nat} (hi : i < r) (hj : j < c) : (tab r c f).getD (i * c + j) 0 = f i j := by
  have := idx_lt hi hj
  simp [tab, List.getD, this, idx_div hj, idx_mod hj]
theorem tab_ext {r c : Nat} {f : Nat → Nat → Int} {zs : List Int} (hl : zs.length = r * c) (h : ∀ i j : Nat, i < r → j < c → zs.getD (i * c + j) 0 = f i j) : zs = tab r c f := by
  apply List.ext_getElem (by rw [hl, tab_length])
  intro p h1 h2
  have hp : p < r * c := by omega
  have hc : 0 < c := by
    rcases Nat.eq_zero_or_pos c with e | e
    · subst e; simp at hp
    · exact e
  have hi : p / c < r := Nat.div_lt_of_lt_mul (by rw [Nat.mul_comm]; exact hp)
  have := h (p / c) (p % c) hi (Nat.mod_lt p hc)
  have e : p / c * c + p % c = p := by rw [Nat.mul_comm]; exact Nat.div_add_mod p c
  rw [e] at this
  simp only [List.getD, List.getElem?_eq_getElem h1, Option.getD_some] at this
  rw [this]
  simp [tab]
theorem getD_set (zs : List Int) (k q : Nat) (z : Int) (hk : k < zs.length) : (zs.set k z).getD q 0 = if q = k then z else zs.getD q 0 := by
  unfold List.getD
  rw [List.getElem?_set]
  by_cases e : k = q
  · subst e; simp [hk]
  · rw [if_neg e, if_neg (fun h => e h.symm)]
structure MR where
  ok : Bool
  r : Int
  c : Int
  zs : List Int
def MR.no : MR := ⟨false, 0, 0, []⟩
def MR.done (r c : Int) (zs : List Int) : MR := if isMat r c zs = true then ⟨true, r, c, zs⟩ else MR.no
theorem mul_num (a b : Int) (ha : -400000000 ≤ a ∧ a ≤ 400000000) (hb : -400000000 ≤ b ∧ b ≤ 400000000) : -160000000000000000 ≤ a * b ∧ a * b ≤ 160000000000000000 := by
  have e : (a * b).natAbs = a.natAbs * b.natAbs := Int.natAbs_mul a b
  have l : a.natAbs * b.natAbs ≤ 400000000 * 400000000 := Nat.mul_le_mul (by omega) (by omega)
  omega
theorem list_eq {xs ys : List Int} {n : Nat} (hx : xs.length = n) (hy : ys.length = n) (h : ∀ j : Nat, j < n → xs.getD j 0 = ys.getD j 0) : xs = ys := by
  apply List.ext_getElem (by omega)
  intro i h1 h2
  have := h i (by omega)
  simpa [List.getD, h1, h2] using this
theorem list_getD {xs ys : List Int} (hl : xs.length = ys.length) (h : ∀ q : Nat, q < xs.length → xs.getD q 0 = ys.getD q 0) : xs = ys := list_eq (n := ys.length) hl rfl (by rw [← hl]; exact h)
end Go.Proofs.Ytpelnfenfeoeeaa
end

section
/-
  Chapter 3, in the model: IsMatrix, a matrix of zeros, one that is done.
-/
namespace Go.Proofs.Ytpelnfenfeoeeaa
open Go.RowKit
def MatRes (m : MR) (w : World) (e : Ending) (w' : World) : Prop :=
  ∃ v : Value, e = .returned (.tuple #[.agg #[.int .i64 m.r, .int .i64 m.c, v], .bool m.ok]) ∧ Own w.heap.size w' v m.zs ∧ Below w.heap.size w w'
set_option maxHeartbeats 400000 in
theorem sIsMat (r c : Int) (a : Option Addr) (cap : Nat) (zs : List Int) (w : World) (h : Rd w a zs) (hn : zs.length ≤ 16777216) :
    Calls Try.prog 53 #[.agg #[.int .i64 r, .int .i64 c, .slice a zs.length cap]] w (Gives (.bool (isMat r c zs)) w) := by
  have B0 : ∀ o, Below w.heap.size w (w.alloc o) := fun o => (Below.refl _ _).alloc (Nat.le_refl _) o
  have BH := Lib.hid B0
  have H := Lib.hid h
  clear h B0
  obtain ⟨n, hnn⟩ : ∃ n, zs.length = n := ⟨_, rfl⟩
  have HN := Lib.hid hnn
  have ED : isMat r c zs = (decide (SizeP r) && decide (SizeP c) && decide ((n : Int) = r * c) && nums zs) := by unfold isMat; rw [hnn]
  have E := Lib.hid ED
  rw [hnn] at hn ⊢
  clear hnn ED
  by_cases hr : 0 ≤ r ∧ r ≤ 24
  · by_cases hc : 0 ≤ c ∧ c ≤ 24
    · obtain ⟨m1, m2⟩ := mul_size r c hr hc
      by_cases hl : (n : Int) = r * c
      · have l1 : ((n : Int) != r * c) = false := by simpa using hl
        have l2 : ((n : Int) == r * c) = true := by simpa using hl
        have E2 : Hid (isMat r c zs = nums zs) := by
          show isMat r c zs = nums zs
          rw [E.out, show decide (SizeP r) = true from decide_eq_true hr, show decide (SizeP c) = true from decide_eq_true hc, show decide ((n : Int) = r * c) = true from decide_eq_true hl]; rfl
        clear hl
        obtain ⟨r1, r2⟩ := hr
        obtain ⟨c1, c2⟩ := hc
        go_enter Try.func53, Try.ntmps53
        go_wp2_with (go_at_call 70; refine (sIn_t _ _ _ _ (by omega) (by omega)).mono ?_; rintro e w' ⟨rfl, rfl⟩)
        go_loop [3] (fun i => ∃ k : Nat, i = .int .i64 k ∧ k ≤ n ∧ ∀ j : Nat, j < k → NumP (zs.getD j 0)) (fun i => n - (intOf i).toNat)
        case atStart => exact ⟨0, rfl, by omega, fun j hj => absurd hj (by omega)⟩
        case round =>
          obtain ⟨k, rfl, hk, hall⟩ := hrel
          have HA := Lib.hid hall
          clear hall
          by_cases hlt : k < n
          · obtain ⟨b, o, rfl, hcell⟩ := (H.out.below (BH.out (.cells #[.int .i64 r, .int .i64 c, .slice a n cap] 26))) k (by rw [HN.out]; exact hlt)
            obtain ⟨z, hz⟩ : ∃ z, zs.getD k 0 = z := ⟨_, rfl⟩
            rw [hz] at hcell
            have Z := Lib.hid hz
            clear hz
            by_cases hnum : -400000000 ≤ z ∧ z ≤ 400000000
            · go_wp2_with fail
              refine (sIsNum_t z _ hnum.1 hnum.2).mono ?_
              rintro e w' ⟨rfl, rfl⟩
              go_wp2_with fail
              go_round
              case rel =>
                refine ⟨k + 1, by go_num, by omega, fun j hj => ?_⟩
                rcases Nat.lt_or_ge j k with h' | h'
                · exact HA.out j h'
                · obtain rfl : j = k := by omega
                  rw [Z.out]; exact hnum
              case measure => simp [intOf]; omega
            · have E3 : Hid (isMat r c zs = false) := by
                show isMat r c zs = false
                rw [E2.out]; exact nums_false (by rw [HN.out]; exact hlt) (by rw [Z.out]; exact hnum)
              have hnum' : z < -400000000 ∨ 400000000 < z := by omega
              clear hnum
              go_wp2_with fail
              refine (sIsNum_f z _ hnum').mono ?_
              rintro e w' ⟨rfl, rfl⟩
              go_wp2_with fail
              go_ret
              exact ⟨by rw [E3.out]; rfl, BH.out _⟩
          · have hkn : k = n := by omega
            subst hkn
            have E3 : Hid (isMat r c zs = true) := by
              show isMat r c zs = true
              rw [E2.out]; exact nums_true (fun j hj => HA.out j (by rw [HN.out] at hj; exact hj))
            go_wp2_with fail
            go_ret
            exact ⟨by rw [E3.out]; rfl, BH.out _⟩
      · have l1 : ((n : Int) != r * c) = true := by simpa using hl
        have l2 : ((n : Int) == r * c) = false := by simpa using hl
        have E2 : Hid (isMat r c zs = false) := by
          show isMat r c zs = false
          rw [E.out, show decide ((n : Int) = r * c) = false from decide_eq_false hl]; simp
        clear hl
        obtain ⟨r1, r2⟩ := hr
        obtain ⟨c1, c2⟩ := hc
        go_enter Try.func53, Try.ntmps53
        go_wp2_with (go_at_call 70; refine (sIn_t _ _ _ _ (by omega) (by omega)).mono ?_; rintro e w' ⟨rfl, rfl⟩)
        go_ret
        exact ⟨by rw [E2.out]; rfl, BH.out _⟩
    · have E2 : Hid (isMat r c zs = false) := by
        show isMat r c zs = false
        rw [E.out, show decide (SizeP c) = false from decide_eq_false hc]; simp
      have hc' : c < 0 ∨ 24 < c := by omega
      clear hc
      go_enter Try.func53, Try.ntmps53
      go_wp2_with fail
      refine (sIn_t r 0 24 _ hr.1 hr.2).mono ?_
      rintro e w' ⟨rfl, rfl⟩
      go_wp2_with fail
      refine (sIn_f c 0 24 _ hc').mono ?_
      rintro e w' ⟨rfl, rfl⟩
      go_wp2_with fail
      go_ret
      exact ⟨by rw [E2.out]; rfl, BH.out _⟩
  · have E2 : Hid (isMat r c zs = false) := by
      show isMat r c zs = false
      rw [E.out, show decide (SizeP r) = false from decide_eq_false hr]; simp
    have hr' : r < 0 ∨ 24 < r := by omega
    clear hr
    go_enter Try.func53, Try.ntmps53
    go_wp2_with fail
    refine (sIn_f r 0 24 _ hr').mono ?_
    rintro e w' ⟨rfl, rfl⟩
    go_wp2_with fail
    go_ret
    exact ⟨by rw [E2.out]; rfl, BH.out _⟩
end Go.Proofs.Ytpelnfenfeoeeaa
end

section
/-
  Memory in a law's walk: vectors that lie in known stretches of blocks, and what changes outside such a stretch: nothing.
-/
namespace Go.Proofs.Ytpelnfenfeoeeaa
open Go.RowKit
def In (B T : Nat) (w : World) (v : Value) (zs : List Int) : Prop :=
  (v = .slice none 0 0 ∧ zs = []) ∨ ∃ (g cap : Nat), v = .slice (some ⟨g, 0, none⟩) zs.length cap ∧ B ≤ g ∧ g < T ∧ Ints w g zs ∧ zs.length ≤ cap ∧ zs.length ≤ 16777216
theorem Own.inn {B : Nat} {w : World} {v : Value} {zs : List Int} (h : Own B w v zs) : In B w.heap.size w v zs := by
  rcases h with h | ⟨g, cap, hv, hB, hi, hl, hc⟩
  · exact .inl h
  · exact .inr ⟨g, cap, hv, hB, hi.lt, hi, hl, hc⟩
theorem In.keep {B T : Nat} {w w' : World} {v : Value} {zs : List Int} (h : In B T w v zs) (hb : Below w.heap.size w w') : In B T w' v zs := by
  rcases h with h | ⟨g, cap, hv, h1, h2, hi, hl, hk⟩
  · exact .inl h
  · exact .inr ⟨g, cap, hv, h1, h2, hi.keep hb hi.lt, hl, hk⟩
theorem In.old {B T : Nat} {w : World} {v : Value} {zs : List Int} (h : In B T w v zs) (o : Obj) : In B T (w.alloc o) v zs := h.keep ((Below.refl _ _).alloc (Nat.le_refl _) o)
theorem In.wide {B T B' T' : Nat} {w : World} {v : Value} {zs : List Int} (h : In B T w v zs) (hB : B' ≤ B) (hT : T ≤ T') : In B' T' w v zs := by
  rcases h with h | ⟨g, cap, hv, h1, h2, hi, hl, hk⟩
  · exact .inl h
  · exact .inr ⟨g, cap, hv, by omega, by omega, hi, hl, hk⟩
theorem In.far {B T : Nat} {w : World} {v : Value} {zs : List Int} (h : In B T w v zs) {a : Addr} (ha : a.block < B ∨ T ≤ a.block) (u : Value) : In B T (w.setCell a u) v zs := by
  rcases h with h | ⟨g, cap, hv, h1, h2, hi, hl, hk⟩
  · exact .inl h
  · exact .inr ⟨g, cap, hv, h1, h2, hi.far (by omega) u, hl, hk⟩
theorem six {W w' : World} {b c : Nat} {t t' : TypeId} {p q r x y z : Value} (h0 : Blk3 W b t p q r) (h1 : Blk3 W c t' x y z) (hb : Below W.heap.size W w') :
    w'.cell? ⟨b, 0, none⟩ = some p ∧ w'.cell? ⟨b, 1, none⟩ = some q ∧ w'.cell? ⟨b, 2, none⟩ = some r ∧ w'.cell? ⟨c, 0, none⟩ = some x ∧ w'.cell? ⟨c, 1, none⟩ = some y ∧ w'.cell? ⟨c, 2, none⟩ = some z :=
  ⟨(h0.keep hb h0.lt).cell0, (h0.keep hb h0.lt).cell1, (h0.keep hb h0.lt).cell2, (h1.keep hb h1.lt).cell0, (h1.keep hb h1.lt).cell1, (h1.keep hb h1.lt).cell2⟩
theorem stepB {w w1 w2 : World} (h : Below w.heap.size w w1) (hb : Below w1.heap.size w1 w2) : Below w.heap.size w w2 := h.trans (hb.mono h.size)
theorem Blk3.step {w w' : World} {b : Nat} {t : TypeId} {p q r : Value} (h : Blk3 w b t p q r) (hb : Below w.heap.size w w') : Blk3 w' b t p q r := h.keep hb h.lt
end Go.Proofs.Ytpelnfenfeoeeaa
end

section
/-
  Frames: of the blocks that were there only those of a given kind may have changed; rows of ints with their capacity. No function of the program is named.
-/
namespace Go.Proofs.Ytpelnfenfeoeeaa
open Go.RowKit
structure FrS (p : Nat → Prop) (w w' : World) : Prop where
  os : w'.os = w.os
  tape : w'.tape = w.tape
  output : w'.output = w.output
  size : w.heap.size ≤ w'.heap.size
  block : ∀ k, k < w.heap.size → ¬ p k → w'.heap[k]? = w.heap[k]?
theorem FrS.refl (p : Nat → Prop) (w : World) : FrS p w w := ⟨rfl, rfl, rfl, Nat.le_refl _, fun _ _ _ => rfl⟩
theorem FrS.trans {p : Nat → Prop} {w w1 w2 : World} (h : FrS p w w1) (h' : FrS p w1 w2) : FrS p w w2 :=
  ⟨h'.os.trans h.os, h'.tape.trans h.tape, h'.output.trans h.output, Nat.le_trans h.size h'.size, fun k hk hp => (h'.block k (Nat.lt_of_lt_of_le hk h.size) hp).trans (h.block k hk hp)⟩
theorem FrS.of_one {p : Nat → Prop} {w w' : World} {g : Nat} (h : w.grownBy w' (some g)) (hp : p g) : FrS p w w' :=
  ⟨h.os, h.tape, h.output, h.size, fun k hk hn => h.block k hk (by rintro e; injection e with e; subst e; exact hn hp)⟩
theorem FrS.of_below {p : Nat → Prop} {w w' : World} (h : Below w.heap.size w w') : FrS p w w' := ⟨h.os, h.tape, h.output, h.size, fun k hk _ => h.block k hk⟩
theorem FrS.drew {p : Nat → Prop} {w w' : World} (h : FrS p w w') : FrS p w w'.drew := ⟨h.os, h.tape, h.output, h.size, h.block⟩
theorem FrS.set {p : Nat → Prop} {w w' : World} (h : FrS p w w') {a : Addr} (ha : p a.block ∨ w.heap.size ≤ a.block) (u : Value) : FrS p w (w'.setCell a u) :=
  ⟨h.os, h.tape, h.output, by simpa [World.setCell] using h.size, fun k hk hp => (Below.heap_setCell w' a u k (by rintro rfl; rcases ha with ha | ha; exact hp ha; omega)).trans (h.block k hk hp)⟩
theorem FrS.alloc {p : Nat → Prop} {w w' : World} (h : FrS p w w') (o : Obj) : FrS p w (w'.alloc o) := h.trans (FrS.of_below ((Below.refl _ _).alloc (Nat.le_refl _) o))
theorem FrS.one {w w' : World} {g : Nat} {p : Nat → Prop} (h : FrS p w w') (hp : ∀ k, k < w.heap.size → p k → k = g) : w.grownBy w' (some g) :=
  ⟨h.os, h.tape, h.output, h.size, fun k hk hn => h.block k hk (fun hpk => hn (by rw [hp k hk hpk]))⟩
theorem FrS.below {w w' : World} {B : Nat} {p : Nat → Prop} (h : FrS p w w') (hp : ∀ k, p k → B ≤ k) (hB : B ≤ w.heap.size) : Below B w w' :=
  ⟨h.os, h.tape, h.output, h.size, fun k hk => h.block k (by omega) (fun hpk => by have := hp k hpk; omega)⟩
theorem FrS.mono {p q : Nat → Prop} {w w' : World} (h : FrS p w w') (hq : ∀ k, p k → q k) : FrS q w w' := ⟨h.os, h.tape, h.output, h.size, fun k hk hn => h.block k hk (fun hp => hn (hq k hp))⟩
theorem Blk3.frs {w w' : World} {b : Nat} {t : TypeId} {x y z : Value} {p : Nat → Prop} (h : Blk3 w b t x y z) (hf : FrS p w w') (hb : ¬ p b) : Blk3 w' b t x y z := (hf.block b h.lt hb).trans h
def IntsC (w : World) (g cap : Nat) (zs : List Int) : Prop := cap ≤ maxLen ∧ ∃ rest : List Value, zs.length + rest.length = cap ∧ w.heap[g]? = some (.cells (zs.map (Value.int .i64) ++ rest).toArray 3 (0, 0))
theorem IntsC.ints {w : World} {g cap : Nat} {zs : List Int} (h : IntsC w g cap zs) : Ints w g zs := by
  obtain ⟨_, rest, _, h⟩ := h
  exact ⟨rest, h⟩
theorem IntsC.lt {w : World} {g cap : Nat} {zs : List Int} (h : IntsC w g cap zs) : g < w.heap.size := h.ints.lt
theorem IntsC.le {w : World} {g cap : Nat} {zs : List Int} (h : IntsC w g cap zs) : zs.length ≤ cap := by
  obtain ⟨_, rest, h, _⟩ := h
  omega
theorem IntsC.move {w w' : World} {g cap : Nat} {zs : List Int} (h : IntsC w g cap zs) (e : w'.heap[g]? = w.heap[g]?) : IntsC w' g cap zs := by
  obtain ⟨h0, rest, h1, h2⟩ := h
  exact ⟨h0, rest, h1, e.trans h2⟩
theorem IntsC.frs {w w' : World} {g cap : Nat} {zs : List Int} {p : Nat → Prop} (h : IntsC w g cap zs) (hf : FrS p w w') (hb : ¬ p g) : IntsC w' g cap zs := h.move (hf.block g h.lt hb)
theorem IntsC.drew {w : World} {g cap : Nat} {zs : List Int} (h : IntsC w g cap zs) : IntsC w.drew g cap zs := h
theorem IntsC.old {w : World} {g cap : Nat} {zs : List Int} (h : IntsC w g cap zs) (o : Obj) : IntsC (w.alloc o) g cap zs := h.move (Below.heap_alloc w o g h.lt)
theorem IntsC.far {w : World} {g cap : Nat} {zs : List Int} (h : IntsC w g cap zs) {a : Addr} (ha : g ≠ a.block) (u : Value) : IntsC (w.setCell a u) g cap zs := h.move (Below.heap_setCell w a u g ha)
theorem IntsC.set {w : World} {g cap : Nat} {zs : List Int} (h : IntsC w g cap zs) (i : Nat) (hi : i < zs.length) (z : Int) : IntsC (w.setCell ⟨g, i, none⟩ (.int .i64 z)) g cap (zs.set i z) := by
  obtain ⟨h0, rest, h1, h2⟩ := h
  refine ⟨h0, rest, by simpa using h1, ?_⟩
  simp [World.setCell, Array.getElem?_modify, h2, hi]
theorem IntsC.made {w : World} {g : Nat} (n : Nat) (hn : n ≤ 16777216) (hg : g = w.heap.size) : IntsC (w.alloc (.cells (madeCells #[.int .i64 0] n) 3)) g n (List.replicate n 0) := by
  subst hg
  refine ⟨by unfold maxLen; omega, [], by simp, ?_⟩
  rw [madeCells_ints, List.append_nil]
  exact heap_alloc_new w _
theorem IntsC.row {w : World} {B g cap : Nat} {zs : List Int} (h : IntsC w g cap zs) (hB : B ≤ g) : w.ownsRow B 3 1 (.slice (some ⟨g, 0, none⟩) zs.length cap) zs.length (zs.map (Value.int .i64)) := by
  obtain ⟨h0, rest, h1, h2⟩ := h
  refine ⟨by simp, .inr ⟨g, cap, _, rfl, hB, h2, by omega, h0, by simp; omega, by simp⟩⟩
def OwnC (B : Nat) (w : World) (v : Value) (zs : List Int) : Prop := (v = .slice none 0 0 ∧ zs = []) ∨ ∃ g cap : Nat, v = .slice (some ⟨g, 0, none⟩) zs.length cap ∧ B ≤ g ∧ IntsC w g cap zs
theorem OwnC.of_row {B : Nat} {w : World} {v : Value} {zs : List Int} (h : w.ownsRow B 3 1 v zs.length (zs.map (Value.int .i64))) : OwnC B w v zs := by
  rcases h.2 with ⟨rfl, h0⟩ | ⟨g, cap, cur, rfl, hB, hg, hc, hm, hs, ht⟩
  · exact .inl ⟨rfl, List.eq_nil_of_length_eq_zero h0⟩
  · refine .inr ⟨g, cap, rfl, hB, hm, cur.toList.drop zs.length, ?_, ?_⟩
    · have : cur.toList.length = cap := by rw [Array.length_toList, hs, Nat.mul_one]
      rw [List.length_drop]; omega
    · rw [hg]
      congr 2
      rw [Nat.mul_one] at ht
      rw [← ht, List.take_append_drop]
theorem OwnC.own {B : Nat} {w : World} {v : Value} {zs : List Int} (h : OwnC B w v zs) (hl : zs.length ≤ 16777216) : Own B w v zs := by
  rcases h with h | ⟨g, cap, hv, hB, hi⟩
  · exact .inl h
  · exact .inr ⟨g, cap, hv, hB, hi.ints, hi.le, hl⟩
theorem OwnC.frs {B : Nat} {w w' : World} {v : Value} {zs : List Int} {p : Nat → Prop} (h : OwnC B w v zs) (hf : FrS p w w') (hp : ∀ k, B ≤ k → ¬ p k) : OwnC B w' v zs := by
  rcases h with h | ⟨g, cap, hv, hB, hi⟩
  · exact .inl h
  · exact .inr ⟨g, cap, hv, hB, hi.frs hf (hp g hB)⟩
end Go.Proofs.Ytpelnfenfeoeeaa
end

section
/-
  The drawing of inputs (chapter 1 of the model): the cursor over a code's bytes, and what each drawing function returns: a number in its range, with nothing written but the cursor.
-/
namespace Go.Proofs.Ytpelnfenfeoeeaa
open Go.RowKit
def Bytes (w : World) (cb : Nat) (a : Option Addr) (len : Nat) : Prop :=
  ∀ k : Nat, k < len → ∃ (b o : Nat) (z : Int), a = some ⟨b, o, none⟩ ∧ w.cell? ⟨b, o + k, none⟩ = some (.int .u8 z) ∧ 0 ≤ z ∧ z ≤ 255 ∧ b < cb
def Cur (w : World) (cb : Nat) : Prop :=
  ∃ (a : Option Addr) (len cap i : Nat) (h : Int), Blk3 w cb 123 (.slice a len cap) (.int .i64 i) (.int .i64 h) ∧ i ≤ len ∧ len ≤ maxLen ∧ Bytes w cb a len
def CurInt (P : Int → Prop) (cb : Nat) (w : World) (e : Ending) (w' : World) : Prop := ∃ r : Int, P r ∧ e = .returned (.int .i64 r) ∧ Cur w' cb ∧ w.grownBy w' (some cb)
theorem Bytes.one {w w' : World} {cb : Nat} {a : Option Addr} {len : Nat} (h : Bytes w cb a len) (hg : w.grownBy w' (some cb)) : Bytes w' cb a len := fun k hk => by
  obtain ⟨b, o, z, ha, hx, h0, h1, hne⟩ := h k hk
  exact ⟨b, o, z, ha, hg.cell hx (by simp; omega), h0, h1, hne⟩
theorem and255 (x : Int) : 0 ≤ bits .and .i64 x 255 ∧ bits .and .i64 x 255 ≤ 255 := by
  have h : (BitVec.ofInt 64 x &&& BitVec.ofInt 64 255).toNat ≤ 255 := by rw [BitVec.toNat_and]; exact Nat.le_trans Nat.and_le_right (by decide)
  show 0 ≤ IntKind.i64.wrap ((BitVec.ofInt 64 x &&& BitVec.ofInt 64 255).toNat : Int) ∧ IntKind.i64.wrap ((BitVec.ofInt 64 x &&& BitVec.ofInt 64 255).toNat : Int) ≤ 255
  rw [IntKind.wrap_i64]
  omega
theorem curInt_end {P : Int → Prop} {w W : World} {cb len cap i : Nat} {a : Option Addr} {h r : Int} (hr : P r) (hb : Blk3 W cb 123 (.slice a len cap) (.int .i64 i) (.int .i64 h))
    (hi : i ≤ len) (hl : len ≤ maxLen) (hby : Bytes w cb a len) (hg : w.grownBy W (some cb)) : CurInt P cb w (.returned (.int .i64 r)) W :=
  ⟨r, hr, rfl, ⟨a, len, cap, i, h, hb, hi, hl, hby.one hg⟩, hg⟩
set_option maxHeartbeats 400000 in
theorem l1Byte (w : World) (cb : Nat) (hc : Cur w cb) :
    Calls Try.prog 157 #[.pointer (some ⟨cb, 0, none⟩)] w (CurInt (fun r => 0 ≤ r ∧ r ≤ 255) cb w) := by
  obtain ⟨a, len, cap, i, h, hb, hi, hl, hby⟩ := hc
  obtain ⟨c0, c1, c2, f0, f1, f2⟩ := hb.all
  have HB := Lib.hid hb
  have HL := Lib.hid hl
  have HY := Lib.hid hby
  unfold maxLen at hl
  by_cases hlt : i < len
  · obtain ⟨xb, xo, z, rfl, hx, hz0, hz1, hne⟩ := hby i hlt
    have hne' : cb ≠ xb := by omega
    clear hb hby
    go_enter Try.func157, Try.ntmps157
    go_wp2_with (fail)
    generalize wrap64 (wrap64 (h * 6364136223846793005) + 1442695040888963407) = h'
    go_quiet (fail)
    go_wp2_with (fail)
    go_quiet (fail)
    go_wp2_with (fail)
    go_quiet (fail)
    go_wp2_with (fail)
    go_ret
    refine curInt_end (cap := cap) (i := i + 1) (h := h') (and255 _) ?_ (by omega) HL.out HY.out ?_
    · exact (((HB.out.set2 _).drewN _).set1 _)
    · repeat (first | exact World.grownBy.refl _ _ | refine grown_set_one ?_ (by exact rfl) _ | refine grown_drewN_one ?_ _)
  · clear hb hby
    have hlt' : decide (i < len) = false := by simpa using hlt
    go_enter Try.func157, Try.ntmps157
    go_wp2_with (fail)
    generalize wrap64 (wrap64 (h * 6364136223846793005) + 1442695040888963407) = h'
    go_quiet (fail)
    go_wp2_with (fail)
    go_quiet (fail)
    go_wp2_with (fail)
    go_ret
    refine curInt_end (cap := cap) (i := i) (h := h') (and255 _) ?_ (by omega) HL.out HY.out ?_
    · first | exact HB.out.set2 _ | exact (HB.out.set2 _).drewN _
    · repeat (first | exact World.grownBy.refl _ _ | refine grown_set_one ?_ (by exact rfl) _ | refine grown_drewN_one ?_ _)
def CurBool (cb : Nat) (w : World) (e : Ending) (w' : World) : Prop := ∃ r : Bool, e = .returned (.bool r) ∧ Cur w' cb ∧ w.grownBy w' (some cb)
theorem mod_range (x n : Int) (hn : 0 < n) : 0 ≤ x % n ∧ x % n < n := ⟨Int.emod_nonneg x (by omega), Int.emod_lt_of_pos x hn⟩
set_option maxHeartbeats 400000 in
theorem l1Below_small (w : World) (cb : Nat) (n : Int) (hc : Cur w cb) (h1 : 0 < n) (h2 : n ≤ 256) :
    Calls Try.prog 129 #[.pointer (some ⟨cb, 0, none⟩), .int .i64 n] w (CurInt (fun r => 0 ≤ r ∧ r < n) cb w) := by
  have HC := Lib.hid hc
  clear hc
  have hn : (n == 0) = false := by simp; omega
  go_enter Try.func129, Try.ntmps129
  go_wp2_with (fail)
  refine (l1Byte w cb HC.out).mono ?_
  rintro e w1 ⟨r, ⟨r0, r1⟩, rfl, hc1, hg1⟩
  have C1 := Lib.hid hc1
  have G1 := Lib.hid hg1
  clear hc1 hg1
  go_wp2_with (fail)
  go_ret
  exact ⟨r % n, mod_range r n h1, rfl, C1.out, G1.out⟩
set_option maxHeartbeats 400000 in
theorem l1Below_large (w : World) (cb : Nat) (n : Int) (hc : Cur w cb) (h2 : 256 < n) :
    Calls Try.prog 129 #[.pointer (some ⟨cb, 0, none⟩), .int .i64 n] w (CurInt (fun r => 0 ≤ r ∧ r < n) cb w) := by
  have HC := Lib.hid hc
  clear hc
  have hn : (n == 0) = false := by simp; omega
  go_enter Try.func129, Try.ntmps129
  go_wp2_with (fail)
  refine (l1Byte w cb HC.out).mono ?_
  rintro e w1 ⟨r, ⟨r0, r1⟩, rfl, hc1, hg1⟩
  have C1 := Lib.hid hc1
  have G1 := Lib.hid hg1
  clear hc1 hg1
  go_wp2_with (fail)
  refine (l1Byte w1 cb C1.out).mono ?_
  rintro e w2 ⟨s, ⟨s0, s1⟩, rfl, hc2, hg2⟩
  have C2 := Lib.hid hc2
  have G2 := Lib.hid (G1.out.trans hg2)
  clear hc2 hg2
  go_wp2_with (fail)
  refine (l1Byte w2 cb C2.out).mono ?_
  rintro e w3 ⟨t, ⟨t0, t1⟩, rfl, hc3, hg3⟩
  have C3 := Lib.hid hc3
  have G3 := Lib.hid (G2.out.trans hg3)
  clear hc3 hg3
  go_wp2_with (fail)
  refine (l1Byte w3 cb C3.out).mono ?_
  rintro e w4 ⟨u, ⟨u0, u1⟩, rfl, hc4, hg4⟩
  have C4 := Lib.hid hc4
  have G4 := Lib.hid (G3.out.trans hg4)
  clear hc4 hg4
  go_wp2_with (fail)
  go_ret
  exact ⟨_, mod_range (r * 16777216 + s * 65536 + t * 256 + u) n (by omega), rfl, C4.out, G4.out⟩
theorem l1Below (w : World) (cb : Nat) (n : Int) (hc : Cur w cb) (h1 : 0 < n) :
    Calls Try.prog 129 #[.pointer (some ⟨cb, 0, none⟩), .int .i64 n] w (CurInt (fun r => 0 ≤ r ∧ r < n) cb w) := by
  rcases Int.lt_or_le 256 n with h | h
  · exact l1Below_large w cb n hc h
  · exact l1Below_small w cb n hc h1 h
set_option maxHeartbeats 400000 in
theorem l1Once (w : World) (cb : Nat) (n : Int) (hc : Cur w cb) (h1 : 0 < n) :
    Calls Try.prog 131 #[.pointer (some ⟨cb, 0, none⟩), .int .i64 n] w (CurBool cb w) := by
  have HC := Lib.hid hc
  clear hc
  go_enter Try.func131, Try.ntmps131
  go_wp2_with (fail)
  refine (l1Below w cb n HC.out h1).mono ?_
  rintro e w1 ⟨r, ⟨r0, r1⟩, rfl, hc1, hg1⟩
  have C1 := Lib.hid hc1
  have G1 := Lib.hid hg1
  clear hc1 hg1
  go_wp2_with (fail)
  go_ret
  exact ⟨r == 0, rfl, C1.out, G1.out⟩
def IntList (P : Int → Prop) (w : World) (lb n : Nat) : Prop := ∀ k : Nat, k < n → ∃ z : Int, w.cell? ⟨lb, k, none⟩ = some (.int .i64 z) ∧ P z
theorem IntList.one {P : Int → Prop} {w w' : World} {lb n cb : Nat} (h : IntList P w lb n) (hg : w.grownBy w' (some cb)) (hne : lb ≠ cb) : IntList P w' lb n := fun k hk => by
  obtain ⟨z, hz, hp⟩ := h k hk
  exact ⟨z, hg.cell hz (by simpa using hne), hp⟩
set_option maxHeartbeats 400000 in
theorem l1PickInt (P : Int → Prop) (w : World) (cb lb n : Nat) (hc : Cur w cb) (hl : IntList P w lb n) (h1 : 0 < n) (h2 : n ≤ 1000000) (hne : lb ≠ cb) :
    Calls Try.prog 130 #[.pointer (some ⟨cb, 0, none⟩), .slice (some ⟨lb, 0, none⟩) n n] w (CurInt P cb w) := by
  have HC := Lib.hid hc
  have HL := Lib.hid hl
  clear hc hl
  go_enter Try.func130, Try.ntmps130
  go_wp2_with (fail)
  refine (l1Below w cb n HC.out (by omega)).mono ?_
  rintro e w1 ⟨r, ⟨r0, r1⟩, rfl, hc1, hg1⟩
  obtain ⟨k, rfl⟩ := Int.eq_ofNat_of_zero_le r0
  obtain ⟨z, hz, hp⟩ := (HL.out.one hg1 hne) k (by omega)
  have C1 := Lib.hid hc1
  have G1 := Lib.hid hg1
  have HP := Lib.hid hp
  have hk : k < n := by omega
  clear hc1 hg1 hp
  go_wp2_with (fail)
  go_ret
  exact ⟨z, HP.out, rfl, C1.out, G1.out⟩
theorem IntList.new {P : Int → Prop} (zs : List Int) (hz : ∀ z, z ∈ zs → P z) (w : World) (t : TypeId) : IntList P (w.alloc (.cells (zs.map (Value.int .i64)).toArray t)) w.heap.size zs.length := fun k hk => by
  refine ⟨zs[k], ?_, hz _ (List.getElem_mem hk)⟩
  have e : (w.alloc (.cells (zs.map (Value.int .i64)).toArray t)).heap[w.heap.size]? = some (.cells (zs.map (Value.int .i64)).toArray t) := heap_alloc_new w _
  unfold World.cell?
  rw [e]
  simp [hk]
theorem Cur.lt {w : World} {cb : Nat} (h : Cur w cb) : cb < w.heap.size := by
  obtain ⟨a, len, cap, i, h, hb, _⟩ := h
  exact hb.lt
theorem Cur.grown {w w' : World} {cb : Nat} {row : Option Nat} (hc : Cur w cb) (hg : w.grownBy w' row) (hr : ∀ j, row = some j → w.heap.size ≤ j) : Cur w' cb := by
  obtain ⟨a, len, cap, i, h, hb, hi, hl, hby⟩ := hc
  refine ⟨a, len, cap, i, h, (hg.block cb hb.lt (fun e => by have := hr cb e.symm; have := hb.lt; omega)).trans hb, hi, hl, fun k hk => ?_⟩
  obtain ⟨b, o, z, ha, hx, h0, h1, hne⟩ := hby k hk
  exact ⟨b, o, z, ha, hg.cell hx (fun e => by have := hr b e.symm; have := World.block_lt_of_cell? w _ hx; simp at this; omega), h0, h1, hne⟩
theorem Cur.setFar {w : World} {cb : Nat} (hc : Cur w cb) {x : Addr} (hx : cb < x.block) (u : Value) : Cur (w.setCell x u) cb := by
  obtain ⟨a, len, cap, i, h, hb, hi, hl, hby⟩ := hc
  refine ⟨a, len, cap, i, h, hb.far (by omega) u, hi, hl, fun k hk => ?_⟩
  obtain ⟨b, o, z, ha, hcell, h0, h1, hne⟩ := hby k hk
  exact ⟨b, o, z, ha, (((Below.refl x.block w).setCell (Nat.le_refl _) u).cell (p := ⟨b, o + k, none⟩) (by show b < x.block; omega)).trans hcell, h0, h1, hne⟩
theorem Cur.alloc {w : World} {cb : Nat} (hc : Cur w cb) (o : Obj) : Cur (w.alloc o) cb := hc.grown (World.grownBy_alloc w o none) (by simp)
set_option maxHeartbeats 400000 in
theorem l1Odd (w : World) (cb : Nat) (hc : Cur w cb) :
    Calls Try.prog 158 #[.pointer (some ⟨cb, 0, none⟩)] w (CurInt (fun r => -9223372036854775808 ≤ r ∧ r ≤ 9223372036854775807) cb w) := by
  have HC := Lib.hid hc
  have hlt := hc.lt
  clear hc
  go_enter Try.func158, Try.ntmps158
  go_wp2_with (fail)
  refine (l1PickInt (fun r => -9223372036854775808 ≤ r ∧ r ≤ 9223372036854775807) _ cb w.heap.size 11 (HC.out.alloc _) ?_ (by omega) (by omega) (by omega)).mono ?_
  · exact IntList.new [0, 1, -1, 2, 400000000, -400000000, 400000001, -400000001, 399999999, 9223372036854775807, -9223372036854775808] (by decide) w 3
  rintro e w1 ⟨r, hr, rfl, hc1, hg1⟩
  have C1 := Lib.hid hc1
  have G1 := Lib.hid hg1
  have R := Lib.hid hr
  clear hc1 hg1 hr
  go_wp2_with (fail)
  go_ret
  exact ⟨r, R.out, rfl, C1.out, (World.grownBy_alloc w _ _).trans G1.out⟩
def CodeIn (w : World) (a : Option Addr) (len : Nat) : Prop :=
  len ≤ maxLen ∧ ∀ k : Nat, k < len → ∃ (b o : Nat) (z : Int), a = some ⟨b, o, none⟩ ∧ w.cell? ⟨b, o + k, none⟩ = some (.int .u8 z) ∧ 0 ≤ z ∧ z ≤ 255
theorem CodeIn.below {w w' : World} {a : Option Addr} {len : Nat} (h : CodeIn w a len) (hb : Below w.heap.size w w') : CodeIn w' a len :=
  ⟨h.1, fun k hk => by
    obtain ⟨b, o, z, ha, hx, h0, h1⟩ := h.2 k hk
    exact ⟨b, o, z, ha, (hb.cell (World.block_lt_of_cell? w _ hx)).trans hx, h0, h1⟩⟩
def CurNew (w : World) (e : Ending) (w' : World) : Prop := ∃ cb : Nat, e = .returned (.pointer (some ⟨cb, 0, none⟩)) ∧ w.heap.size ≤ cb ∧ Cur w' cb ∧ Below w.heap.size w w'
set_option maxHeartbeats 400000 in
theorem l1New (w : World) (a : Option Addr) (len cap : Nat) (hc : CodeIn w a len) :
    Calls Try.prog 81 #[.slice a len cap] w (CurNew w) := by
  have hl := hc.1
  have HC := Lib.hid hc
  clear hc
  unfold maxLen at hl
  go_enter Try.func81, Try.ntmps81
  go_wp2_with (fail)
  generalize wrap64 (10101 + (len : Int)) = q0
  go_loop [3, 4] (fun t s => ∃ (q : Int) (k : Nat), t = .int .i64 q ∧ s = .int .i64 k ∧ k ≤ len ∧ k ≤ 4000) (fun _ s => (len - intOf s).toNat)
  case atStart => exact ⟨q0, 0, rfl, rfl, by omega, by omega⟩
  case round =>
    obtain ⟨q, k, rfl, rfl, hk, hk2⟩ := hrel
    by_cases h1 : k < len
    · by_cases h2 : k < 4000
      · obtain ⟨b, o, z, ha, hx, hz0, hz1⟩ := HC.out.2 k h1
        subst ha
        have h3 : (k : Int) < 4000 := by omega
        have H2 := Lib.hid h2
        have H4 := Lib.hid hk2
        clear h2 hk2
        go_wp2_with (fail)
        go_round
        case rel => exact ⟨_, k + 1, rfl, by go_num, by omega, by have := H2.out; omega⟩
        case measure => simp [intOf]; omega
      · have h3 : decide ((k : Int) < 4000) = false := by simp; omega
        clear h2 hk2
        go_wp2_with (fail)
        go_ret
        refine ⟨w.heap.size, rfl, Nat.le_refl _, ⟨a, len, cap, 0, q, Blk3.new _ _ _ _ _, by omega, HC.out.1, fun j hj => ?_⟩, (Below.refl _ _).alloc (Nat.le_refl _) _⟩
        obtain ⟨b, o, z, ha, hx, hz0, hz1⟩ := HC.out.2 j hj
        have hlt := World.block_lt_of_cell? w _ hx
        exact ⟨b, o, z, ha, (World.grownBy_alloc w _ none).cell hx (by simp), hz0, hz1, by simp at hlt; omega⟩
    · have h1' : decide (k < len) = false := by simpa using h1
      go_wp2_with (fail)
      go_ret
      refine ⟨w.heap.size, rfl, Nat.le_refl _, ⟨a, len, cap, 0, q, Blk3.new _ _ _ _ _, by omega, HC.out.1, fun j hj => ?_⟩, (Below.refl _ _).alloc (Nat.le_refl _) _⟩
      obtain ⟨b, o, z, ha, hx, hz0, hz1⟩ := HC.out.2 j hj
      have hlt := World.block_lt_of_cell? w _ hx
      exact ⟨b, o, z, ha, (World.grownBy_alloc w _ none).cell hx (by simp), hz0, hz1, by simp at hlt; omega⟩
end Go.Proofs.Ytpelnfenfeoeeaa
end

section
/-
  Frames: what they keep of a cursor.
-/
namespace Go.Proofs.Ytpelnfenfeoeeaa
open Go.RowKit
theorem sNewC (R C : Nat) (w : World) (hR : R ≤ 4096) (hC : C ≤ 4096) :
    Calls Try.prog 106 #[.int .i64 R, .int .i64 C] w (fun e w' => ∃ g, e = .returned (.agg #[.int .i64 R, .int .i64 C, .slice (some ⟨g, 0, none⟩) (R * C) (R * C)]) ∧ w.heap.size ≤ g ∧ IntsC w' g (R * C) (List.replicate (R * C) 0) ∧ Below w.heap.size w w') := by
  have hm : R * C ≤ 4096 * 4096 := Nat.mul_le_mul hR hC
  have hmk := makeProd R C (by omega)
  have hp1 : (0 : Int) ≤ (R : Int) * (C : Int) := by rw [← Int.natCast_mul]; omega
  have hp2 : (R : Int) * (C : Int) ≤ 16777216 := by rw [← Int.natCast_mul]; omega
  go_enter Try.func106, Try.ntmps106
  go_wp2_with fail
  refine bodyPost_ret (v := .agg #[.int .i64 R, .int .i64 C, .slice (some ⟨w.heap.size + 1, 0, none⟩) (R * C) (R * C)]) (by simp [results, Try.results106, go_sem]) rfl ⟨w.heap.size + 1, rfl, by omega, ?_, ?_⟩
  · exact IntsC.made _ (by omega) (by simp)
  · exact ((Below.refl _ _).alloc (Nat.le_refl _) _).alloc (by simp) _
theorem Cur.frs {w w' : World} {cb : Nat} {p : Nat → Prop} (h : Cur w cb) (hf : FrS p w w') (hb : ∀ k, k ≤ cb → ¬ p k) : Cur w' cb := by
  obtain ⟨a, len, cap, i, x, hk, hi, hl, hby⟩ := h
  refine ⟨a, len, cap, i, x, hk.frs hf (hb _ (Nat.le_refl _)), hi, hl, fun k hkl => ?_⟩
  obtain ⟨b, o, z, ha, hx, h0, h1, hne⟩ := hby k hkl
  have hlt := World.block_lt_of_cell? w _ hx
  exact ⟨b, o, z, ha, (World.cell?_of_block (w := w) (hf.block b (by simpa using hlt) (hb b (by omega)))).trans hx, h0, h1, hne⟩
end Go.Proofs.Ytpelnfenfeoeeaa
end

section
/-
  Steps inside a region that draws: append of ints; frames of three stores. No function of the program is named.
-/
namespace Go.Proofs.Ytpelnfenfeoeeaa
set_option maxRecDepth 100000
open Go.RowKit
theorem news_ints (ys : List Int) (j : Nat) (u : Value) (h : (ys.map (Value.int .i64))[j]? = some u) : j < ys.length ∧ u = .int .i64 (ys.getD j 0) := by
  rw [List.getElem?_map] at h
  obtain ⟨z, hz, rfl⟩ := Option.map_eq_some_iff.mp h
  obtain ⟨h1, h2⟩ := List.getElem?_eq_some_iff.mp hz
  exact ⟨h1, by simp [List.getD, hz]⟩
theorem FrS.mono2 {p q : Nat → Prop} {w w' : World} (h : FrS p w w') (hq : ∀ k, k < w.heap.size → p k → q k) : FrS q w w' := ⟨h.os, h.tape, h.output, h.size, fun k hk hn => h.block k hk (fun hp => hn (hq k hk hp))⟩
theorem FrS.set3 {p : Nat → Prop} {w w' : World} {b : Nat} (h : FrS p w w') (hb : p b ∨ w.heap.size ≤ b) (x y z : Value) : FrS p w (((w'.setCell ⟨b, 0, none⟩ x).setCell ⟨b, 1, none⟩ y).setCell ⟨b, 2, none⟩ z) := ((h.set hb x).set hb y).set hb z
theorem Blk3.set3 {w : World} {b : Nat} {t : TypeId} {p q r : Value} (h : Blk3 w b t p q r) (x y z : Value) : Blk3 (((w.setCell ⟨b, 0, none⟩ x).setCell ⟨b, 1, none⟩ y).setCell ⟨b, 2, none⟩ z) b t x y z := ((h.set0 x).set1 y).set2 z
theorem Blk3.far3 {w : World} {b c : Nat} {t : TypeId} {p q r : Value} (h : Blk3 w b t p q r) (hne : b ≠ c) (x y z : Value) : Blk3 (((w.setCell ⟨c, 0, none⟩ x).setCell ⟨c, 1, none⟩ y).setCell ⟨c, 2, none⟩ z) b t p q r := ((h.far (a := ⟨c, 0, none⟩) hne x).far (a := ⟨c, 1, none⟩) hne y).far (a := ⟨c, 2, none⟩) hne z
theorem FrS.transR {p q : Nat → Prop} {w w1 w2 : World} (h : FrS p w w1) (h' : FrS q w1 w2) (hq : ∀ k, k < w.heap.size → q k → p k) : FrS p w w2 :=
  ⟨h'.os.trans h.os, h'.tape.trans h.tape, h'.output.trans h.output, Nat.le_trans h.size h'.size, fun k hk hp => (h'.block k (Nat.lt_of_lt_of_le hk h.size) (fun hqk => hp (hq k hk hqk))).trans (h.block k hk hp)⟩
theorem ownBlock_ge {w : World} {base n k : Nat} {e : TypeId} {size : Nat} {v : Value} {xs : List Value} (h : w.ownsRow base e size v n xs) (hk : v.ownBlock = some k) : base ≤ k := by
  rcases h.2 with ⟨rfl, -⟩ | ⟨g, cap, cur, rfl, hB, -⟩
  · cases hk
  · simp [Value.ownBlock] at hk; omega
theorem Own.far {B : Nat} {w : World} {v : Value} {zs : List Int} (h : Own B w v zs) {a : Addr} (ha : a.block < B) (u : Value) : Own B (w.setCell a u) v zs := by
  rcases h with h | ⟨g, cap, hv, hB, hi, hl, hc⟩
  · exact .inl h
  · exact .inr ⟨g, cap, hv, hB, hi.far (by omega) u, hl, hc⟩
theorem step_append {P : Program} {ops : Array Oper} {o : Oper} {a : Act} {w : World} {K : Act → World → Prop} {Q : Exit → Act → World → Prop} {E : Prop}
    (hg : o.guard = none) (s x : Operand) (t : TypeId) (hop : o.op = Op.call { callee := Callee.builtin Builtin.append, args := #[s, x], argTypes := #[t, t] }) (v1 v2 : Value) (hs : a.eval s = v1) (hx : a.eval x = v2) (v' : Value) (w' : World)
    (hr : (Builtin.append_ #[t, t] o.type #[v1, v2]).run P w = .ok v' w') (hK : K (a.put o.dst v') w') : if Region.wanted o (yielded ops a.tmps) = true then Oper.wp P o a w K Q else E := by
  have hw : Region.wanted o (yielded ops a.tmps) = true := by simp [Region.wanted, hg]
  rw [if_pos hw]
  unfold Oper.wp
  simp only [execOp, hop, resolve, invoke, builtin, Sem.run_bind, Sem.run_pure, Result.andThen_ok, List.map_toArray, List.map_cons, List.map_nil, hs, hx, hr]
  exact hK
theorem appendInts (w : World) (base n m c : Nat) (v : Value) (xs ys : List Int) (ga oa : Nat) (hown : w.ownsRow base 3 1 v n (xs.map (Value.int .i64))) (h : Rd w (some ⟨ga, oa, none⟩) ys) (hy : ys.length = m) (hb : n + m ≤ 16777216) (hB : base ≤ w.heap.size) :
    ∃ v' w', (Builtin.append_ #[22, 22] 22 #[v, .slice (some ⟨ga, oa, none⟩) m c]).run Try.prog w = .ok v' w' ∧ w'.ownsRow base 3 1 v' (n + m) ((xs ++ ys).map (Value.int .i64)) ∧ w.grownBy w' v.ownBlock := by
  obtain ⟨fi, hfi, hz0, hz1, hz2⟩ := facts_int
  have news : ∀ (j : Nat) u, (ys.map (Value.int .i64))[j]? = some u → w.cell? ((⟨ga, oa, none⟩ : Addr).add j) = some u := by
    intro j u hu
    obtain ⟨hj, rfl⟩ := news_ints _ j u hu
    obtain ⟨b', o', e, hc⟩ := h j hj
    injection e with e
    injection e with e1 e2
    subst e1 e2
    rw [show (⟨ga, oa, none⟩ : Addr).add j = ⟨ga, oa + j, none⟩ by simp only [Addr.add]; split <;> simp_all]
    exact hc
  obtain ⟨v', w', hr, h2, h3, -, -⟩ := run_append_own_at (P := Try.prog) w base 22 22 3 fi (.int .i64 0) 1 8 underlying_ints hfi hz0 hz1 hz2 rfl (by decide) v n _ hown ⟨ga, oa, none⟩ m c (ys.map (Value.int .i64)) (by rw [List.length_map, hy, Nat.mul_one]) news
    (by intro u hu; obtain ⟨z, -, rfl⟩ := List.mem_map.mp hu; rfl) (by unfold maxLen; omega) (by omega) hB
  exact ⟨v', w', hr, by rw [List.map_append]; exact h2, h3⟩
theorem appendInts2 (w : World) (base n m c : Nat) (v : Value) (xs ys : List Int) (ga oa : Nat) (hown : w.ownsRow base 3 1 v n (xs.map (Value.int .i64))) (h : Rd w (some ⟨ga, oa, none⟩) ys) (hy : ys.length = m) (hb : n + m ≤ 16777216) (hB : base ≤ w.heap.size) :
    ∃ v' w', (Builtin.append_ #[22, 22] 22 #[v, .slice (some ⟨ga, oa, none⟩) m c]).run Try.prog w = .ok v' w' ∧ w'.ownsRow base 3 1 v' (n + m) ((xs ++ ys).map (Value.int .i64)) ∧ w.grownBy w' v.ownBlock ∧ (v' = .slice none 0 0 ↔ v = .slice none 0 0 ∧ m = 0) := by
  obtain ⟨fi, hfi, hz0, hz1, hz2⟩ := facts_int
  have news : ∀ (j : Nat) u, (ys.map (Value.int .i64))[j]? = some u → w.cell? ((⟨ga, oa, none⟩ : Addr).add j) = some u := by
    intro j u hu
    obtain ⟨hj, rfl⟩ := news_ints _ j u hu
    obtain ⟨b', o', e, hc⟩ := h j hj
    injection e with e
    injection e with e1 e2
    subst e1 e2
    rw [show (⟨ga, oa, none⟩ : Addr).add j = ⟨ga, oa + j, none⟩ by simp only [Addr.add]; split <;> simp_all]
    exact hc
  obtain ⟨v', w', hr, h2, h3, h4, -⟩ := run_append_own_at (P := Try.prog) w base 22 22 3 fi (.int .i64 0) 1 8 underlying_ints hfi hz0 hz1 hz2 rfl (by decide) v n _ hown ⟨ga, oa, none⟩ m c (ys.map (Value.int .i64)) (by rw [List.length_map, hy, Nat.mul_one]) news
    (by intro u hu; obtain ⟨z, -, rfl⟩ := List.mem_map.mp hu; rfl) (by unfold maxLen; omega) (by omega) hB
  exact ⟨v', w', hr, by rw [List.map_append]; exact h2, h3, h4⟩
theorem sevenF {W w' : World} {b : Nat} {t : TypeId} {p q r : Value} {pr : Nat → Prop} (h0 : Blk3 W b t p q r) (hg : FrS pr W w') (hb : ¬ pr b) :
    w'.cell? ⟨b, 0, none⟩ = some p ∧ w'.cell? ⟨b, 1, none⟩ = some q ∧ w'.cell? ⟨b, 2, none⟩ = some r :=
  ⟨(h0.frs hg hb).cell0, (h0.frs hg hb).cell1, (h0.frs hg hb).cell2⟩
end Go.Proofs.Ytpelnfenfeoeeaa
end

section
/-
  The drawing of matrices: of what was there only the cursor has changed.
-/
namespace Go.Proofs.Ytpelnfenfeoeeaa
set_option maxRecDepth 100000
open Go.RowKit
set_option maxHeartbeats 1000000 in
theorem l3Draw (w : World) (cb R C most : Nat) (hc : Cur w cb) (hR : R ≤ 24) (hC : C ≤ 24) (hm : most ≤ 100) :
    Calls Try.prog 128 #[.pointer (some ⟨cb, 0, none⟩), .int .i64 R, .int .i64 C, .int .i64 most] w (fun e w' => ∃ (g : Nat) (zs : List Int), e = .returned (.agg #[.int .i64 R, .int .i64 C, .slice (some ⟨g, 0, none⟩) (R * C) (R * C)]) ∧ w.heap.size ≤ g ∧ zs.length = R * C ∧ IntsC w' g (R * C) zs ∧ Cur w' cb ∧ w.grownBy w' (some cb)) := by
  have hlt := hc.lt
  have hle : R * C ≤ 24 * 24 := Nat.mul_le_mul hR hC
  have B0 : ∀ o, Below w.heap.size w (w.alloc o) := fun o => (Below.refl _ _).alloc (Nat.le_refl _) o
  have BH := Lib.hid B0
  have C0 := Lib.hid hc
  clear B0 hc
  go_enter Try.func128, Try.ntmps128
  go_wp2_with fail
  refine (sNewC R C _ (by omega) (by omega)).mono ?_
  rintro e w1 ⟨g, rfl, hg, hi, hb⟩
  have hg : w.heap.size < g := by simp at hg; exact hg
  have K2 : Hid (Blk3 w1 w.heap.size 26 (.int .i64 0) (.int .i64 0) (.slice none 0 0)) := (Blk3.at_ _ _ _ _ rfl).keep hb (by simp)
  have F : Hid (FrS (fun k => k = cb ∨ w.heap.size ≤ k) w w1) := (FrS.of_below (BH.out (.cells #[.int .i64 0, .int .i64 0, .slice none 0 0] 26))).trans (FrS.of_below hb)
  have C1 := Lib.hid ((C0.out.alloc (.cells #[.int .i64 0, .int .i64 0, .slice none 0 0] 26)).grown (row := none) (grown_of_below hb _) (by simp))
  obtain ⟨N, hN⟩ : ∃ N, R * C = N := ⟨_, rfl⟩
  have HN := Lib.hid hN
  rw [hN] at hi hle ⊢
  have I1 := Lib.hid hi
  have gl := hi.lt
  have kl := K2.out.lt
  clear hN hi hb C0
  have K2 := Lib.hid (K2.out.old (.cells #[.int .i64 R, .int .i64 C, .slice (some ⟨g, 0, none⟩) N N] 26))
  have K6 : Hid (Blk3 (w1.alloc (.cells #[.int .i64 R, .int .i64 C, .slice (some ⟨g, 0, none⟩) N N] 26)) w1.heap.size 26 (.int .i64 R) (.int .i64 C) (.slice (some ⟨g, 0, none⟩) N N)) := Blk3.at_ _ _ _ _ rfl
  have I1 := Lib.hid (I1.out.old (.cells #[.int .i64 R, .int .i64 C, .slice (some ⟨g, 0, none⟩) N N] 26))
  have C1 := Lib.hid (C1.out.alloc (.cells #[.int .i64 R, .int .i64 C, .slice (some ⟨g, 0, none⟩) N N] 26))
  have F := Lib.hid (F.out.alloc (.cells #[.int .i64 R, .int .i64 C, .slice (some ⟨g, 0, none⟩) N N] 26))
  go_wp2_with fail
  go_loopw [10] (fun i wr => ∃ (k : Nat) (zs : List Int), i = .int .i64 k ∧ k ≤ N ∧ zs.length = N ∧ IntsC wr g N zs ∧ Cur wr cb ∧ FrS (fun k => k = cb ∨ k = g) (w1.alloc (.cells #[.int .i64 R, .int .i64 C, .slice (some ⟨g, 0, none⟩) N N] 26)) wr) (fun i _ => N - (intOf i).toNat)
  case atStart => exact ⟨0, _, rfl, by omega, by simp, I1.out, C1.out, FrS.refl _ _⟩
  case round =>
    obtain ⟨k, zs, rfl, hk, hz, hi, hcu, hfr⟩ := hrel
    have I := Lib.hid hi
    have CU := Lib.hid hcu
    have FR := Lib.hid hfr
    have HZ := Lib.hid hz
    clear hi hcu hfr hz
    have R6 := Lib.hid (K6.out.frs FR.out (by omega))
    have lc := CU.out.lt
    obtain ⟨r0, r1, r2, -, -, -⟩ := R6.out.all
    by_cases hlt2 : k < N
    · have v1 : IntKind.i64.wrap (2 * (most : Int)) = 2 * (most : Int) := IntWalk.i64_in _ (by omega)
      have v2 : IntKind.i64.wrap (2 * (most : Int) + 1) = 2 * (most : Int) + 1 := IntWalk.i64_in _ (by omega)
      go_upto_region 5 with fail
      refine wp_region_held_drew (S := fun w' => FrS (fun k => k = cb ∨ k = g) wr w') (by kernel_rfl) (FrS.refl _ _).drew (fun hH => ?_)
      refine wpAnyH_take (i := 0) (v := ?_) (by simp only [List.getElem?_toArray, List.getElem?_cons_zero]; rfl) (by kernel_rfl) (by kernel_rfl) (by kernel_rfl) (by exact fun _ _ _ h => h) (Or.inl ⟨by rfl, ?_⟩) hH ?_
      rotate_left
      · (intro wS hS; clear hS; go_simp; try rfl)
      try simp only [Act.put, List.setIfInBounds_toArray, List.set_cons_zero, List.set_cons_succ]
      refine wpAnyH_take (i := 1) (v := ?_) (by simp only [List.getElem?_toArray, List.getElem?_cons_succ, List.getElem?_cons_zero]; rfl) (by kernel_rfl) (by kernel_rfl) (by kernel_rfl) (by exact fun _ _ _ h => h) (Or.inl ⟨by rfl, ?_⟩) hH ?_
      rotate_left
      · (intro wS hS; (try dsimp only at hS); obtain ⟨k1, k2, k3⟩ := sevenF R6.out hS (by omega); go_simp; try rfl)
      try simp only [Act.put, List.setIfInBounds_toArray, List.set_cons_zero, List.set_cons_succ]
      refine wpAnyH_take (i := 2) (v := ?_) (by simp only [List.getElem?_toArray, List.getElem?_cons_succ, List.getElem?_cons_zero]; rfl) (by kernel_rfl) (by kernel_rfl) (by kernel_rfl) (by exact fun _ _ _ h => h) (Or.inl ⟨by rfl, ?_⟩) hH ?_
      rotate_left
      · (intro wS hS; clear hS; go_simp; try rfl)
      try simp only [Act.put, List.setIfInBounds_toArray, List.set_cons_zero, List.set_cons_succ]
      refine wpAnyH_take (i := 3) (v := ?_) (by simp only [List.getElem?_toArray, List.getElem?_cons_succ, List.getElem?_cons_zero]; rfl) (by kernel_rfl) (by kernel_rfl) (by kernel_rfl) (by exact fun _ _ _ h => h) (Or.inl ⟨by rfl, ?_⟩) hH ?_
      rotate_left
      · (intro wS hS; clear hS; go_simp; try rfl)
      try simp only [Act.put, List.setIfInBounds_toArray, List.set_cons_zero, List.set_cons_succ]
      refine wpAnyH_take (i := 4) (v := ?_) (by simp only [List.getElem?_toArray, List.getElem?_cons_succ, List.getElem?_cons_zero]; rfl) (by kernel_rfl) (by kernel_rfl) (by kernel_rfl) (by exact fun _ _ _ h => h) (Or.inl ⟨by rfl, ?_⟩) hH ?_
      rotate_left
      · (intro wS hS; clear hS; go_simp; try rfl)
      try simp only [Act.put, List.setIfInBounds_toArray, List.set_cons_zero, List.set_cons_succ]
      refine wpAnyH_take (i := 5) (v := ?_) (by simp only [List.getElem?_toArray, List.getElem?_cons_succ, List.getElem?_cons_zero]; rfl) (by kernel_rfl) (by kernel_rfl) (by kernel_rfl) (by exact fun _ _ _ h => h) (Or.inl ⟨by rfl, ?_⟩) hH ?_
      rotate_left
      · (intro wS hS; clear hS; go_simp; try rfl)
      try simp only [Act.put, List.setIfInBounds_toArray, List.set_cons_zero, List.set_cons_succ]
      refine wpAnyH_take (i := 6) (v := ?_) (by simp only [List.getElem?_toArray, List.getElem?_cons_succ, List.getElem?_cons_zero]; rfl) (by kernel_rfl) (by kernel_rfl) (by kernel_rfl) (by exact fun _ _ _ h => h) (Or.inl ⟨by rfl, ?_⟩) hH ?_
      rotate_left
      · (intro wS hS; clear hS; go_simp; try rfl)
      try simp only [Act.put, List.setIfInBounds_toArray, List.set_cons_zero, List.set_cons_succ]
      refine wpAnyH_take (i := 8) (v := ?_) (by simp only [List.getElem?_toArray, List.getElem?_cons_succ, List.getElem?_cons_zero]; rfl) (by kernel_rfl) (by kernel_rfl) (by kernel_rfl) (by exact fun _ _ _ h => h) (Or.inl ⟨by rfl, ?_⟩) hH ?_
      rotate_left
      · (intro wS hS; clear hS; go_simp; try rfl)
      try simp only [Act.put, List.setIfInBounds_toArray, List.set_cons_zero, List.set_cons_succ]
      refine wpAnyH_ready (rs := [7]) (by kernel_rfl) (by simp) ?_
      refine AllReadyH.cons (by simp only [List.getElem?_toArray, List.getElem?_cons_succ, List.getElem?_cons_zero]; rfl) (fun KK hKK => ?_) AllReadyH.nil
      go_simp
      refine (l1Below _ cb _ (by exact CU.out) (by omega)).mono ?_
      rintro e w2 ⟨z, ⟨z0, z1⟩, rfl, hc2, hg2⟩
      have v3 : IntKind.i64.wrap (z - (most : Int)) = z - (most : Int) := IntWalk.i64_in _ (by omega)
      have I2 := Lib.hid (I.out.move (hg2.block g I.out.lt (by simp; omega)))
      have C2 := Lib.hid hc2
      have F1 : Hid (FrS (fun k => k = cb ∨ k = g) wr w2) := (FrS.refl _ wr).drew.trans (FrS.of_one hg2 (.inl rfl))
      clear hc2
      try dsimp only
      refine hKK.out _ _ ?_ (fun hH2 => ?_)
      · exact F1.out
      clear hKK KK
      have hO := hH
      clear hH
      have hH := hH2
      clear hH2
      try simp only [Act.put, List.setIfInBounds_toArray, List.set_cons_zero, List.set_cons_succ]
      refine wpAnyH_take (i := 9) (v := ?_) (by simp only [List.getElem?_toArray, List.getElem?_cons_succ, List.getElem?_cons_zero]; rfl) (by kernel_rfl) (by kernel_rfl) (by kernel_rfl) (by exact fun _ _ _ h => h) (Or.inl ⟨by rfl, ?_⟩) hH ?_
      rotate_left
      · (intro wS hS; clear hS; go_simp; try rfl)
      try simp only [Act.put, List.setIfInBounds_toArray, List.set_cons_zero, List.set_cons_succ]
      refine wpAnyH_take (i := 10) (v := ?_) (by simp only [List.getElem?_toArray, List.getElem?_cons_succ, List.getElem?_cons_zero]; rfl) (by kernel_rfl) (by kernel_rfl) (by kernel_rfl) (by exact fun _ _ _ h => h) (Or.inl ⟨by rfl, ?_⟩) hH ?_
      rotate_left
      · (intro wS hS; clear hS; go_simp; try rfl)
      try simp only [Act.put, List.setIfInBounds_toArray, List.set_cons_zero, List.set_cons_succ]
      have hold := I2.out.ints.cell (i := k) (by rw [HZ.out]; exact hlt2)
      have hfr := I2.out.ints.free k
      refine wpAnyH_ready (rs := [11]) (by kernel_rfl) (by simp) ?_
      refine AllReadyH.cons (by simp only [List.getElem?_toArray, List.getElem?_cons_succ, List.getElem?_cons_zero]; rfl) (fun KK hKK => ?_) AllReadyH.nil
      go_simp
      have I2 := Lib.hid (I2.out.set k (by rw [HZ.out]; exact hlt2) (z - (most : Int)))
      have C2 := Lib.hid (C2.out.setFar (x := ⟨g, k, none⟩) (by show cb < g; omega) (.int .i64 (z - (most : Int))))
      have F2 : Hid (FrS (fun k => k = cb ∨ k = g) wr (w2.setCell ⟨g, k, none⟩ (.int .i64 (z - (most : Int))))) := F1.out.set (a := ⟨g, k, none⟩) (.inl (.inr rfl)) _
      try dsimp only
      refine hKK.out _ _ ?_ (fun hH2 => ?_)
      · exact F2.out
      clear hKK KK
      have hO := hH
      clear hH
      have hH := hH2
      clear hH2
      try simp only [Act.put, List.setIfInBounds_toArray, List.set_cons_zero, List.set_cons_succ]
      have F2 := Lib.hid (FR.out.trans F2.out)
      refine wpAnyH_done (by kernel_rfl) ?_ _
      go_wp2_with fail
      go_roundw
      case rel => exact ⟨k + 1, _, by go_num, by omega, by rw [List.length_set]; exact HZ.out, I2.out, C2.out, F2.out⟩
      case measure => simp [intOf]; omega
    · obtain rfl : N = k := by omega
      have R2 := Lib.hid (K2.out.frs FR.out (by omega))
      obtain ⟨s0, s1, s2, t0, t1, t2⟩ := R2.out.all
      go_wp2_with fail
      obtain ⟨E0, E1, E2, -, -, -⟩ := (((R2.out.set0 (.int .i64 R)).set1 (.int .i64 C)).set2 (.slice (some ⟨g, 0, none⟩) N N)).all
      have FF := Lib.hid (F.out.trans (FR.out.mono (q := fun k => k = cb ∨ w.heap.size ≤ k) (fun k hk => by omega)))
      refine bodyPost_ret (v := .agg #[.int .i64 R, .int .i64 C, .slice (some ⟨g, 0, none⟩) N N]) (by simp [results, Try.results128, go_sem, E0, E1, E2]) rfl ⟨g, zs, by rw [HN.out], by omega, by rw [HN.out]; exact HZ.out, ?_, ?_, ?_⟩
      · rw [HN.out]
        exact ((I.out.far (by show g ≠ w.heap.size; omega) _).far (by show g ≠ w.heap.size; omega) _).far (by show g ≠ w.heap.size; omega) _
      · exact ((CU.out.setFar (by show cb < w.heap.size; omega) _).setFar (by show cb < w.heap.size; omega) _).setFar (by show cb < w.heap.size; omega) _
      · exact FrS.one (((FF.out.set (a := ⟨w.heap.size, 0, none⟩) (.inr (Nat.le_refl _)) _).set (a := ⟨w.heap.size, 1, none⟩) (.inr (Nat.le_refl _)) _).set (a := ⟨w.heap.size, 2, none⟩) (.inr (Nat.le_refl _)) _) (fun k hk hp => by omega)
end Go.Proofs.Ytpelnfenfeoeeaa
end

section
/-
  The drawing of matrices: one that may be spoilt.
-/
namespace Go.Proofs.Ytpelnfenfeoeeaa
set_option maxRecDepth 100000
open Go.RowKit
theorem OwnC.out1 {B : Nat} {w : World} {v : Value} {zs : List Int} {b : Nat} {p q r : Value} (h : OwnC B w v zs) (k : Blk3 w b 26 p q r) (i : Nat) (x : Value) : OwnC B (w.setCell ⟨b, i, none⟩ x) v zs := by
  rcases h with h | ⟨g, cap, hv, hB, hi⟩
  · exact .inl h
  · exact .inr ⟨g, cap, hv, hB, hi.far (hi.ints.ne_blk k) x⟩
theorem OwnC.out3 {B : Nat} {w : World} {v : Value} {zs : List Int} {b : Nat} {p q r : Value} (h : OwnC B w v zs) (k : Blk3 w b 26 p q r) (x y z : Value) : OwnC B (((w.setCell ⟨b, 0, none⟩ x).setCell ⟨b, 1, none⟩ y).setCell ⟨b, 2, none⟩ z) v zs :=
  ((h.out1 k 0 x).out1 (k.set0 x) 1 y).out1 ((k.set0 x).set1 y) 2 z
def CurMat (B L cb : Nat) (p : Nat → Prop) (w : World) (e : Ending) (w' : World) : Prop := ∃ (r c : Int) (v : Value) (zs : List Int), e = .returned (.agg #[.int .i64 r, .int .i64 c, v]) ∧ OwnC B w' v zs ∧ zs.length ≤ L ∧ Cur w' cb ∧ FrS p w w'
theorem CurMat.end_ {B L cb b : Nat} {pr : Nat → Prop} {w W : World} {r c : Int} {v p q s : Value} {zs : List Int} (own : OwnC B W v zs) (hl : zs.length ≤ L) (k : Blk3 W b 26 p q s) (hc : Cur W cb) (hcb : cb < b) (hB : pr b) (f : FrS pr w W) :
    CurMat B L cb pr w (.returned (.agg #[.int .i64 r, .int .i64 c, v])) (((W.setCell ⟨b, 0, none⟩ (.int .i64 r)).setCell ⟨b, 1, none⟩ (.int .i64 c)).setCell ⟨b, 2, none⟩ v) :=
  ⟨r, c, v, zs, rfl, own.out3 k _ _ _, hl, ((hc.setFar hcb _).setFar hcb _).setFar hcb _, ((f.set (.inl hB) _).set (.inl hB) _).set (.inl hB) _⟩
set_option maxHeartbeats 2000000 in
theorem l3Spoil (w : World) (cb B g n cap : Nat) (r c : Int) (zs : List Int) (hc : Cur w cb) (hcB : cb < B) (hB : B ≤ w.heap.size) (hg : B ≤ g) (hi : IntsC w g cap zs) (hz : zs.length = n) (hn : n ≤ 600) :
    Calls Try.prog 132 #[.pointer (some ⟨cb, 0, none⟩), .agg #[.int .i64 r, .int .i64 c, .slice (some ⟨g, 0, none⟩) n cap]] w (CurMat B (n + 1) cb (fun k => k = cb ∨ k = g ∨ w.heap.size ≤ k) w) := by
  have hlt := hc.lt
  have gl := hi.lt
  have C0 := Lib.hid hc
  have I0 := Lib.hid hi
  have HZ := Lib.hid hz
  clear hc hi hz
  go_enter Try.func132, Try.ntmps132
  go_wp2_with fail
  refine (l1Below _ cb 40 ((C0.out.alloc (.cells #[.int .i64 r, .int .i64 c, .slice (some ⟨g, 0, none⟩) n cap] 26)).alloc (.cells #[.int .i64 0, .int .i64 0, .slice none 0 0] 26)) (by omega)).mono ?_
  rintro e w1 ⟨k, ⟨k0, k1⟩, rfl, hc1, hg1⟩
  have K0 : Hid (Blk3 w1 w.heap.size 26 (.int .i64 r) (.int .i64 c) (.slice (some ⟨g, 0, none⟩) n cap)) := ((Blk3.at_ _ _ _ _ rfl).old _).keepOne hg1 (by omega)
  have K2 : Hid (Blk3 w1 (w.heap.size + 1) 26 (.int .i64 0) (.int .i64 0) (.slice none 0 0)) := (Blk3.at_ _ _ _ _ (by simp)).keepOne hg1 (by omega)
  have C1 := Lib.hid hc1
  have F1 : Hid (FrS (fun k => k = cb ∨ k = g ∨ w.heap.size ≤ k) w w1) := ((((FrS.refl _ w).alloc _).alloc _).trans (FrS.of_one hg1 (.inl rfl)))
  have O1 : Hid (OwnC B w1 (.slice (some ⟨g, 0, none⟩) n cap) zs) := .inr ⟨g, cap, by rw [HZ.out], hg, (((I0.out.old _).old _)).move (hg1.block g (by simp; omega) (by simp; omega))⟩
  have I1 : Hid (IntsC w1 g cap zs) := (((I0.out.old _).old _)).move (hg1.block g (by simp; omega) (by simp; omega))
  have l1 : w.heap.size + 1 < w1.heap.size := K2.out.lt
  clear hc1 hg1 C0 I0
  obtain ⟨a0, a1, a2, a3, a4, a5⟩ := K0.out.all
  obtain ⟨b0, b1, b2, b3, b4, b5⟩ := K2.out.all
  by_cases e0 : k = 0
  · subst e0
    go_wp2_with fail
    refine (l1PickInt (fun _ => True) _ cb w1.heap.size 4 (C1.out.alloc _) ?_ (by omega) (by omega) (by omega)).mono ?_
    · exact IntList.new [-1, 0, 7, wrap64 (r + 1)] (fun _ _ => trivial) w1 3
    rintro e w2 ⟨t, -, rfl, hc2, hg2⟩
    have K0 := Lib.hid ((K0.out.old _).keepOne hg2 (by omega))
    have K2 := Lib.hid ((K2.out.old _).keepOne hg2 (by omega))
    have C2 := Lib.hid hc2
    have fx : FrS (fun k => k = cb) w1 w2 := (((FrS.refl _ w1).alloc _).trans (FrS.of_one hg2 rfl))
    have F2 := Lib.hid (F1.out.trans (fx.mono (fun k hk => .inl hk)))
    have O2 := Lib.hid (O1.out.frs fx (fun k hk => by omega))
    clear hc2 hg2 fx
    obtain ⟨s0, s1, s2, f0, f1, f2⟩ := K0.out.all
    obtain ⟨u0, u1, u2, v0, v1, v2⟩ := K2.out.all
    go_wp2_with fail
    obtain ⟨E0, E1, E2, -, -, -⟩ := ((((K2.out.far (a := ⟨w.heap.size, 0, none⟩) (by simp) (.int .i64 t)).set0 (.int .i64 t)).set1 (.int .i64 c)).set2 (.slice (some ⟨g, 0, none⟩) n cap)).all
    exact bodyPost_ret (v := .agg #[.int .i64 t, .int .i64 c, .slice (some ⟨g, 0, none⟩) n cap]) (by simp [results, Try.results132, go_sem, E0, E1, E2]) rfl (CurMat.end_ (O2.out.out1 K0.out 0 _) (by rw [HZ.out]; omega) (K2.out.far (by simp) _) (C2.out.setFar (by show cb < w.heap.size; omega) _) (by omega) (by omega) (F2.out.set (.inl (.inr (.inr (Nat.le_refl _)))) _))
  by_cases e1 : k = 1
  · subst e1
    by_cases hn0 : 0 < n
    · go_upto_region 6 with fail
      refine wp_region_held_drew (S := fun w' => FrS (fun k => k = cb ∨ k = g) w1 w') (by kernel_rfl) (FrS.refl _ _).drew (fun hH => ?_)
      refine wpAnyH_take (i := 0) (v := ?_) (by simp only [List.getElem?_toArray, List.getElem?_cons_zero]; rfl) (by kernel_rfl) (by kernel_rfl) (by kernel_rfl) (by exact fun _ _ _ h => h) (Or.inl ⟨by rfl, ?_⟩) hH ?_
      rotate_left
      · (intro wS hS; clear hS; go_simp; try rfl)
      try simp only [Act.put, List.setIfInBounds_toArray, List.set_cons_zero, List.set_cons_succ]
      refine wpAnyH_take (i := 1) (v := ?_) (by simp only [List.getElem?_toArray, List.getElem?_cons_succ, List.getElem?_cons_zero]; rfl) (by kernel_rfl) (by kernel_rfl) (by kernel_rfl) (by exact fun _ _ _ h => h) (Or.inl ⟨by rfl, ?_⟩) hH ?_
      rotate_left
      · (intro wS hS; (try dsimp only at hS); obtain ⟨k1, k2, k3⟩ := sevenF K0.out hS (by rintro (h | h); omega; exact I1.out.ints.ne_blk K0.out h.symm); go_simp; try rfl)
      try simp only [Act.put, List.setIfInBounds_toArray, List.set_cons_zero, List.set_cons_succ]
      refine wpAnyH_take (i := 2) (v := ?_) (by simp only [List.getElem?_toArray, List.getElem?_cons_succ, List.getElem?_cons_zero]; rfl) (by kernel_rfl) (by kernel_rfl) (by kernel_rfl) (by exact fun _ _ _ h => h) (Or.inl ⟨by rfl, ?_⟩) hH ?_
      rotate_left
      · (intro wS hS; clear hS; go_simp; try rfl)
      try simp only [Act.put, List.setIfInBounds_toArray, List.set_cons_zero, List.set_cons_succ]
      refine wpAnyH_ready (rs := [3]) (by kernel_rfl) (by simp) ?_
      refine AllReadyH.cons (by simp only [List.getElem?_toArray, List.getElem?_cons_succ, List.getElem?_cons_zero]; rfl) (fun KK hKK => ?_) AllReadyH.nil
      go_simp
      refine (l1Odd _ cb (by exact C1.out)).mono ?_
      rintro e w2 ⟨z, hz, rfl, hc2, hg2⟩
      have I2 := Lib.hid (I1.out.move (hg2.block g I1.out.lt (by simp; omega)))
      have C2 := Lib.hid hc2
      have f2 : FrS (fun k => k = cb ∨ k = g) w1 w2 := (FrS.refl _ w1).drew.trans (FrS.of_one hg2 (.inl rfl))
      have FX := Lib.hid f2
      clear hc2 f2 hg2
      try dsimp only
      refine hKK.out _ _ ?_ (fun hH2 => ?_)
      · exact FX.out
      clear hKK KK
      have hO := hH
      clear hH
      have hH := hH2
      clear hH2
      try simp only [Act.put, List.setIfInBounds_toArray, List.set_cons_zero, List.set_cons_succ]
      refine wpAnyH_take (i := 4) (v := ?_) (by simp only [List.getElem?_toArray, List.getElem?_cons_succ, List.getElem?_cons_zero]; rfl) (by kernel_rfl) (by kernel_rfl) (by kernel_rfl) (by exact fun _ _ _ h => h) (Or.inl ⟨by rfl, ?_⟩) hH ?_
      rotate_left
      · (intro wS hS; clear hS; go_simp; try rfl)
      try simp only [Act.put, List.setIfInBounds_toArray, List.set_cons_zero, List.set_cons_succ]
      have hold := I2.out.ints.cell (i := 0) (by rw [HZ.out]; exact hn0)
      have hfr := I2.out.ints.free 0
      refine wpAnyH_ready (rs := [5]) (by kernel_rfl) (by simp) ?_
      refine AllReadyH.cons (by simp only [List.getElem?_toArray, List.getElem?_cons_succ, List.getElem?_cons_zero]; rfl) (fun KK hKK => ?_) AllReadyH.nil
      go_simp
      have I2 := Lib.hid (I2.out.set 0 (by rw [HZ.out]; exact hn0) z)
      have C2 := Lib.hid (C2.out.setFar (x := ⟨g, 0, none⟩) (by show cb < g; omega) (.int .i64 z))
      have FX : Hid (FrS (fun k => k = cb ∨ k = g) w1 (w2.setCell ⟨g, 0, none⟩ (.int .i64 z))) := FX.out.set (a := ⟨g, 0, none⟩) (.inl (.inr rfl)) _
      try dsimp only
      refine hKK.out _ _ ?_ (fun hH2 => ?_)
      · exact FX.out
      clear hKK KK
      have hO := hH
      clear hH
      have hH := hH2
      clear hH2
      try simp only [Act.put, List.setIfInBounds_toArray, List.set_cons_zero, List.set_cons_succ]
      have K0n : ¬ (w.heap.size = cb ∨ w.heap.size = g) := by rintro (h | h); omega; exact I1.out.ints.ne_blk K0.out h.symm
      have K2n : ¬ (w.heap.size + 1 = cb ∨ w.heap.size + 1 = g) := by rintro (h | h); omega; exact I1.out.ints.ne_blk K2.out h.symm
      have K0 := Lib.hid (K0.out.frs FX.out K0n)
      have K2 := Lib.hid (K2.out.frs FX.out K2n)
      have F2 := Lib.hid (F1.out.trans (FX.out.mono (q := fun k => k = cb ∨ k = g ∨ w.heap.size ≤ k) (fun k hk => by omega)))
      have O2 : Hid (OwnC B (w2.setCell ⟨g, 0, none⟩ (.int .i64 z)) (.slice (some ⟨g, 0, none⟩) n cap) (zs.set 0 z)) := .inr ⟨g, cap, by rw [List.length_set, HZ.out], hg, I2.out⟩
      obtain ⟨s0, s1, s2, f0, f1, f2⟩ := K0.out.all
      obtain ⟨u0, u1, u2, v0, v1, v2⟩ := K2.out.all
      refine wpAnyH_done (by kernel_rfl) ?_ _
      go_wp2_with fail
      obtain ⟨E0, E1, E2, -, -, -⟩ := (((K2.out.set0 (.int .i64 r)).set1 (.int .i64 c)).set2 (.slice (some ⟨g, 0, none⟩) n cap)).all
      exact bodyPost_ret (v := .agg #[.int .i64 r, .int .i64 c, .slice (some ⟨g, 0, none⟩) n cap]) (by simp [results, Try.results132, go_sem, E0, E1, E2]) rfl (CurMat.end_ O2.out (by rw [List.length_set, HZ.out]; omega) K2.out C2.out (by omega) (by omega) F2.out)
    · obtain rfl : n = 0 := by omega
      go_wp2_with fail
      obtain ⟨E0, E1, E2, -, -, -⟩ := (((K2.out.set0 (.int .i64 r)).set1 (.int .i64 c)).set2 (.slice (some ⟨g, 0, none⟩) 0 cap)).all
      exact bodyPost_ret (v := .agg #[.int .i64 r, .int .i64 c, .slice (some ⟨g, 0, none⟩) 0 cap]) (by simp [results, Try.results132, go_sem, E0, E1, E2]) rfl (CurMat.end_ O1.out (by rw [HZ.out]; omega) K2.out C1.out (by omega) (by omega) F1.out)
  by_cases e2 : k = 2
  · subst e2
    obtain ⟨fi, hfi, hz0, hz1, hz2⟩ := facts_int
    have hown : (w1.alloc (.cells #[.int .i64 1] 3)).ownsRow B 3 1 (.slice (some ⟨g, 0, none⟩) n cap) n (zs.map (Value.int .i64)) := by
      have := (I1.out.old (.cells #[.int .i64 1] 3)).row hg
      rw [HZ.out] at this
      exact this
    have news : ∀ (j : Nat) u, [Value.int .i64 1][j]? = some u → (w1.alloc (.cells #[.int .i64 1] 3)).cell? ((⟨w1.heap.size, 0, none⟩ : Addr).add j) = some u := by
      intro j u hu
      have hj : j = 0 := by
        rcases j with _ | j
        · rfl
        · simp at hu
      subst hj
      have := heap_alloc_new w1 (.cells #[Value.int .i64 1] 3)
      have hc : (w1.alloc (.cells #[Value.int .i64 1] 3)).cell? ⟨w1.heap.size, 0, none⟩ = some (.int .i64 1) := by
        unfold World.cell?
        simp only [this]
        rfl
      have ha : (⟨w1.heap.size, 0, none⟩ : Addr).add 0 = ⟨w1.heap.size, 0, none⟩ := rfl
      rw [ha, hc]
      simpa using hu
    have HO := Lib.hid hown
    have NS := Lib.hid news
    have bs : B ≤ w1.heap.size := Nat.le_trans hB F1.out.size
    clear hown news
    go_wp2_with (at_builtin; refine wpList_append_own_at _ rfl _ _ 22 rfl B 3 fi (.int .i64 0) 1 8 underlying_ints hfi hz0 hz1 hz2 rfl (by decide) _ _ _ rfl HO.out ⟨w1.heap.size, 0, none⟩ 1 1 [.int .i64 1] ?hx ?hl ?hnews ?h1 ?h63 ?hbytes ?hbase ?hnext)
    case hx => rfl
    case hl => rfl
    case hnews => exact NS.out
    case h1 => intro u hu; simp at hu; subst hu; rfl
    case h63 => unfold maxLen; omega
    case hbytes => omega
    case hbase => simp; omega
    case hnext =>
      rintro v' w2 ho hg2 - hbk
      have O2 : Hid (OwnC B w2 v' (zs ++ [1])) := OwnC.of_row (by rw [List.length_append, HZ.out, List.map_append]; exact ho)
      have K0 := Lib.hid ((K0.out.old (.cells #[.int .i64 1] 3)).keepOne (c := g) (by simpa [Value.ownBlock] using hg2) (Ne.symm (I1.out.ints.ne_blk K0.out)))
      have K2 := Lib.hid ((K2.out.old (.cells #[.int .i64 1] 3)).keepOne (c := g) (by simpa [Value.ownBlock] using hg2) (Ne.symm (I1.out.ints.ne_blk K2.out)))
      have fx : FrS (fun k => k = cb ∨ k = g ∨ w.heap.size ≤ k) (w1.alloc (.cells #[.int .i64 1] 3)) w2 := FrS.of_one (g := g) (by simpa [Value.ownBlock] using hg2) (.inr (.inl rfl))
      have F2 := Lib.hid ((F1.out.alloc _).trans fx)
      have C2 := Lib.hid ((C1.out.alloc (.cells #[.int .i64 1] 3)).frs (FrS.of_one (p := fun k => k = g) (g := g) (by simpa [Value.ownBlock] using hg2) rfl) (fun k hk => by omega))
      obtain ⟨q2, qc2, rfl, -, -⟩ := (O2.out.own (by rw [List.length_append, HZ.out]; simp; omega)).form
      clear ho hg2 hbk fx
      obtain ⟨s0, s1, s2, f0, f1, f2⟩ := K0.out.all
      obtain ⟨u0, u1, u2, v0, v1, v2⟩ := K2.out.all
      have EL : (zs ++ [(1 : Int)]).length = n + 1 := by rw [List.length_append, HZ.out]; rfl
      rw [EL] at O2 ⊢
      go_wp2_with fail
      obtain ⟨E0, E1, E2, -, -, -⟩ := ((((K2.out.far (a := ⟨w.heap.size, 2, none⟩) (by simp) (.slice q2 (n + 1) qc2)).set0 (.int .i64 r)).set1 (.int .i64 c)).set2 (.slice q2 (n + 1) qc2)).all
      exact bodyPost_ret (v := .agg #[.int .i64 r, .int .i64 c, .slice q2 (n + 1) qc2]) (by simp [results, Try.results132, go_sem, E0, E1, E2]) rfl (CurMat.end_ (O2.out.out1 K0.out 2 _) (by rw [EL]; omega) (K2.out.far (by simp) _) (C2.out.setFar (by show cb < w.heap.size; omega) _) (by omega) (by omega) (F2.out.set (.inl (.inr (.inr (Nat.le_refl _)))) _))
  · have n0 : (k == 0) = false := by simpa using e0
    have n1 : (k == 1) = false := by simpa using e1
    have n2 : (k == 2) = false := by simpa using e2
    go_wp2_with fail
    obtain ⟨E0, E1, E2, -, -, -⟩ := (((K2.out.set0 (.int .i64 r)).set1 (.int .i64 c)).set2 (.slice (some ⟨g, 0, none⟩) n cap)).all
    exact bodyPost_ret (v := .agg #[.int .i64 r, .int .i64 c, .slice (some ⟨g, 0, none⟩) n cap]) (by simp [results, Try.results132, go_sem, E0, E1, E2]) rfl (CurMat.end_ O1.out (by rw [HZ.out]; omega) K2.out C1.out (by omega) (by omega) F1.out)
end Go.Proofs.Ytpelnfenfeoeeaa
end

section
/-
  A code that came in as a slice of bytes, as the drawing takes it; and the laws' own look at its length.
-/
namespace Go.Proofs.Ytpelnfenfeoeeaa
open Go.RowKit
theorem codeIn_none (w : World) : CodeIn w none 0 := ⟨Nat.zero_le _, fun _ hk => absurd hk (Nat.not_lt_zero _)⟩
theorem codeIn_some {w : World} {x : Addr} {len cap : Nat} {zs : List Int} (hl : len ≤ cap) (hm : cap ≤ maxLen) (hz : zs.length = cap)
    (hcell : ∀ i, i < zs.length → w.cell? (x.add i) = some (.int .u8 (zs.getD i 0))) (hwf : ∀ n ∈ zs, (Lit.int .u8 n).wf = true) : CodeIn w (some x) len := by
  refine ⟨Nat.le_trans hl hm, fun k hk => ?_⟩
  obtain ⟨b, o, rfl, hc⟩ := ints_at hcell (by omega)
  have bd := range_u8 hwf k
  exact ⟨b, o, zs.getD k 0, rfl, hc k (by omega), by simpa using bd.1, by simpa using bd.2⟩
theorem big_no (w : World) (a : Option Addr) (len cap : Nat) (h : len ≤ 1048576) : Calls Try.prog 30 #[.slice a len cap] w fun e w' => e = .returned (.bool false) ∧ w = w' := by
  have h' : decide ((1048576 : Int) < (len : Int)) = false := by simp; omega
  clear h
  go_enter Try.func30, Try.ntmps30
  go_wp2
  go_ret
  exact ⟨rfl, rfl⟩
theorem big_yes (w : World) (a : Option Addr) (len cap : Nat) (h : 1048576 < len) : Calls Try.prog 30 #[.slice a len cap] w fun e w' => e = .returned (.bool true) ∧ w = w' := by
  have h' : decide ((1048576 : Int) < (len : Int)) = true := by simp; omega
  clear h
  go_enter Try.func30, Try.ntmps30
  go_wp2
  go_ret
  exact ⟨rfl, rfl⟩
end Go.Proofs.Ytpelnfenfeoeeaa
end

section
/-
  What the drawing of a matrix gives: any matrix of the call's own, valid or not.
-/
namespace Go.Proofs.Ytpelnfenfeoeeaa
set_option maxRecDepth 100000
open Go.RowKit
def AnyMat (w : World) (e : Ending) (w' : World) : Prop := ∃ (r c : Int) (q : Option Addr) (qc : Nat) (zs : List Int), e = .returned (.agg #[.int .i64 r, .int .i64 c, .slice q zs.length qc]) ∧ Own w.heap.size w' (.slice q zs.length qc) zs ∧ zs.length ≤ 601 ∧ Below w.heap.size w w'
theorem AnyMat.end_ {w W : World} {B b : Nat} {r c : Int} {v p q s : Value} {zs : List Int} {pr : Nat → Prop} (own : OwnC B W v zs) (hl : zs.length ≤ 601) (k : Blk3 W b 26 p q s) (hB : w.heap.size ≤ B) (hb : w.heap.size ≤ b) (f : FrS pr w W) (hp : ∀ k, pr k → w.heap.size ≤ k) :
    ∃ (q : Option Addr) (qc : Nat), v = .slice q zs.length qc ∧ AnyMat w (.returned (.agg #[.int .i64 r, .int .i64 c, v])) (((W.setCell ⟨b, 0, none⟩ (.int .i64 r)).setCell ⟨b, 1, none⟩ (.int .i64 c)).setCell ⟨b, 2, none⟩ v) := by
  have o2 := ((own.out3 k (.int .i64 r) (.int .i64 c) v).own (by omega)).le hB
  obtain ⟨q, qc, rfl, -, -⟩ := o2.form
  refine ⟨q, qc, rfl, r, c, q, qc, zs, rfl, o2, hl, ?_⟩
  exact ((((f.below hp (Nat.le_refl _)).setCell hb _).setCell hb _).setCell hb _)
end Go.Proofs.Ytpelnfenfeoeeaa
end

section
/-
  The drawing of matrices: one of any size up to 4 by 4.
-/
namespace Go.Proofs.Ytpelnfenfeoeeaa
set_option maxRecDepth 100000
open Go.RowKit
set_option maxRecDepth 20000 in
set_option maxHeartbeats 2000000 in
theorem l3Any (w : World) (cb : Nat) (hc : Cur w cb) :
    Calls Try.prog 80 #[.pointer (some ⟨cb, 0, none⟩)] w (CurMat w.heap.size 600 cb (fun k => k = cb ∨ w.heap.size ≤ k) w) := by
  have hlt := hc.lt
  have C0 := Lib.hid hc
  clear hc
  go_enter Try.func80, Try.ntmps80
  go_wp2_with fail
  refine (l1Below _ cb 5 (C0.out.alloc (.cells #[.int .i64 0, .int .i64 0, .slice none 0 0] 26)) (by omega)).mono ?_
  rintro e w1 ⟨R, ⟨r0, r1⟩, rfl, hc1, hg1⟩
  have K2 : Hid (Blk3 w1 w.heap.size 26 (.int .i64 0) (.int .i64 0) (.slice none 0 0)) := (Blk3.at_ _ _ _ _ rfl).keepOne hg1 (by omega)
  have C1 := Lib.hid hc1
  have F1 : Hid (FrS (fun k => k = cb ∨ w.heap.size ≤ k) w w1) := ((FrS.refl _ w).alloc _).trans (FrS.of_one hg1 (.inl rfl))
  clear hc1 hg1 C0
  go_wp2_with fail
  refine (l1Below _ cb 5 C1.out (by omega)).mono ?_
  rintro e w2 ⟨C, ⟨c0, c1⟩, rfl, hc2, hg2⟩
  have K2 := Lib.hid (K2.out.keepOne hg2 (by omega))
  have C2 := Lib.hid hc2
  have F2 := Lib.hid (F1.out.trans (FrS.of_one hg2 (.inl rfl)))
  clear hc2 hg2 C1 F1
  have lk := K2.out.lt
  have lc := C2.out.lt
  go_wp2_with fail
  refine (l1PickInt (fun z => 1 ≤ z ∧ z ≤ 9) _ cb w2.heap.size 3 (C2.out.alloc _) ?_ (by omega) (by omega) (by omega)).mono ?_
  · exact IntList.new [1, 3, 9] (by decide) w2 3
  rintro e w3 ⟨z, ⟨z0, z1⟩, rfl, hc3, hg3⟩
  have K2 := Lib.hid ((K2.out.old _).keepOne hg3 (by omega))
  have C3 := Lib.hid hc3
  have F3 := Lib.hid ((F2.out.alloc _).trans (FrS.of_one hg3 (.inl rfl)))
  clear hc3 hg3 C2 F2 lk lc
  obtain ⟨R, rfl⟩ := Int.eq_ofNat_of_zero_le r0
  obtain ⟨C, rfl⟩ := Int.eq_ofNat_of_zero_le c0
  obtain ⟨z, rfl⟩ := Int.eq_ofNat_of_zero_le (show 0 ≤ z by omega)
  have lk := K2.out.lt
  have lc := C3.out.lt
  go_wp2_with fail
  refine (l3Draw _ cb R C z C3.out (by omega) (by omega) (by omega)).mono ?_
  rintro e w4 ⟨g, zs, rfl, hg, hz, hi, hc4, hg4⟩
  obtain ⟨N, hN⟩ : ∃ N, R * C = N := ⟨_, rfl⟩
  have hNle : N ≤ 16 := by rw [← hN]; exact Nat.mul_le_mul (show R ≤ 4 by omega) (show C ≤ 4 by omega)
  have HN := Lib.hid hN
  rw [hN] at hz hi ⊢
  have HZ := Lib.hid hz
  have K2 := Lib.hid ((K2.out.keepOne hg4 (by omega)).old (.cells #[.int .i64 R, .int .i64 C, .slice (some ⟨g, 0, none⟩) N N] 26))
  have K6 : Hid (Blk3 (w4.alloc (.cells #[.int .i64 R, .int .i64 C, .slice (some ⟨g, 0, none⟩) N N] 26)) w4.heap.size 26 (.int .i64 R) (.int .i64 C) (.slice (some ⟨g, 0, none⟩) N N)) := Blk3.at_ _ _ _ _ rfl
  have CU := Lib.hid (hc4.alloc (.cells #[.int .i64 R, .int .i64 C, .slice (some ⟨g, 0, none⟩) N N] 26))
  have FR := Lib.hid ((F3.out.trans (FrS.of_one hg4 (.inl rfl))).alloc (.cells #[.int .i64 R, .int .i64 C, .slice (some ⟨g, 0, none⟩) N N] 26))
  have I := Lib.hid (hi.old (.cells #[.int .i64 R, .int .i64 C, .slice (some ⟨g, 0, none⟩) N N] 26))
  have gp := hi.lt
  have wg : w.heap.size < g := by omega
  have wp : w.heap.size < w4.heap.size := by omega
  have hw4 := FR.out.size
  clear hN hz hi hc4 hg4 hg F3 C3 lk lc
  obtain ⟨x0, x1, x2, -, -, -⟩ := K6.out.all
  by_cases h1 : (1 : Int) < R
  · go_wp2_with fail
    refine (l1Once _ cb 4 CU.out (by omega)).mono ?_
    rintro e w5 ⟨b, rfl, hc5, hg5⟩
    have K2 := Lib.hid (K2.out.keepOne hg5 (by omega))
    have K6 := Lib.hid (K6.out.keepOne hg5 (by omega))
    have CU := Lib.hid hc5
    have FR := Lib.hid (FR.out.trans (FrS.of_one hg5 (.inl rfl)))
    have I := Lib.hid (I.out.move (hg5.block g I.out.lt (by simp; omega)))
    clear hc5 hg5 x0 x1 x2
    obtain ⟨x0, x1, x2, -, -, -⟩ := K6.out.all
    cases b with
    | false =>
      go_wp2_with fail
      refine (l3Spoil _ cb w.heap.size g N N R C zs CU.out hlt FR.out.size (by omega) I.out HZ.out (by omega)).mono ?_
      rintro e w9 ⟨r', c', v', zs', rfl, own, hl, hc9, hf⟩
      obtain ⟨q9, qc9, rfl, -, -⟩ := (own.own (by omega)).form
      have lk9 := K2.out.lt
      have K2 := Lib.hid (K2.out.frs hf (by omega))
      have F9 := Lib.hid (FR.out.trans ((hf.mono (q := fun k => k = cb ∨ w.heap.size ≤ k) (fun k hk => by have := FR.out.size; omega))))
      have O9 := Lib.hid own
      have C9 := Lib.hid hc9
      have HL := Lib.hid hl
      clear own hl hc9 hf
      obtain ⟨y0, y1, y2, y3, y4, y5⟩ := K2.out.all
      go_wp2_with fail
      obtain ⟨E0, E1, E2, -, -, -⟩ := (((K2.out.set0 (.int .i64 r')).set1 (.int .i64 c')).set2 (.slice q9 zs'.length qc9)).all
      exact bodyPost_ret (v := .agg #[.int .i64 r', .int .i64 c', .slice q9 zs'.length qc9]) (by simp [results, Try.results80, go_sem, E0, E1, E2]) rfl (CurMat.end_ O9.out (by have := HL.out; omega) K2.out C9.out hlt (.inr (Nat.le_refl _)) F9.out)
    | true =>
      go_wp2_with fail
      go_loopw [4] (fun i wr => ∃ (k : Nat) (zs : List Int), i = .int .i64 k ∧ k ≤ C ∧ zs.length = N ∧ IntsC wr g N zs ∧ FrS (fun k => k = g) w5 wr) (fun i _ => C - (intOf i).toNat)
      case atStart => exact ⟨0, zs, rfl, by omega, HZ.out, I.out, FrS.refl _ _⟩
      case round =>
        clear HZ
        obtain ⟨k, zs, rfl, hk, hz, hi, hfr⟩ := hrel
        have HZ := Lib.hid hz
        have I := Lib.hid hi
        have FG := Lib.hid hfr
        clear hz hi hfr x0 x1 x2
        have K6 := Lib.hid (K6.out.frs FG.out (by omega))
        obtain ⟨x0, x1, x2, -, -, -⟩ := K6.out.all
        by_cases hk2 : k < C
        · obtain ⟨R', hR'⟩ : ∃ R', R = R' + 1 := ⟨R - 1, by omega⟩
          have q1 : R' * C + k < N := by rw [← HN.out, hR']; exact idx_lt (Nat.lt_succ_self R') hk2
          have q2 : k < N := by omega
          have hc1 := I.out.ints.cell (i := R' * C + k) (by rw [HZ.out]; exact q1)
          have hc2 := I.out.ints.cell (i := k) (by rw [HZ.out]; exact q2)
          have hfr := I.out.ints.free k
          obtain ⟨x, hx⟩ : ∃ x, zs.getD (R' * C + k) 0 = x := ⟨_, rfl⟩
          rw [hx] at hc1
          obtain ⟨y, hy⟩ : ∃ y, zs.getD k 0 = y := ⟨_, rfl⟩
          rw [hy] at hc2
          have e0 : (R : Int) - 1 = (R' : Int) := by omega
          have e01 : IntKind.i64.wrap (R' : Int) = (R' : Int) := IntWalk.i64_in _ (by omega)
          have c1 : (R' : Int) * (C : Int) = ((R' * C : Nat) : Int) := (Int.natCast_mul _ _).symm
          have d1 : 0 ≤ (R' : Int) * (C : Int) ∧ (R' : Int) * (C : Int) ≤ 600 := by rw [c1]; omega
          have e1 : 0 ≤ (R' : Int) * (C : Int) + (k : Int) := by omega
          have e2 : (R' : Int) * (C : Int) + (k : Int) < (N : Int) := by rw [c1]; omega
          have e3 : ((R' : Int) * (C : Int) + (k : Int)).toNat = R' * C + k := by rw [c1]; omega
          obtain ⟨d11, d12⟩ := d1
          have v1 : IntKind.i64.wrap ((R' : Int) * (C : Int)) = (R' : Int) * (C : Int) := IntWalk.i64_in _ (by omega)
          have v2 : IntKind.i64.wrap ((R' : Int) * (C : Int) + (k : Int)) = (R' : Int) * (C : Int) + (k : Int) := IntWalk.i64_in _ (by omega)
          clear c1 hx hy hR'
          go_wp2_with fail
          go_still_tail 17, (by kernel_rfl)
          go_wp2_with fail
          go_roundw
          case rel =>
            refine ⟨k + 1, zs.set k (wrap64 (2 * x)), by go_num, by omega, by rw [List.length_set]; exact HZ.out, ?_, ?_⟩
            · exact I.out.drew.set k (by rw [HZ.out]; exact q2) _
            · exact (FG.out.drew).set (a := ⟨g, k, none⟩) (.inl rfl) _
          case measure => simp [intOf]; omega
        · have hk3 : decide (k < C) = false := by simpa using hk2
          have K2 := Lib.hid (K2.out.frs FG.out (by omega))
          have CU := Lib.hid (CU.out.frs FG.out (fun k hk => by omega))
          have FR := Lib.hid (FR.out.trans (FG.out.mono (q := fun k => k = cb ∨ w.heap.size ≤ k) (fun k hk => by omega)))
          go_wp2_with fail
          refine (l3Spoil _ cb w.heap.size g N N R C zs CU.out hlt FR.out.size (by omega) I.out HZ.out (by omega)).mono ?_
          rintro e w9 ⟨r', c', v', zs', rfl, own, hl, hc9, hf⟩
          obtain ⟨q9, qc9, rfl, -, -⟩ := (own.own (by omega)).form
          have lk9 := K2.out.lt
          have K2 := Lib.hid (K2.out.frs hf (by omega))
          have F9 := Lib.hid (FR.out.trans ((hf.mono (q := fun k => k = cb ∨ w.heap.size ≤ k) (fun k hk => by have := FR.out.size; omega))))
          have O9 := Lib.hid own
          have C9 := Lib.hid hc9
          have HL := Lib.hid hl
          clear own hl hc9 hf
          obtain ⟨y0, y1, y2, y3, y4, y5⟩ := K2.out.all
          go_wp2_with fail
          obtain ⟨E0, E1, E2, -, -, -⟩ := (((K2.out.set0 (.int .i64 r')).set1 (.int .i64 c')).set2 (.slice q9 zs'.length qc9)).all
          exact bodyPost_ret (v := .agg #[.int .i64 r', .int .i64 c', .slice q9 zs'.length qc9]) (by simp [results, Try.results80, go_sem, E0, E1, E2]) rfl (CurMat.end_ O9.out (by have := HL.out; omega) K2.out C9.out hlt (.inr (Nat.le_refl _)) F9.out)
  · have h1' : decide ((1 : Int) < (R : Int)) = false := by simpa using h1
    go_wp2_with fail
    refine (l3Spoil _ cb w.heap.size g N N R C zs CU.out hlt FR.out.size (by omega) I.out HZ.out (by omega)).mono ?_
    rintro e w9 ⟨r', c', v', zs', rfl, own, hl, hc9, hf⟩
    obtain ⟨q9, qc9, rfl, -, -⟩ := (own.own (by omega)).form
    have lk9 := K2.out.lt
    have K2 := Lib.hid (K2.out.frs hf (by omega))
    have F9 := Lib.hid (FR.out.trans ((hf.mono (q := fun k => k = cb ∨ w.heap.size ≤ k) (fun k hk => by have := FR.out.size; omega))))
    have O9 := Lib.hid own
    have C9 := Lib.hid hc9
    have HL := Lib.hid hl
    clear own hl hc9 hf
    obtain ⟨y0, y1, y2, y3, y4, y5⟩ := K2.out.all
    go_wp2_with fail
    obtain ⟨E0, E1, E2, -, -, -⟩ := (((K2.out.set0 (.int .i64 r')).set1 (.int .i64 c')).set2 (.slice q9 zs'.length qc9)).all
    exact bodyPost_ret (v := .agg #[.int .i64 r', .int .i64 c', .slice q9 zs'.length qc9]) (by simp [results, Try.results80, go_sem, E0, E1, E2]) rfl (CurMat.end_ O9.out (by have := HL.out; omega) K2.out C9.out hlt (.inr (Nat.le_refl _)) F9.out)
end Go.Proofs.Ytpelnfenfeoeeaa
end

section
/-
  The drawing of matrices of chapter 12.
-/
namespace Go.Proofs.Ytpelnfenfeoeeaa
set_option maxRecDepth 100000
open Go.RowKit
set_option maxHeartbeats 1000000 in
theorem drawHer (w : World) (a : Option Addr) (len cap : Nat) (hc : CodeIn w a len) : Calls Try.prog 38 #[.slice a len cap] w (AnyMat w) := by
  have HC := Lib.hid hc
  clear hc
  go_enter Try.func38, Try.ntmps38
  go_wp2_with fail
  refine (l1New _ a len cap (HC.out.below ((Below.refl _ _).alloc (Nat.le_refl _) _))).mono ?_
  rintro e w1 ⟨cb, rfl, hcb, hc1, hb1⟩
  have CB : w.heap.size < cb := by simp at hcb; omega
  have K2 : Hid (Blk3 w1 w.heap.size 26 (.int .i64 0) (.int .i64 0) (.slice none 0 0)) := (Blk3.at_ _ _ _ _ rfl).keep hb1 (by simp)
  have F1 : Hid (FrS (fun k => w.heap.size ≤ k) w w1) := ((FrS.refl _ w).alloc _).trans (FrS.of_below hb1)
  have C1 := Lib.hid hc1
  clear hcb hc1 hb1
  go_wp2_with fail
  refine (l3Any _ cb C1.out).mono ?_
  rintro e w3 ⟨r, c, v, xs, rfl, own, hl, hc3, hf⟩
  have s1 := F1.out.size
  have lk := K2.out.lt
  have K2 := Lib.hid (K2.out.frs hf (by omega))
  have F3 := Lib.hid (F1.out.trans (hf.mono2 (q := fun k => w.heap.size ≤ k) (fun k _ hk => by omega)))
  obtain ⟨q, qc, rfl, en⟩ := AnyMat.end_ (w := w) (r := r) (c := c) own (by omega) K2.out (by omega) (Nat.le_refl _) F3.out (fun k hk => hk)
  have EN := Lib.hid en
  clear own hc3 hf en
  obtain ⟨y0, y1, y2, y3, y4, y5⟩ := K2.out.all
  go_wp2_with fail
  obtain ⟨E0, E1, E2, -, -, -⟩ := (((K2.out.set0 (.int .i64 r)).set1 (.int .i64 c)).set2 (.slice q xs.length qc)).all
  exact bodyPost_ret (v := .agg #[.int .i64 r, .int .i64 c, .slice q xs.length qc]) (by simp [results, Try.results38, go_sem, E0, E1, E2]) rfl EN.out
end Go.Proofs.Ytpelnfenfeoeeaa
end

section
/-
  Plain mathematics: finite sums. Nothing of a program is used.
-/
namespace Go.Proofs.Ytpelnfenfeoeeaa
def sumN : Nat → (Nat → Int) → Int
  | 0, _ => 0
  | n + 1, f => sumN n f + f n
theorem sumN_congr {n : Nat} {f g : Nat → Int} (h : ∀ k : Nat, k < n → f k = g k) : sumN n f = sumN n g := by
  induction n with
  | zero => rfl
  | succ n ih =>
    show sumN n f + f n = sumN n g + g n
    rw [ih (fun k hk => h k (by omega)), h n (by omega)]
theorem sumN_add (n : Nat) (f g : Nat → Int) : sumN n (fun k => f k + g k) = sumN n f + sumN n g := by
  induction n with
  | zero => rfl
  | succ n ih =>
    show sumN n (fun k => f k + g k) + (f n + g n) = (sumN n f + f n) + (sumN n g + g n)
    rw [ih]; omega
theorem sumN_mul (n : Nat) (f : Nat → Int) (z : Int) : sumN n f * z = sumN n (fun k => f k * z) := by
  induction n with
  | zero => exact Int.zero_mul z
  | succ n ih =>
    show (sumN n f + f n) * z = sumN n (fun k => f k * z) + f n * z
    rw [Int.add_mul, ih]
theorem sumN_mul_left (n : Nat) (f : Nat → Int) (z : Int) : z * sumN n f = sumN n (fun k => z * f k) := by
  rw [Int.mul_comm, sumN_mul]
  exact sumN_congr fun k _ => Int.mul_comm _ _
theorem sumN_zero (n : Nat) : sumN n (fun _ => 0) = 0 := by
  induction n with
  | zero => rfl
  | succ n ih => show sumN n (fun _ => 0) + 0 = 0; rw [ih]; rfl
theorem sumN_swap (m n : Nat) (f : Nat → Nat → Int) : sumN m (fun i => sumN n (fun j => f i j)) = sumN n (fun j => sumN m (fun i => f i j)) := by
  induction m with
  | zero => exact (sumN_zero n).symm
  | succ m ih =>
    show sumN m (fun i => sumN n (fun j => f i j)) + sumN n (fun j => f m j) = sumN n (fun j => sumN m (fun i => f i j) + f m j)
    rw [ih, sumN_add]
end Go.Proofs.Ytpelnfenfeoeeaa
end

section
/-
  Determinants: expansion along the first column; linear in each row; 0 where two rows are equal. Plain mathematics: nothing of a program is used.
-/
namespace Go.Proofs.Ytpelnfenfeoeeaa
theorem sumN_first (n : Nat) (f : Nat → Int) : sumN (n + 1) f = f 0 + sumN n (fun i => f (i + 1)) := by
  induction n with
  | zero => show 0 + f 0 = f 0 + 0; omega
  | succ n ih =>
    show sumN (n + 1) f + f (n + 1) = f 0 + (sumN n (fun i => f (i + 1)) + f (n + 1))
    rw [ih]; omega
theorem sumN_all_zero {n : Nat} {f : Nat → Int} (h : ∀ k, k < n → f k = 0) : sumN n f = 0 := by
  rw [sumN_congr h]; exact sumN_zero n
theorem sumN_one {n a : Nat} {f : Nat → Int} (ha : a < n) (h : ∀ k, k < n → k ≠ a → f k = 0) : sumN n f = f a := by
  induction n with
  | zero => omega
  | succ n ih =>
    show sumN n f + f n = f a
    rcases Nat.lt_or_ge a n with h1 | h1
    · rw [ih h1 (fun k hk hne => h k (by omega) hne), h n (by omega) (by omega)]; omega
    · obtain rfl : a = n := by omega
      rw [sumN_all_zero (fun k hk => h k (by omega) (by omega))]; omega
theorem sumN_two {n a b : Nat} {f : Nat → Int} (ha : a < b) (hb : b < n) (h : ∀ k, k < n → k ≠ a → k ≠ b → f k = 0) : sumN n f = f a + f b := by
  have e : sumN n f = sumN n (fun k => (if k = a then f a else 0) + (if k = b then f b else 0)) := by
    refine sumN_congr fun k hk => ?_
    by_cases h1 : k = a
    · subst h1; rw [if_pos rfl, if_neg (by omega)]; omega
    · by_cases h2 : k = b
      · subst h2; rw [if_neg h1, if_pos rfl]; omega
      · rw [if_neg h1, if_neg h2, h k hk h1 h2]; rfl
  rw [e, sumN_add, sumN_one (a := a) (by omega) (fun k _ hk => if_neg hk), sumN_one (a := b) hb (fun k _ hk => if_neg hk), if_pos rfl, if_pos rfl]
def sg (k : Nat) : Int := if k % 2 = 0 then 1 else -1
theorem sg_zero : sg 0 = 1 := rfl
theorem sg_succ (k : Nat) : sg (k + 1) = -sg k := by
  unfold sg
  by_cases h : k % 2 = 0
  · rw [if_pos h, if_neg (by omega)]
  · rw [if_neg h, if_pos (by omega)]; rfl
theorem sg_add (a b : Nat) : sg (a + b) = sg a * sg b := by
  induction b with
  | zero => rw [Nat.add_zero, sg_zero, Int.mul_one]
  | succ b ih => rw [← Nat.add_assoc, sg_succ, sg_succ, ih, Int.mul_neg]
theorem sg_sq (a : Nat) : sg a * sg a = 1 := by
  unfold sg
  split <;> rfl
def skp (j k : Nat) : Nat := if k < j then k else k + 1
def unskp (j k : Nat) : Nat := if k < j then k else k - 1
theorem skp_ne (j k : Nat) : skp j k ≠ j := by unfold skp; split <;> omega
theorem skp_lt {j k n : Nat} (h : k < n) : skp j k < n + 1 := by unfold skp; split <;> omega
theorem skp_unskp {j k : Nat} (h : k ≠ j) : skp j (unskp j k) = k := by
  unfold skp unskp
  by_cases h1 : k < j
  · rw [if_pos h1, if_pos h1]
  · rw [if_neg h1, if_neg (by omega)]; omega
theorem unskp_skp (j k : Nat) : unskp j (skp j k) = k := by
  unfold skp unskp
  by_cases h1 : k < j
  · rw [if_pos h1, if_pos h1]
  · rw [if_neg h1, if_neg (by omega)]; omega
theorem unskp_lt {j k n : Nat} (h : k ≠ j) (hk : k < n + 1) (hj : j < n + 1) : unskp j k < n := by unfold unskp; split <;> omega
theorem skp_zero (k : Nat) : skp 0 k = k + 1 := by unfold skp; rw [if_neg (by omega)]
theorem skp_succ (j k : Nat) : skp (j + 1) (k + 1) = skp j k + 1 := by
  unfold skp
  by_cases h : k < j
  · rw [if_pos h, if_pos (by omega)]
  · rw [if_neg h, if_neg (by omega)]
theorem skp_first (j : Nat) (h : 0 < j) : skp j 0 = 0 := by unfold skp; rw [if_pos h]
abbrev Mx : Type := Nat → Nat → Int
def EqX (n : Nat) (A B : Mx) : Prop := ∀ r c, r < n → c < n → A r c = B r c
theorem EqX.symm {n : Nat} {A B : Mx} (h : EqX n A B) : EqX n B A := fun r c hr hc => (h r c hr hc).symm
def mnr (A : Mx) (i j : Nat) : Mx := fun r c => A (skp i r) (skp j c)
def stR (A : Mx) (r : Nat) (v : Nat → Int) : Mx := fun i j => if i = r then v j else A i j
theorem stR_at (A : Mx) (r : Nat) (v : Nat → Int) (c : Nat) : stR A r v r c = v c := if_pos rfl
theorem stR_ne (A : Mx) (r i : Nat) (v : Nat → Int) (c : Nat) (h : i ≠ r) : stR A r v i c = A i c := if_neg h
theorem stR_self (A : Mx) (r : Nat) : stR A r (A r) = A := by
  funext i j
  unfold stR
  split
  · rename_i h; rw [h]
  · rfl
theorem EqX.mnr {n i j : Nat} {A B : Mx} (h : EqX (n + 1) A B) : EqX n (mnr A i j) (mnr B i j) := fun _ _ hr hc => h _ _ (skp_lt hr) (skp_lt hc)
def det : Nat → Mx → Int
  | 0, _ => 1
  | n + 1, A => sumN (n + 1) fun i => sg i * A i 0 * det n (mnr A i 0)
theorem det_succ (n : Nat) (A : Mx) : det (n + 1) A = sumN (n + 1) fun i => sg i * A i 0 * det n (mnr A i 0) := rfl
theorem det_congr {n : Nat} {A B : Mx} (h : EqX n A B) : det n A = det n B := by
  induction n generalizing A B with
  | zero => rfl
  | succ n ih =>
    rw [det_succ, det_succ]
    refine sumN_congr fun i hi => ?_
    rw [h i 0 hi (by omega), ih h.mnr]
theorem mnr_stR_same (A : Mx) (r j : Nat) (v : Nat → Int) : mnr (stR A r v) r j = mnr A r j := by
  funext i c
  exact stR_ne A r _ v _ (skp_ne r i)
theorem mnr_stR (A : Mx) (i r j : Nat) (v : Nat → Int) (h : r ≠ i) : mnr (stR A r v) i j = stR (mnr A i j) (unskp i r) (fun c => v (skp j c)) := by
  funext k c
  show (if skp i k = r then v (skp j c) else A (skp i k) (skp j c)) = if k = unskp i r then v (skp j c) else A (skp i k) (skp j c)
  by_cases e : k = unskp i r
  · rw [if_pos e, if_pos (by rw [e]; exact skp_unskp h)]
  · rw [if_neg e, if_neg (fun e2 => e (by rw [← e2, unskp_skp]))]
def Loc (n : Nat) (f : Mx → Int) : Prop := ∀ A B, EqX n A B → f A = f B
def Lin (n : Nat) (f : Mx → Int) : Prop := ∀ (A : Mx) (r : Nat) (u v : Nat → Int) (x y : Int), r < n → f (stR A r fun c => x * u c + y * v c) = x * f (stR A r u) + y * f (stR A r v)
def AltAt (n r s : Nat) (f : Mx → Int) : Prop := ∀ A, (∀ c, c < n → A r c = A s c) → f A = 0
def Alt (n : Nat) (f : Mx → Int) : Prop := ∀ r s, r < s → s < n → AltAt n r s f
theorem det_loc (n : Nat) : Loc n (det n) := fun _ _ h => det_congr h
theorem det_lin (n : Nat) : Lin n (det n) := by
  induction n with
  | zero => intro A r u v x y hr; omega
  | succ n ih =>
    intro A r u v x y hr
    rw [det_succ, det_succ, det_succ, sumN_mul_left, sumN_mul_left, ← sumN_add]
    refine sumN_congr fun i hi => ?_
    by_cases h : i = r
    · subst h
      rw [stR_at, stR_at, stR_at, mnr_stR_same, mnr_stR_same, mnr_stR_same]
      generalize det n (mnr A i 0) = d
      generalize sg i = s
      grind
    · rw [stR_ne _ _ _ _ _ h, stR_ne _ _ _ _ _ h, stR_ne _ _ _ _ _ h, mnr_stR _ _ _ _ _ (Ne.symm h), mnr_stR _ _ _ _ _ (Ne.symm h), mnr_stR _ _ _ _ _ (Ne.symm h)]
      rw [ih (mnr A i 0) (unskp i r) (fun c => u (skp 0 c)) (fun c => v (skp 0 c)) x y (unskp_lt (Ne.symm h) hr hi)]
      generalize det n (stR (mnr A i 0) (unskp i r) fun c => u (skp 0 c)) = d
      generalize det n (stR (mnr A i 0) (unskp i r) fun c => v (skp 0 c)) = e
      generalize sg i = s
      grind
theorem det_adj (n : Nat) : ∀ r, r + 1 < n → AltAt n r (r + 1) (det n) := by
  induction n with
  | zero => intro r hr; omega
  | succ n ih =>
    intro r hr A hA
    rw [det_succ, sumN_two (a := r) (b := r + 1) (by omega) hr]
    · have e : EqX n (mnr A (r + 1) 0) (mnr A r 0) := fun k c hk hc => by
        show A (skp (r + 1) k) (skp 0 c) = A (skp r k) (skp 0 c)
        by_cases h : k = r
        · subst h
          have e1 : skp (k + 1) k = k := by unfold skp; rw [if_pos (by omega)]
          have e2 : skp k k = k + 1 := by unfold skp; rw [if_neg (by omega)]
          rw [e1, e2]
          exact hA _ (skp_lt hc)
        · have e1 : skp (r + 1) k = skp r k := by
            unfold skp
            by_cases h1 : k < r
            · rw [if_pos h1, if_pos (by omega)]
            · rw [if_neg h1, if_neg (by omega)]
          rw [e1]
      rw [det_congr e, sg_succ, hA 0 (by omega)]
      generalize det n (mnr A r 0) = d
      generalize sg r = s
      grind
    · intro i hi h1 h2
      have hz : det n (mnr A i 0) = 0 := by
        rcases Nat.lt_or_ge i r with h | h
        · refine ih (r - 1) (by omega) _ fun c hc => ?_
          show A (skp i (r - 1)) (skp 0 c) = A (skp i (r - 1 + 1)) (skp 0 c)
          have e1 : skp i (r - 1) = r := by unfold skp; rw [if_neg (by omega)]; omega
          have e2 : skp i (r - 1 + 1) = r + 1 := by unfold skp; rw [if_neg (by omega)]; omega
          rw [e1, e2]
          exact hA _ (skp_lt hc)
        · refine ih r (by omega) _ fun c hc => ?_
          show A (skp i r) (skp 0 c) = A (skp i (r + 1)) (skp 0 c)
          have e1 : skp i r = r := by unfold skp; rw [if_pos (by omega)]
          have e2 : skp i (r + 1) = r + 1 := by unfold skp; rw [if_pos (by omega)]
          rw [e1, e2]
          exact hA _ (skp_lt hc)
      rw [hz, Int.mul_zero]
def swR (A : Mx) (r s : Nat) : Mx := fun i j => if i = r then A s j else if i = s then A r j else A i j
theorem swap_of {n r s : Nat} {f : Mx → Int} (hl : Lin n f) (ha : AltAt n r s f) (hrs : r ≠ s) (hr : r < n) (hs : s < n) (A : Mx) : f (swR A r s) = -f A := by
  have L1 : ∀ (A : Mx) (q : Nat) (u v : Nat → Int), q < n → f (stR A q fun c => u c + v c) = f (stR A q u) + f (stR A q v) := fun A q u v hq => by
    have := hl A q u v 1 1 hq
    simp only [Int.one_mul] at this
    exact this
  have ee : ∀ u : Nat → Int, f (stR (stR A r u) s u) = 0 := fun u => ha _ fun c _ => by
    rw [stR_at, stR_ne _ _ _ _ _ hrs, stR_at]
  have h0 := ee (fun c => A r c + A s c)
  rw [L1 _ s _ _ hs] at h0
  have c1 : ∀ u v : Nat → Int, stR (stR A r u) s v = stR (stR A s v) r u := fun u v => by
    funext i j
    unfold stR
    by_cases h1 : i = s
    · subst h1; rw [if_pos rfl, if_neg (Ne.symm hrs), if_pos rfl]
    · rw [if_neg h1]
      by_cases h2 : i = r
      · rw [if_pos h2, if_pos h2]
      · rw [if_neg h2, if_neg h2, if_neg h1]
  rw [c1, c1, L1 _ r _ _ hr, L1 _ r _ _ hr, ← c1, ← c1, ← c1, ← c1, ee, ee] at h0
  have e1 : stR (stR A r (A r)) s (A s) = A := by rw [stR_self, stR_self]
  have e2 : stR (stR A r (A s)) s (A r) = swR A r s := by
    funext i j
    unfold stR swR
    by_cases h1 : i = s
    · subst h1; rw [if_pos rfl, if_neg (Ne.symm hrs), if_pos rfl]
    · rw [if_neg h1, if_neg h1]
  rw [e1, e2] at h0
  omega
theorem det_alt (n : Nat) : Alt n (det n) := by
  have key : ∀ d r, r + d + 1 < n → AltAt n r (r + d + 1) (det n) := by
    intro d
    induction d with
    | zero => intro r hr; exact det_adj n r hr
    | succ d ih =>
      intro r hr A hA
      have h1 := swap_of (det_lin n) (det_adj n (r + d + 1) hr) (by omega) (by omega) hr A
      have h2 := ih r (by omega) (swR A (r + d + 1) (r + d + 1 + 1)) fun c hc => by
        unfold swR
        rw [if_neg (by omega), if_neg (by omega), if_pos rfl]
        exact hA c hc
      rw [h2] at h1
      omega
  intro r s hrs hs
  obtain ⟨d, rfl⟩ : ∃ d, s = r + d + 1 := ⟨s - r - 1, by omega⟩
  exact key d r hs
theorem alt_at {n r s : Nat} {f : Mx → Int} (ha : Alt n f) (hrs : r ≠ s) (hr : r < n) (hs : s < n) : AltAt n r s f := by
  rcases Nat.lt_or_ge r s with h | h
  · exact ha r s h hs
  · exact fun A hA => ha s r (by omega) hr A fun c hc => (hA c hc).symm
theorem alt_swap {n r s : Nat} {f : Mx → Int} (hl : Lin n f) (ha : Alt n f) (hrs : r ≠ s) (hr : r < n) (hs : s < n) (A : Mx) : f (swR A r s) = -f A :=
  swap_of hl (alt_at ha hrs hr hs) hrs hr hs A
theorem lin_zero {n r : Nat} {f : Mx → Int} (hl : Lin n f) (hr : r < n) (A : Mx) : f (stR A r fun _ => 0) = 0 := by
  have := hl A r (fun _ => 0) (fun _ => 0) 0 0 hr
  simp only [Int.zero_mul, Int.add_zero] at this
  exact this
theorem lin_scale {n r : Nat} {f : Mx → Int} (hl : Lin n f) (hr : r < n) (A : Mx) (x : Int) (u : Nat → Int) : f (stR A r fun c => x * u c) = x * f (stR A r u) := by
  have := hl A r u u x 0 hr
  simp only [Int.zero_mul, Int.add_zero] at this
  exact this
theorem lin_sum {n r : Nat} {f : Mx → Int} (hl : Lin n f) (hr : r < n) (A : Mx) (m : Nat) (x : Nat → Int) (u : Nat → Nat → Int) :
    f (stR A r fun c => sumN m fun k => x k * u k c) = sumN m fun k => x k * f (stR A r (u k)) := by
  induction m with
  | zero => exact lin_zero hl hr A
  | succ m ih =>
    have := hl A r (fun c => sumN m fun k => x k * u k c) (u m) 1 (x m) hr
    simp only [Int.one_mul] at this
    show f (stR A r fun c => (sumN m fun k => x k * u k c) + x m * u m c) = _
    rw [this, ih]
    rfl
theorem alt_add {n r s : Nat} {f : Mx → Int} (hl : Lin n f) (ha : Alt n f) (hrs : r ≠ s) (hr : r < n) (hs : s < n) (A : Mx) (x : Int) : f (stR A r fun c => A r c + x * A s c) = f A := by
  have := hl A r (A r) (A s) 1 x hr
  simp only [Int.one_mul] at this
  rw [this, stR_self, alt_at ha hrs hr hs (stR A r (A s)) (fun c _ => by rw [stR_at, stR_ne _ _ _ _ _ (Ne.symm hrs)])]
  omega
end Go.Proofs.Ytpelnfenfeoeeaa
end

section
/-
  Plain mathematics of chapter 7: what rows span over the rational numbers; echelon forms are unique. Nothing of a program is used.
-/
namespace Go.Proofs.Ytpelnfenfeoeeaa
section
variable {r c t : Nat} {A : Mx} {p : Nat → Nat} {v : Nat → Int}
end
end Go.Proofs.Ytpelnfenfeoeeaa
end
