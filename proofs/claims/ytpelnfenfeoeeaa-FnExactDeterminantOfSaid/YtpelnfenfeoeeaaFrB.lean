/-
  Frames: of the blocks that were there only those of a given kind may have changed; rows of ints with their capacity. No function of the program is named.
-/
import Derived.Test.YtpelnfenfeoeeaaInts
import Derived.Maps.AppendAt
import Derived.OwnWalk
namespace Go.Proofs.Ytpelnfenfeoeeaa
open Go.RowKit

/-- Of the blocks that were there only those with the property p may have changed. -/
structure FrS (p : Nat → Prop) (w w' : World) : Prop where
  os : w'.os = w.os
  tape : w'.tape = w.tape
  output : w'.output = w.output
  size : w.heap.size ≤ w'.heap.size
  block : ∀ k, k < w.heap.size → ¬ p k → w'.heap[k]? = w.heap[k]?
theorem FrS.refl (p : Nat → Prop) (w : World) : FrS p w w := ⟨rfl, rfl, rfl, Nat.le_refl _, fun _ _ _ => rfl⟩
theorem FrS.trans {p : Nat → Prop} {w w1 w2 : World} (h : FrS p w w1) (h' : FrS p w1 w2) : FrS p w w2 :=
  ⟨h'.os.trans h.os, h'.tape.trans h.tape, h'.output.trans h.output, Nat.le_trans h.size h'.size, fun k hk hp => (h'.block k (Nat.lt_of_lt_of_le hk h.size) hp).trans (h.block k hk hp)⟩
theorem FrS.of_one {p : Nat → Prop} {w w' : World} {g : Nat} (h : w.grownBy w' (some g)) (hp : p g) : FrS p w w' :=
  ⟨h.os, h.tape, h.output, h.size, fun k hk hn => h.block k hk (by rintro e; injection e with e; subst e; exact hn hp)⟩
theorem FrS.of_below {p : Nat → Prop} {w w' : World} (h : Below w.heap.size w w') : FrS p w w' := ⟨h.os, h.tape, h.output, h.size, fun k hk _ => h.block k hk⟩
theorem FrS.drew {p : Nat → Prop} {w w' : World} (h : FrS p w w') : FrS p w w'.drew := ⟨h.os, h.tape, h.output, h.size, h.block⟩
theorem FrS.drewN {p : Nat → Prop} {w w' : World} (h : FrS p w w') (n : Nat) : FrS p w (w'.drewN n) := ⟨h.os, h.tape, h.output, h.size, h.block⟩
theorem FrS.set {p : Nat → Prop} {w w' : World} (h : FrS p w w') {a : Addr} (ha : p a.block ∨ w.heap.size ≤ a.block) (u : Value) : FrS p w (w'.setCell a u) :=
  ⟨h.os, h.tape, h.output, by simpa [World.setCell] using h.size, fun k hk hp => (Below.heap_setCell w' a u k (by rintro rfl; rcases ha with ha | ha; exact hp ha; omega)).trans (h.block k hk hp)⟩
theorem FrS.alloc {p : Nat → Prop} {w w' : World} (h : FrS p w w') (o : Obj) : FrS p w (w'.alloc o) := h.trans (FrS.of_below ((Below.refl _ _).alloc (Nat.le_refl _) o))
theorem FrS.one {w w' : World} {g : Nat} {p : Nat → Prop} (h : FrS p w w') (hp : ∀ k, k < w.heap.size → p k → k = g) : w.grownBy w' (some g) :=
  ⟨h.os, h.tape, h.output, h.size, fun k hk hn => h.block k hk (fun hpk => hn (by rw [hp k hk hpk]))⟩
theorem FrS.below {w w' : World} {B : Nat} {p : Nat → Prop} (h : FrS p w w') (hp : ∀ k, p k → B ≤ k) (hB : B ≤ w.heap.size) : Below B w w' :=
  ⟨h.os, h.tape, h.output, h.size, fun k hk => h.block k (by omega) (fun hpk => by have := hp k hpk; omega)⟩
theorem FrS.mono {p q : Nat → Prop} {w w' : World} (h : FrS p w w') (hq : ∀ k, p k → q k) : FrS q w w' := ⟨h.os, h.tape, h.output, h.size, fun k hk hn => h.block k hk (fun hp => hn (hq k hp))⟩
theorem Blk3.frs {w w' : World} {b : Nat} {t : TypeId} {x y z : Value} {p : Nat → Prop} (h : Blk3 w b t x y z) (hf : FrS p w w') (hb : ¬ p b) : Blk3 w' b t x y z := (hf.block b h.lt hb).trans h
theorem Rd.frs {w w' : World} {a : Option Addr} {zs : List Int} {p : Nat → Prop} (h : Rd w a zs) (hf : FrS p w w') (hb : ∀ b o : Nat, a = some ⟨b, o, none⟩ → ¬ p b) : Rd w' a zs := fun i hi => by
  obtain ⟨b, o, ha, hc⟩ := h i hi
  have hl := World.block_lt_of_cell? w _ hc
  exact ⟨b, o, ha, (World.cell?_of_block (w := w) (hf.block b (by simpa using hl) (hb b o ha))).trans hc⟩
theorem Ints.frs {w w' : World} {g : Nat} {zs : List Int} {p : Nat → Prop} (h : Ints w g zs) (hf : FrS p w w') (hb : ¬ p g) : Ints w' g zs := h.move (hf.block g h.lt hb)
/-- Block g holds cap cells, none of them frozen, and begins with the ints zs. -/
def IntsC (w : World) (g cap : Nat) (zs : List Int) : Prop := cap ≤ maxLen ∧ ∃ rest : List Value, zs.length + rest.length = cap ∧ w.heap[g]? = some (.cells (zs.map (Value.int .i64) ++ rest).toArray 3 (0, 0))
theorem IntsC.ints {w : World} {g cap : Nat} {zs : List Int} (h : IntsC w g cap zs) : Ints w g zs := by
  obtain ⟨_, rest, _, h⟩ := h
  exact ⟨rest, h⟩
theorem IntsC.lt {w : World} {g cap : Nat} {zs : List Int} (h : IntsC w g cap zs) : g < w.heap.size := h.ints.lt
theorem IntsC.le {w : World} {g cap : Nat} {zs : List Int} (h : IntsC w g cap zs) : zs.length ≤ cap := by
  obtain ⟨_, rest, h, _⟩ := h
  omega
theorem IntsC.move {w w' : World} {g cap : Nat} {zs : List Int} (h : IntsC w g cap zs) (e : w'.heap[g]? = w.heap[g]?) : IntsC w' g cap zs := by
  obtain ⟨h0, rest, h1, h2⟩ := h
  exact ⟨h0, rest, h1, e.trans h2⟩
theorem IntsC.frs {w w' : World} {g cap : Nat} {zs : List Int} {p : Nat → Prop} (h : IntsC w g cap zs) (hf : FrS p w w') (hb : ¬ p g) : IntsC w' g cap zs := h.move (hf.block g h.lt hb)
theorem IntsC.drew {w : World} {g cap : Nat} {zs : List Int} (h : IntsC w g cap zs) : IntsC w.drew g cap zs := h
theorem IntsC.old {w : World} {g cap : Nat} {zs : List Int} (h : IntsC w g cap zs) (o : Obj) : IntsC (w.alloc o) g cap zs := h.move (Below.heap_alloc w o g h.lt)
theorem IntsC.far {w : World} {g cap : Nat} {zs : List Int} (h : IntsC w g cap zs) {a : Addr} (ha : g ≠ a.block) (u : Value) : IntsC (w.setCell a u) g cap zs := h.move (Below.heap_setCell w a u g ha)
theorem IntsC.set {w : World} {g cap : Nat} {zs : List Int} (h : IntsC w g cap zs) (i : Nat) (hi : i < zs.length) (z : Int) : IntsC (w.setCell ⟨g, i, none⟩ (.int .i64 z)) g cap (zs.set i z) := by
  obtain ⟨h0, rest, h1, h2⟩ := h
  refine ⟨h0, rest, by simpa using h1, ?_⟩
  simp [World.setCell, Array.getElem?_modify, h2, hi]
theorem IntsC.made {w : World} {g : Nat} (n : Nat) (hn : n ≤ 16777216) (hg : g = w.heap.size) : IntsC (w.alloc (.cells (madeCells #[.int .i64 0] n) 3)) g n (List.replicate n 0) := by
  subst hg
  refine ⟨by unfold maxLen; omega, [], by simp, ?_⟩
  rw [madeCells_ints, List.append_nil]
  exact heap_alloc_new w _
theorem IntsC.row {w : World} {B g cap : Nat} {zs : List Int} (h : IntsC w g cap zs) (hB : B ≤ g) : w.ownsRow B 3 1 (.slice (some ⟨g, 0, none⟩) zs.length cap) zs.length (zs.map (Value.int .i64)) := by
  obtain ⟨h0, rest, h1, h2⟩ := h
  refine ⟨by simp, .inr ⟨g, cap, _, rfl, hB, h2, by omega, h0, by simp; omega, by simp⟩⟩
/-- The slice value v shows the ints zs; it is nil, or it begins a block from B on, of which all is known. -/
def OwnC (B : Nat) (w : World) (v : Value) (zs : List Int) : Prop := (v = .slice none 0 0 ∧ zs = []) ∨ ∃ g cap : Nat, v = .slice (some ⟨g, 0, none⟩) zs.length cap ∧ B ≤ g ∧ IntsC w g cap zs
theorem OwnC.of_row {B : Nat} {w : World} {v : Value} {zs : List Int} (h : w.ownsRow B 3 1 v zs.length (zs.map (Value.int .i64))) : OwnC B w v zs := by
  rcases h.2 with ⟨rfl, h0⟩ | ⟨g, cap, cur, rfl, hB, hg, hc, hm, hs, ht⟩
  · exact .inl ⟨rfl, List.eq_nil_of_length_eq_zero h0⟩
  · refine .inr ⟨g, cap, rfl, hB, hm, cur.toList.drop zs.length, ?_, ?_⟩
    · have : cur.toList.length = cap := by rw [Array.length_toList, hs, Nat.mul_one]
      rw [List.length_drop]; omega
    · rw [hg]
      congr 2
      rw [Nat.mul_one] at ht
      rw [← ht, List.take_append_drop]
theorem OwnC.own {B : Nat} {w : World} {v : Value} {zs : List Int} (h : OwnC B w v zs) (hl : zs.length ≤ 16777216) : Own B w v zs := by
  rcases h with h | ⟨g, cap, hv, hB, hi⟩
  · exact .inl h
  · exact .inr ⟨g, cap, hv, hB, hi.ints, hi.le, hl⟩
theorem OwnC.frs {B : Nat} {w w' : World} {v : Value} {zs : List Int} {p : Nat → Prop} (h : OwnC B w v zs) (hf : FrS p w w') (hp : ∀ k, B ≤ k → ¬ p k) : OwnC B w' v zs := by
  rcases h with h | ⟨g, cap, hv, hB, hi⟩
  · exact .inl h
  · exact .inr ⟨g, cap, hv, hB, hi.frs hf (hp g hB)⟩
theorem OwnC.le {B B' : Nat} {w : World} {v : Value} {zs : List Int} (h : OwnC B w v zs) (hB : B' ≤ B) : OwnC B' w v zs := by
  rcases h with h | ⟨g, cap, hv, hg, hi⟩
  · exact .inl h
  · exact .inr ⟨g, cap, hv, by omega, hi⟩
end Go.Proofs.Ytpelnfenfeoeeaa
