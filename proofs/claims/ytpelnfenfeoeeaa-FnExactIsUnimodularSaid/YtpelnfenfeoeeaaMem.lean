/-
  Memory in a law's walk: vectors that lie in known stretches of blocks, and what changes outside such a stretch: nothing.
-/
import Derived.Test.YtpelnfenfeoeeaaLawMat
import Derived.Test.YtpelnfenfeoeeaaMatS
namespace Go.Proofs.Ytpelnfenfeoeeaa
open Go.RowKit

/-- Of the blocks that were there only those from B to T (T not in it) may have changed. -/
structure Chg (B T : Nat) (w w' : World) : Prop where
  os : w'.os = w.os
  tape : w'.tape = w.tape
  output : w'.output = w.output
  size : w.heap.size ≤ w'.heap.size
  block : ∀ k, k < w.heap.size → ¬ (B ≤ k ∧ k < T) → w'.heap[k]? = w.heap[k]?
theorem Chg.of_below {B T : Nat} {w w' : World} (h : Below w.heap.size w w') : Chg B T w w' := ⟨h.os, h.tape, h.output, h.size, fun k hk _ => h.block k hk⟩
theorem Chg.of_one {B T g : Nat} {w w' : World} (h : w.grownBy w' (some g)) (h1 : B ≤ g) (h2 : g < T) : Chg B T w w' :=
  ⟨h.os, h.tape, h.output, h.size, fun k hk hn => h.block k hk (by simp; rintro rfl; exact hn ⟨h1, h2⟩)⟩
theorem Below.chg {C B T : Nat} {w w1 w' : World} (h : Below C w w1) (hc : Chg B T w1 w') (hB : C ≤ B) (hw : C ≤ w1.heap.size) : Below C w w' :=
  ⟨hc.os.trans h.os, hc.tape.trans h.tape, hc.output.trans h.output, Nat.le_trans h.size hc.size, fun k hk => (hc.block k (by omega) (by omega)).trans (h.block k hk)⟩
theorem Blk3.chg {w w' : World} {b B T : Nat} {t : TypeId} {p q r : Value} (h : Blk3 w b t p q r) (hc : Chg B T w w') (hb : b < B ∨ T ≤ b) : Blk3 w' b t p q r := (hc.block b h.lt (by omega)).trans h

/-- The slice value v shows the ints zs; it is nil, or begins a block from B to T. -/
def In (B T : Nat) (w : World) (v : Value) (zs : List Int) : Prop :=
  (v = .slice none 0 0 ∧ zs = []) ∨ ∃ (g cap : Nat), v = .slice (some ⟨g, 0, none⟩) zs.length cap ∧ B ≤ g ∧ g < T ∧ Ints w g zs ∧ zs.length ≤ cap ∧ zs.length ≤ 16777216
theorem Own.inn {B : Nat} {w : World} {v : Value} {zs : List Int} (h : Own B w v zs) : In B w.heap.size w v zs := by
  rcases h with h | ⟨g, cap, hv, hB, hi, hl, hc⟩
  · exact .inl h
  · exact .inr ⟨g, cap, hv, hB, hi.lt, hi, hl, hc⟩
theorem In.of_new {B : Nat} {w : World} {g : Nat} {zs : List Int} (hB : B ≤ g) (hi : Ints w g zs) (hl : zs.length ≤ 16777216) : In B w.heap.size w (.slice (some ⟨g, 0, none⟩) zs.length zs.length) zs :=
  .inr ⟨g, zs.length, rfl, hB, hi.lt, hi, Nat.le_refl _, hl⟩
theorem In.form {B T : Nat} {w : World} {v : Value} {zs : List Int} (h : In B T w v zs) : ∃ (a : Option Addr) (cap : Nat), v = .slice a zs.length cap ∧ Rd w a zs ∧ zs.length ≤ 16777216 := by
  rcases h with ⟨rfl, rfl⟩ | ⟨g, cap, rfl, _, _, hi, hl, hc⟩
  · exact ⟨none, 0, rfl, Rd.nil _ _, by simp⟩
  · exact ⟨_, _, rfl, hi.rd, hc⟩
theorem In.rd {B T : Nat} {w : World} {a : Option Addr} {n cap : Nat} {zs : List Int} (h : In B T w (.slice a n cap) zs) : n = zs.length ∧ Rd w a zs ∧ zs.length ≤ 16777216 := by
  obtain ⟨a', cap', e, hr, hl⟩ := h.form
  injection e with e1 e2 e3
  subst e1 e2
  exact ⟨rfl, hr, hl⟩
theorem In.chg {B T B' T' : Nat} {w w' : World} {v : Value} {zs : List Int} (h : In B T w v zs) (hc : Chg B' T' w w') (hd : T ≤ B' ∨ T' ≤ B) : In B T w' v zs := by
  rcases h with h | ⟨g, cap, hv, h1, h2, hi, hl, hk⟩
  · exact .inl h
  · exact .inr ⟨g, cap, hv, h1, h2, hi.move (hc.block g hi.lt (by omega)), hl, hk⟩
theorem In.keep {B T : Nat} {w w' : World} {v : Value} {zs : List Int} (h : In B T w v zs) (hb : Below w.heap.size w w') : In B T w' v zs := by
  rcases h with h | ⟨g, cap, hv, h1, h2, hi, hl, hk⟩
  · exact .inl h
  · exact .inr ⟨g, cap, hv, h1, h2, hi.keep hb hi.lt, hl, hk⟩
theorem In.old {B T : Nat} {w : World} {v : Value} {zs : List Int} (h : In B T w v zs) (o : Obj) : In B T (w.alloc o) v zs := h.keep ((Below.refl _ _).alloc (Nat.le_refl _) o)

theorem In.wide {B T B' T' : Nat} {w : World} {v : Value} {zs : List Int} (h : In B T w v zs) (hB : B' ≤ B) (hT : T ≤ T') : In B' T' w v zs := by
  rcases h with h | ⟨g, cap, hv, h1, h2, hi, hl, hk⟩
  · exact .inl h
  · exact .inr ⟨g, cap, hv, by omega, by omega, hi, hl, hk⟩
theorem In.far {B T : Nat} {w : World} {v : Value} {zs : List Int} (h : In B T w v zs) {a : Addr} (ha : a.block < B ∨ T ≤ a.block) (u : Value) : In B T (w.setCell a u) v zs := by
  rcases h with h | ⟨g, cap, hv, h1, h2, hi, hl, hk⟩
  · exact .inl h
  · exact .inr ⟨g, cap, hv, h1, h2, hi.far (by omega) u, hl, hk⟩
theorem six {W w' : World} {b c : Nat} {t t' : TypeId} {p q r x y z : Value} (h0 : Blk3 W b t p q r) (h1 : Blk3 W c t' x y z) (hb : Below W.heap.size W w') :
    w'.cell? ⟨b, 0, none⟩ = some p ∧ w'.cell? ⟨b, 1, none⟩ = some q ∧ w'.cell? ⟨b, 2, none⟩ = some r ∧ w'.cell? ⟨c, 0, none⟩ = some x ∧ w'.cell? ⟨c, 1, none⟩ = some y ∧ w'.cell? ⟨c, 2, none⟩ = some z :=
  ⟨(h0.keep hb h0.lt).cell0, (h0.keep hb h0.lt).cell1, (h0.keep hb h0.lt).cell2, (h1.keep hb h1.lt).cell0, (h1.keep hb h1.lt).cell1, (h1.keep hb h1.lt).cell2⟩

theorem stepB {w w1 w2 : World} (h : Below w.heap.size w w1) (hb : Below w1.heap.size w1 w2) : Below w.heap.size w w2 := h.trans (hb.mono h.size)
theorem Blk3.step {w w' : World} {b : Nat} {t : TypeId} {p q r : Value} (h : Blk3 w b t p q r) (hb : Below w.heap.size w w') : Blk3 w' b t p q r := h.keep hb h.lt

/-- Marks are written into a matrix of the call's own. -/
theorem markIn {B T : Nat} (r c : Int) (a : Option Addr) (n cap : Nat) (zs : List Int) (k : Int) (w : World) (h : In B T w (.slice a n cap) zs) (hk0 : 0 ≤ k) (hk : k ≤ 16777216) :
    Calls Try.prog 19 #[.agg #[.int .i64 r, .int .i64 c, .slice a n cap], .int .i64 k] w fun e w' => e = .returned (.int .i64 (k + n)) ∧ In B T w' (.slice a n cap) (marks k n) ∧ Chg B T w w' := by
  rcases h with ⟨hv, rfl⟩ | ⟨g, cap', hv, h1, h2, hi, hl, hc⟩
  · injection hv with e1 e2 e3
    subst e1 e2 e3
    refine (markM_nil r c 0 k w).mono ?_
    rintro e w' ⟨rfl, hb⟩
    exact ⟨by simp, .inl ⟨rfl, rfl⟩, Chg.of_below hb⟩
  · injection hv with e1 e2 e3
    subst e1 e2 e3
    refine (markM r c g cap zs.length zs k w hi (Nat.le_refl _) hc hk0 hk).mono ?_
    rintro e w' ⟨rfl, hi', hg⟩
    refine ⟨rfl, .inr ⟨g, cap, by rw [marks_length], h1, h2, ?_, by rw [marks_length]; exact hl, by rw [marks_length]; exact hc⟩, Chg.of_one hg h1 h2⟩
    rw [List.drop_length, List.append_nil] at hi'
    exact hi'
end Go.Proofs.Ytpelnfenfeoeeaa
