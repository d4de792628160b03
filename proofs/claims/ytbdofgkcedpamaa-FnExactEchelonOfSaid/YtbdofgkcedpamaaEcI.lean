/-
  Chapter 7, in the program: the elimination.
-/
import Derived.Test.YtbdofgkcedpamaaSwR
import Derived.Test.YtbdofgkcedpamaaClI
import Derived.Test.YtbdofgkcedpamaaEchT
import Derived.Test.YtbdofgkcedpamaaCopyI
import Derived.Deep.RegionHeld3
namespace Go.Proofs.Ytbdofgkcedpamaa
set_option maxRecDepth 100000
open Go.RowKit

theorem OwnQ.ne_blk {B b : Nat} {w : World} {v : Value} {zs : List Int} {x y z : Value} (h : OwnQ B w v zs) (k : Blk3 w b 26 x y z) : v.ownBlock ≠ some b := fun e => by
  obtain ⟨h1, ⟨h2, h3⟩ | ⟨g, cap, cur, rfl, hB, hg, rest⟩⟩ := h
  · rw [h2] at e; cases e
  · simp only [Value.ownBlock, Option.some.injEq] at e
    subst e
    unfold Blk3 at k
    rw [hg] at k
    injection k with k
    injection k with _ k2 _
    exact absurd k2 (by decide)
/-- The worlds of the walk: the copy's box, the result's block, the cells, the pivots. -/
structure EpSt (w : World) (B b rb r c N cap g : Nat) (q : Option Addr) (ys : List Int) (v : Value) (pv : List Nat) (wr : World) : Prop where
  blk : Blk3 wr b 26 (.int .i64 r) (.int .i64 c) (.slice q N cap)
  ret : Blk3 wr rb 26 (.int .i64 0) (.int .i64 0) (.slice none 0 0)
  cel : Cel wr q N cap g ys
  own : OwnQ B wr v (pvI pv)
  bel : Below w.heap.size w wr
  le : B ≤ wr.heap.size
theorem EpSt.one {w : World} {B b rb r c N cap g : Nat} {q : Option Addr} {ys ys' : List Int} {v : Value} {pv : List Nat} {wr w' : World} (h : EpSt w B b rb r c N cap g q ys v pv wr) (hi : Cel w' q N cap g ys') (hg : wr.grownBy w' (some g)) (hb : b ≠ g) (hr : rb ≠ g) (hB : g < B) (hw : w.heap.size ≤ g) : EpSt w B b rb r c N cap g q ys' v pv w' :=
  ⟨h.blk.keepOne hg hb, h.ret.keepOne hg hr, hi, h.own.one hg hB, h.bel.trans (below_of_one hg hw h.bel.size), Nat.le_trans h.le hg.size⟩
theorem EpSt.below {w : World} {B b rb r c N cap g : Nat} {q : Option Addr} {ys : List Int} {v : Value} {pv : List Nat} {wr w' : World} (h : EpSt w B b rb r c N cap g q ys v pv wr) (hb : Below wr.heap.size wr w') : EpSt w B b rb r c N cap g q ys v pv w' :=
  ⟨h.blk.step hb, h.ret.step hb, h.cel.keep hb, h.own.keep hb, h.bel.trans (hb.mono h.bel.size), Nat.le_trans h.le hb.size⟩
theorem EpSt.drewN {w : World} {B b rb r c N cap g : Nat} {q : Option Addr} {ys : List Int} {v : Value} {pv : List Nat} {wr : World} (h : EpSt w B b rb r c N cap g q ys v pv wr) (n : Nat) : EpSt w B b rb r c N cap g q ys v pv (wr.drewN n) :=
  ⟨h.blk.drewN n, h.ret.drewN n, h.cel.drewN n, h.own.drewN n, below_drewN h.bel n, h.le⟩
theorem EpSt.drew {w : World} {B b rb r c N cap g : Nat} {q : Option Addr} {ys : List Int} {v : Value} {pv : List Nat} {wr : World} (h : EpSt w B b rb r c N cap g q ys v pv wr) : EpSt w B b rb r c N cap g q ys v pv wr.drew := h.drewN 1
theorem EpSt.app {w : World} {B b rb r c N cap g : Nat} {q : Option Addr} {ys : List Int} {v v' : Value} {pv pv' : List Nat} {wr w' : World} (h : EpSt w B b rb r c N cap g q ys v pv wr) {o : Obj} (hg : (wr.alloc o).grownBy w' v.ownBlock) (ho : OwnQ B w' v' (pvI pv')) (hgB : g < B) (hw : w.heap.size ≤ B) : EpSt w B b rb r c N cap g q ys v' pv' w' := by
  have keep : ∀ k, v.ownBlock ≠ some k → k < wr.heap.size → w'.heap[k]? = wr.heap[k]? := fun k hk hl => (hg.block k (by simp; omega) (fun e => hk e.symm)).trans (Below.heap_alloc wr o k hl)
  have hs := hg.size
  simp at hs
  have hl := h.le
  exact ⟨(keep b (h.own.ne_blk h.blk) h.blk.lt).trans h.blk, (keep rb (h.own.ne_blk h.ret) h.ret.lt).trans h.ret, h.cel.move fun hl => keep g (fun e => by have := h.own.le e; omega) hl, ho, h.bel.trans ⟨hg.os, hg.tape, hg.output, by omega, fun k hk => keep k (fun e => by have := h.own.le e; omega) (by omega)⟩, by omega⟩
theorem OwnQ.far_ne {B : Nat} {w : World} {v : Value} {zs : List Int} (h : OwnQ B w v zs) {a : Addr} (ha : v.ownBlock ≠ some a.block) (u : Value) : OwnQ B (w.setCell a u) v zs :=
  h.move fun k hk => Below.heap_setCell w a u k (fun e => ha (by rw [hk, e]))
theorem EpSt.end_ {w : World} {B b rb r c N cap g : Nat} {q : Option Addr} {ys : List Int} {qv : Option Addr} {n qc : Nat} {pv : List Nat} {wr : World} (h : EpSt w B b rb r c N cap g q ys (.slice qv n qc) pv wr) (hN : N ≤ 576) (hpv : pv.length ≤ 24) (hgB : g < B) (hw : w.heap.size ≤ g) (hrw : w.heap.size ≤ rb) (hrg : rb ≠ g) (x y z : Value) :
    EchP w r c (some (ys, pv)) (.returned (.tuple #[.agg #[.int .i64 r, .int .i64 c, .slice q N cap], .slice qv n qc, .bool true])) (((wr.setCell ⟨rb, 0, none⟩ x).setCell ⟨rb, 1, none⟩ y).setCell ⟨rb, 2, none⟩ z) := by
  have hne := h.own.ne_blk h.ret
  refine .inl ⟨_, _, ys, pv, rfl, rfl, ?_, ?_, fun k hk e => ?_, ?_⟩
  · refine Cel.own (g := g) (h.cel.move fun _ => ?_) hw (by omega)
    exact ((Below.heap_setCell _ _ z g (by show g ≠ rb; omega)).trans (Below.heap_setCell _ _ y g (by show g ≠ rb; omega))).trans (Below.heap_setCell _ _ x g (by show g ≠ rb; omega))
  · exact ((((h.own.far_ne (a := ⟨rb, 0, none⟩) hne x).far_ne (a := ⟨rb, 1, none⟩) hne y).far_ne (a := ⟨rb, 2, none⟩) hne z).lower (by omega)).own (by rw [pvI_length]; omega)
  · have h1 := h.own.le e
    rcases h.cel with ⟨rfl, -⟩ | ⟨rfl, -⟩
    · cases hk
    · simp only [Value.ownBlock, Option.some.injEq] at hk
      omega
  · exact ((h.bel.setCell hrw x).setCell hrw y).setCell hrw z
theorem ep_bad {w wr : World} {rb r c : Nat} (hb : Below w.heap.size w wr) (hrw : w.heap.size ≤ rb) (x y z : Value) :
    EchP w r c none (.returned (.tuple #[.agg #[.int .i64 0, .int .i64 0, .slice none 0 0], .slice none 0 0, .bool false])) (((wr.setCell ⟨rb, 0, none⟩ x).setCell ⟨rb, 1, none⟩ y).setCell ⟨rb, 2, none⟩ z) :=
  .inr ⟨_, rfl, rfl, .inl ⟨rfl, rfl⟩, ((hb.setCell hrw x).setCell hrw y).setCell hrw z⟩
theorem cel3 {w : World} {b : Nat} {x y z : Value} (h : Blk3 w b 26 x y z) : w.cell? ⟨b, 0, none⟩ = some x ∧ w.cell? ⟨b, 1, none⟩ = some y ∧ w.cell? ⟨b, 2, none⟩ = some z := ⟨h.all.1, h.all.2.1, h.all.2.2.1⟩
end Go.Proofs.Ytbdofgkcedpamaa
