/-
  Chapter 5, in the program: UndoRowOps.
-/
import Derived.Test.YtiggioccmlbhhaaRU1
import Derived.Test.YtiggioccmlbhhaaLawRo
namespace Go.Proofs.Ytiggioccmlbhhaa
open Go.RowKit

/-- A block that holds the operations l and nothing else. -/
def OpsX (w : World) (g : Nat) (l : List Ro) : Prop := w.heap[g]? = some (.cells (Ro.flat l).toArray 43 (0, 0))
theorem OpsX.ops {w : World} {g : Nat} {l : List Ro} (h : OpsX w g l) : OpsB w g l := ⟨[], by rw [List.append_nil]; exact h⟩
theorem OpsX.move {w w' : World} {g : Nat} {l : List Ro} (h : OpsX w g l) (e : w'.heap[g]? = w.heap[g]?) : OpsX w' g l := e.trans h
theorem OpsX.keep {w w' : World} {g B : Nat} {l : List Ro} (h : OpsX w g l) (hb : Below B w w') (hB : g < B) : OpsX w' g l := h.move (hb.block g hB)
theorem OpsX.set {w : World} {g : Nat} {l : List Ro} (h : OpsX w g l) {q : Nat} (hq : q < l.length) (u : Ro) :
    OpsX ((((w.setCell ⟨g, q * 4, none⟩ (.int .i64 u.k)).setCell ⟨g, q * 4 + 1, none⟩ (.int .i64 u.i)).setCell ⟨g, q * 4 + 2, none⟩ (.int .i64 u.j)).setCell ⟨g, q * 4 + 3, none⟩ (.int .i64 u.t)) g (l.set q u) := by
  have e := Ro.flat_set l [] u q hq
  rw [List.append_nil, List.append_nil] at e
  show _ = _
  rw [← e]
  exact setCell_block (setCell_block (setCell_block (setCell_block h _ _) _ _) _ _) _ _
theorem OpsX.own {w : World} {g B n : Nat} {l : List Ro} (h : OpsX w g l) (hB : B ≤ g) (hn : l.length = n) (hl : n ≤ 1048576) : w.ownsRow B 43 4 (.slice (some ⟨g, 0, none⟩) n n) n (Ro.flat l) := by
  subst hn
  refine ⟨Ro.flat_length l, .inr ⟨g, l.length, (Ro.flat l).toArray, rfl, hB, h, Nat.le_refl _, by unfold maxLen; omega, by simp [Ro.flat_length], ?_⟩⟩
  rw [List.take_of_length_le (by simp [Ro.flat_length])]
theorem OpsX.made {w : World} {g : Nat} (n : Nat) (hg : g = w.heap.size) : OpsX (w.alloc (.cells (madeCells #[.int .i64 0, .int .i64 0, .int .i64 0, .int .i64 0] (n * 4)) 43)) g (List.replicate n Ro.zero) := by
  subst hg
  show _ = _
  rw [flat_zeros]
  exact heap_alloc_new w _
/-- What undoes l, of which the first k are done: they lie at the end, turned round. -/
def undP (l : List Ro) (k : Nat) : List Ro := (List.range l.length).map fun p => if l.length - 1 - p < k then (l.getD (l.length - 1 - p) Ro.zero).undo else Ro.zero
theorem undP_length (l : List Ro) (k : Nat) : (undP l k).length = l.length := by simp [undP]
theorem undP_zero (l : List Ro) : undP l 0 = List.replicate l.length Ro.zero := by
  apply List.ext_getElem (by simp [undP])
  intro i h1 h2
  simp [undP]
theorem undP_step (l : List Ro) (k q : Nat) (h : k + q + 1 = l.length) : (undP l k).set q (l.getD k Ro.zero).undo = undP l (k + 1) := by
  apply List.ext_getElem (by simp [undP])
  intro i h1 h2
  have hi : i < l.length := by simpa [undP] using h2
  rw [List.getElem_set]
  simp only [undP, List.getElem_map, List.getElem_range]
  by_cases e : q = i
  · subst e
    rw [if_pos rfl, if_pos (by omega), show l.length - 1 - q = k by omega]
  · rw [if_neg e]
    by_cases h3 : l.length - 1 - i < k
    · rw [if_pos h3, if_pos (by omega)]
    · rw [if_neg h3, if_neg (by omega)]
theorem undP_all (l : List Ro) : undP l l.length = undoL l l.length := by
  apply List.ext_getElem (by rw [undP_length, undoL_length _ _ (Nat.le_refl _)])
  intro i h1 h2
  have hi : i < l.length := by simpa [undP] using h1
  simp only [undP, undoL, List.getElem_map, List.getElem_range, List.getElem_take, List.getElem_reverse]
  rw [if_pos (by omega), List.getD, List.getElem?_eq_getElem (by omega)]
  rfl
set_option maxRecDepth 100000 in
set_option maxHeartbeats 1000000 in
theorem iUndoOps (al : Option Addr) (ml : Nat) (l : List Ro) (w : World) (hl : RdO w al l) (hL : l.length ≤ 1048576) :
    Calls Try.prog 44 #[.slice al l.length ml] w (fun e w' => ∃ v, e = .returned v ∧ w'.ownsRow w.heap.size 43 4 v l.length (Ro.flat (undoL l l.length)) ∧ Below w.heap.size w w') := by
  have HL := Lib.hid hl
  obtain ⟨ln, hln⟩ : ∃ ln, l.length = ln := ⟨_, rfl⟩
  have LN := Lib.hid hln
  rw [hln] at hL ⊢
  clear hln hl
  have X0 : Hid (OpsX (w.alloc (.cells (madeCells #[.int .i64 0, .int .i64 0, .int .i64 0, .int .i64 0] (ln * 4)) 43)) w.heap.size (List.replicate ln Ro.zero)) := OpsX.made ln rfl
  have B0 : Hid (Below w.heap.size w (w.alloc (.cells (madeCells #[.int .i64 0, .int .i64 0, .int .i64 0, .int .i64 0] (ln * 4)) 43))) := (Below.refl _ _).alloc (Nat.le_refl _) _
  go_enter Try.func44, Try.ntmps44
  have hmk := makeOps ln (by omega) w
  go_wp2_with fail
  clear hmk
  obtain ⟨W, hW⟩ : ∃ W, w.alloc (.cells (madeCells #[.int .i64 0, .int .i64 0, .int .i64 0, .int .i64 0] (ln * 4)) 43) = W := ⟨_, rfl⟩
  rw [hW] at X0 B0
  rw [hW]
  clear hW
  go_loopw [4, 5, 11] (fun _ _ i wr => ∃ k : Nat, i = .int .i64 k ∧ k ≤ ln ∧ OpsX wr w.heap.size (undP l k) ∧ W.grownBy wr (some w.heap.size)) (fun _ _ i _ => ln - (intOf i).toNat)
  case atStart => exact ⟨0, rfl, by omega, by rw [undP_zero, LN.out]; exact X0.out, World.grownBy.refl _ _⟩
  case round =>
    obtain ⟨k, rfl, hk, hx, hgr⟩ := hrel
    have X := Lib.hid hx
    have G := Lib.hid hgr
    have BW := Lib.hid (B0.out.trans (below_of_one hgr (Nat.le_refl _) B0.out.size))
    clear hx hgr
    by_cases hlt : k < ln
    · have HQ : Hid (k < l.length) := by show k < l.length; rw [LN.out]; exact hlt
      obtain ⟨b2, o2, rfl, -, -⟩ := HL.out k HQ.out
      have RL : Hid (RdO wr (some ⟨b2, o2, none⟩) l) := HL.out.below BW.out
      obtain ⟨b2', o2', e, hlt3, c0, c1, c2, c3⟩ := RL.out k HQ.out
      obtain ⟨rfl, rfl⟩ : b2 = b2' ∧ o2 = o2' := by simp only [Option.some.injEq, Addr.mk.injEq] at e; exact ⟨e.1, e.2.1⟩
      obtain ⟨q, hq⟩ : ∃ q, k + q + 1 = ln := ⟨ln - 1 - k, by omega⟩
      have US : Hid ((undP l k).set q (l.getD k Ro.zero).undo = undP l (k + 1)) := undP_step l k q (by rw [LN.out]; exact hq)
      have PL : Hid ((undP l k).length = ln) := by show _ = _; rw [undP_length, LN.out]
      obtain ⟨u, hu⟩ : ∃ u, l.getD k Ro.zero = u := ⟨_, rfl⟩
      rw [hu] at c0 c1 c2 c3 US
      clear hu e
      go_upto_region 5 with fail
      clear c0 c1 c2 c3
      have X4 : Hid (Blk4 (wr.alloc (.cells #[.int .i64 u.k, .int .i64 u.i, .int .i64 u.j, .int .i64 u.t] 43)) wr.heap.size 43 (.int .i64 u.k) (.int .i64 u.i) (.int .i64 u.j) (.int .i64 u.t)) := Blk4.at_ _ _ _ _ _ rfl
      have BU : Hid (Below wr.heap.size wr (wr.alloc (.cells #[.int .i64 u.k, .int .i64 u.i, .int .i64 u.j, .int .i64 u.t] 43))) := (Below.refl _ _).alloc (Nat.le_refl _) _
      obtain ⟨x40, x41, x42, x43⟩ := X4.out.all
      go_wp2_with fail
      refine (iUndo u.k u.i u.j u.t _).mono ?_
      rintro e v1 ⟨rfl, hb1⟩
      have hH := stepB BU.out hb1
      have xl : w.heap.size < wr.heap.size := X.out.ops.lt
      have X := Lib.hid (X.out.keep hH xl)
      have G := Lib.hid (G.out.trans (grown_of_below hH (some w.heap.size)))
      clear hb1 hH x40 x41 x42 x43
      have e1 : (0 : Int) ≤ (ln : Int) - 1 - (k : Int) := by omega
      have e2 : (ln : Int) - 1 - (k : Int) < (ln : Int) := by omega
      have e3 : ((ln : Int) - 1 - (k : Int)).toNat = q := by omega
      obtain ⟨f0, f1, f2, f3⟩ := X.out.ops.cells (q := q) (by rw [PL.out]; omega)
      have z0 := X.out.ops.free (q * 4)
      have z1 := X.out.ops.free (q * 4 + 1)
      have z2 := X.out.ops.free (q * 4 + 2)
      have z3 := X.out.ops.free (q * 4 + 3)
      go_wp2_with fail
      go_roundw
      case rel =>
        refine ⟨k + 1, by go_num, by omega, ?_, grown_set_one (grown_set_one (grown_set_one (grown_set_one G.out rfl _) rfl _) rfl _) rfl _⟩
        rw [← US.out]
        exact X.out.set (by rw [PL.out]; omega) u.undo
      case measure => simp [intOf]; omega
    · have hkn : k = ln := by omega
      rw [hkn] at X
      have XA : Hid (wr.ownsRow w.heap.size 43 4 (.slice (some ⟨w.heap.size, 0, none⟩) ln ln) ln (Ro.flat (undoL l ln))) := by
        have := X.out.own (B := w.heap.size) (Nat.le_refl _) (by rw [undP_length, LN.out]) hL
        rw [← LN.out, undP_all, LN.out] at this
        exact this
      go_wp2_with fail
      go_ret
      exact ⟨_, rfl, XA.out, BW.out⟩
end Go.Proofs.Ytiggioccmlbhhaa
