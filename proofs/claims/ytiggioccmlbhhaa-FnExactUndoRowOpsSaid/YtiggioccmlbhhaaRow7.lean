/-
  Chapter 5, in the model: UndoRowOps.
-/
import Derived.Test.YtiggioccmlbhhaaRow6
import Derived.Test.YtiggioccmlbhhaaRowsOwn
namespace Go.Proofs.Ytiggioccmlbhhaa
open Go.RowKit

def Ro.undo (u : Ro) : Ro := ⟨u.k, u.i, u.j, unT u.k u.t⟩
/-- What undoes the last n of l. -/
def undoL (l : List Ro) (n : Nat) : List Ro := (l.reverse.take n).map Ro.undo
theorem undoL_length (l : List Ro) (n : Nat) (h : n ≤ l.length) : (undoL l n).length = n := by unfold undoL; simp [h]
theorem undoL_succ (l : List Ro) (n q : Nat) (h : n + q + 1 = l.length) : undoL l (n + 1) = undoL l n ++ [(l.getD q Ro.zero).undo] := by
  unfold undoL
  have h1 : n < l.reverse.length := by rw [List.length_reverse]; omega
  rw [List.take_succ_eq_append_getElem h1, List.map_append, List.getElem_reverse]
  have h2 : l.length - 1 - n = q := by omega
  simp only [h2, List.map_cons, List.map_nil]
  simp [List.getD, show q < l.length by omega]
set_option maxRecDepth 100000 in
set_option maxHeartbeats 4000000 in
theorem sUndoOps (al : Option Addr) (ml : Nat) (l : List Ro) (w : World) (hl : RdO w al l) (hL : l.length ≤ 1048576) :
    Calls Try.prog 43 #[.slice al l.length ml] w (fun e w' => ∃ v, e = .returned v ∧ w'.ownsRow w.heap.size 43 4 v l.length (Ro.flat (undoL l l.length)) ∧ Below w.heap.size w w') := by
  have HL := Lib.hid hl
  obtain ⟨ln, hln⟩ : ∃ ln, l.length = ln := ⟨_, rfl⟩
  have LN := Lib.hid hln
  rw [hln] at hL ⊢
  clear hln hl
  go_enter Try.func43, Try.ntmps43
  go_wp2_with fail
  have own0 : (w.alloc (.cells #[] 43)).ownsRow w.heap.size 43 4 (.slice (some ⟨w.heap.size, 0, none⟩) 0 0) 0 (Ro.flat (undoL l 0)) := ⟨rfl, .inr ⟨w.heap.size, 0, #[], rfl, Nat.le_refl _, heap_alloc_new w _, Nat.le_refl _, by decide, rfl, rfl⟩⟩
  have B0 : Below w.heap.size w (w.alloc (.cells #[] 43)) := (Below.refl _ _).alloc (Nat.le_refl _) _
  have OW0 := Lib.hid own0
  have BH := Lib.hid B0
  clear own0 B0
  obtain ⟨fi, hfi, hz0, hz1, hz2⟩ := facts_op
  go_loopw [3, 4] (fun v i wr => ∃ k : Nat, k ≤ ln ∧ i = .int .i64 ((ln : Int) - 1 - (k : Int)) ∧ wr.ownsRow w.heap.size 43 4 v k (Ro.flat (undoL l k)) ∧ Below w.heap.size w wr) (fun _ i _ => (intOf i + 1).toNat)
  case atStart => exact ⟨0, by omega, by simp, OW0.out, BH.out⟩
  case round =>
    obtain ⟨k, hk, rfl, ho, hb⟩ := hrel
    have O := Lib.hid ho
    have B := Lib.hid hb
    obtain ⟨va, vm, vc, rfl⟩ := rows_form ho
    clear ho hb
    by_cases hlt : k < ln
    · obtain ⟨q, hq⟩ : ∃ q, k + q + 1 = ln := ⟨ln - 1 - k, by omega⟩
      have ei : (ln : Int) - 1 - (k : Int) = (q : Int) := by omega
      rw [ei]
      have HQ : Hid (q < l.length) := by show q < l.length; rw [LN.out]; omega
      obtain ⟨b2, o2, rfl, hlt2, c0, c1, c2, c3⟩ := HL.out q HQ.out
      have RL : Hid (RdO wr (some ⟨b2, o2, none⟩) l) := HL.out.below B.out
      obtain ⟨b2', o2', e, hlt3, c0, c1, c2, c3⟩ := RL.out q HQ.out
      obtain ⟨rfl, rfl⟩ : b2 = b2' ∧ o2 = o2' := by simp only [Option.some.injEq, Addr.mk.injEq] at e; exact ⟨e.1, e.2.1⟩
      have US : Hid (undoL l (k + 1) = undoL l k ++ [(l.getD q Ro.zero).undo]) := undoL_succ l k q (by rw [LN.out]; exact hq)
      obtain ⟨u, hu⟩ : ∃ u, l.getD q Ro.zero = u := ⟨_, rfl⟩
      rw [hu] at c0 c1 c2 c3 US
      clear hu e
      go_wp2_with (first | (go_at_call 32; refine (sUndo u.k u.i u.j u.t _).mono ?_; rintro e w1 ⟨rfl, hb1⟩; have HO2 := Lib.hid (rows_keep (rows_keep O.out hb1) ((Below.refl _ _).alloc (Nat.le_refl _) (.cells #[.int .i64 u.k, .int .i64 u.i, .int .i64 u.j, .int .i64 (unT u.k u.t)] 43))); have B2 := Lib.hid ((stepB B.out hb1).alloc (stepB B.out hb1).size (.cells #[.int .i64 u.k, .int .i64 u.i, .int .i64 u.j, .int .i64 (unT u.k u.t)] 43)); clear hb1) | (at_builtin; refine wpList_append_own_at _ rfl _ _ 55 rfl w.heap.size 43 fi (.agg #[.int .i64 0, .int .i64 0, .int .i64 0, .int .i64 0]) 4 32 underlying_ops hfi hz0 hz1 hz2 rfl (by decide) _ _ _ rfl HO2.out ⟨w1.heap.size, 0, none⟩ 1 1 [.int .i64 u.k, .int .i64 u.i, .int .i64 u.j, .int .i64 (unT u.k u.t)] ?hx ?hl ?hnews ?h1 ?h63 ?hbytes ?hbase ?hnext))
      case hx => rfl
      case hl => rfl
      case hnews => exact cells4_new _ _ _ _ _ _
      case h1 => intro v hv; simp only [List.mem_cons, List.not_mem_nil, or_false] at hv; rcases hv with rfl | rfl | rfl | rfl <;> rfl
      case h63 => unfold maxLen; omega
      case hbytes => omega
      case hbase => exact B2.out.size
      case hnext =>
        rintro v2 wr2 ho2 hg2 - -
        obtain ⟨ua, um, uc, rfl⟩ := rows_form ho2
        have O3 : Hid (wr2.ownsRow w.heap.size 43 4 (.slice ua um uc) (k + 1) (Ro.flat (undoL l (k + 1)))) := by
          refine Lib.hid ?_
          rw [US.out, Ro.flat_app]
          exact ho2
        have B3 : Hid (Below w.heap.size w wr2) := Lib.hid (B2.out.grown hg2 B2.out.size (fun k hk => ownB_ge2 HO2.out hk))
        clear ho2 hg2
        go_wp2_with fail
        go_roundw
        case rel => exact ⟨k + 1, by omega, by go_num, O3.out, B3.out⟩
        case measure => simp [intOf]
    · have hkn : k = ln := by omega
      have ei : (ln : Int) - 1 - (k : Int) = -1 := by omega
      rw [ei]
      rw [hkn] at O
      go_wp2_with fail
      go_ret
      exact ⟨_, rfl, O.out, B.out⟩
end Go.Proofs.Ytiggioccmlbhhaa
