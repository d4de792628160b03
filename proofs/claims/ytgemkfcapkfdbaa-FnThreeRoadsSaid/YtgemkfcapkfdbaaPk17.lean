/-
  Texts of this seat, joined: MnMath · MnMem · MnTake · MnNew · MnAcc · MnBits · MnDet · MnDet2 · DetI · PivI · StpI
-/
import Derived.Maps.OwnSet
import Derived.Maps.AppendAt
import Derived.Deep.DeepCutAuto
import Derived.IntWalk
import Derived.Test.YtgemkfcapkfdbaaRows
import Derived.WalkKit
import Derived.Laws.BitsAll
import Derived.BigQuiet
import Derived.Deep.RegionHeld3
import Derived.StillTailTactics
import Derived.Test.YtgemkfcapkfdbaaPk1
import Derived.Test.YtgemkfcapkfdbaaPk2
import Derived.Test.YtgemkfcapkfdbaaPk3
import Derived.Test.YtgemkfcapkfdbaaPk4
import Derived.Test.YtgemkfcapkfdbaaPk9
import Derived.Test.YtgemkfcapkfdbaaPk12
import Derived.Test.YtgemkfcapkfdbaaPk15

section
/-
  Plain mathematics of chapter 6: determinants of the last of some rows in a set of columns, the columns as the bits of a number. Nothing of a program is used.
-/
namespace Go.Proofs.Ytgemkfcapkfdbaa

/-- The columns of a set, in order. -/
def colsL (n S : Nat) : List Nat := (List.range n).filter fun c => S.testBit c
/-- A set without a column, as 64 bits. -/
def lessS (S c : Nat) : Nat := S &&& (18446744073709551615 - 2 ^ c)
/-- A square matrix: the last rows, as many as there are columns. -/
def rowsD (xs : List Int) (n : Nat) (rows cs : List Nat) : List Int := tab cs.length cs.length fun i j => xs.getD (rows.getD (rows.length - cs.length + i) 0 * n + cs.getD j 0) 0
def setD (n : Nat) (xs : List Int) (rows : List Nat) (S : Nat) : Int := detB (colsL n S).length (rowsD xs n rows (colsL n S))
theorem colsL_succ (c S : Nat) : colsL (c + 1) S = if S.testBit c then colsL c S ++ [c] else colsL c S := by
  unfold colsL
  rw [List.range_succ, List.filter_append]
  by_cases h : S.testBit c = true
  · rw [if_pos h]; simp [h]
  · rw [if_neg h]; simp [h]
theorem colsL_in {c S : Nat} (h : S.testBit c = true) : (colsL (c + 1) S).length = (colsL c S).length + 1 := by rw [colsL_succ, if_pos h]; simp
theorem colsL_out {c S : Nat} (h : S.testBit c = false) : colsL (c + 1) S = colsL c S := by rw [colsL_succ, if_neg (by rw [h]; decide)]
theorem colsL_pre {c n S : Nat} (h : c ≤ n) : ∃ r, colsL n S = colsL c S ++ r := by
  obtain ⟨k, rfl⟩ := Nat.exists_eq_add_of_le h
  unfold colsL
  rw [List.range_add, List.filter_append]
  exact ⟨_, rfl⟩
theorem colsL_at {c n S : Nat} (hc : c < n) (h : S.testBit c = true) : (colsL c S).length < (colsL n S).length ∧ (colsL n S).getD (colsL c S).length 0 = c := by
  obtain ⟨r, e⟩ := colsL_pre (S := S) (show c + 1 ≤ n from hc)
  rw [e, colsL_succ, if_pos h]
  refine ⟨by simp, ?_⟩
  simp [List.getD]
theorem colsL_le {c n S : Nat} (h : c ≤ n) : (colsL c S).length ≤ (colsL n S).length := by
  obtain ⟨r, e⟩ := colsL_pre (S := S) h
  rw [e, List.length_append]; omega
theorem colsL_less : ∀ n, n ≤ 6 → ∀ S, S < 64 → ∀ c, c < n → S.testBit c = true → colsL n (lessS S c) = (colsL n S).eraseIdx (colsL c S).length ∧ lessS S c < 64 := by
  decide +kernel
theorem lessS_lt : ∀ n, n ≤ 6 → ∀ S, S < 2 ^ n → ∀ c, c < n → lessS S c < 2 ^ n := by
  decide +kernel
theorem colsL_none : ∀ n, n ≤ 6 → ∀ S, S < 2 ^ n → (colsL n S).length = 0 → S = 0 := by
  decide +kernel
theorem colsL_full : ∀ n, n ≤ 6 → colsL n (2 ^ n - 1) = List.range n := by decide +kernel
theorem colsL_fullLess : ∀ n, n ≤ 6 → ∀ j, j < n → colsL n (lessS (2 ^ n - 1) j) = (List.range n).eraseIdx j := by decide +kernel
theorem colsL_zero (n : Nat) : colsL n 0 = [] := by unfold colsL; simp
theorem erase_getD (cs : List Nat) (t j : Nat) : (cs.eraseIdx t).getD j 0 = cs.getD (skp t j) 0 := by
  unfold skp
  rw [List.getD, List.getD, List.getElem?_eraseIdx]
  split <;> rfl
theorem rowsD_minor (xs : List Int) (n : Nat) (rows cs : List Nat) (k t : Nat) (hc : cs.length = k + 1) (hr : k + 1 ≤ rows.length) (ht : t < k + 1) :
    woL (k + 1) 0 (t : Int) (rowsD xs n rows cs) ((k + 1) * (k + 1)) = rowsD xs n rows (cs.eraseIdx t) := by
  have hl : (cs.eraseIdx t).length = k := by rw [List.length_eraseIdx, hc, if_pos ht]; omega
  have e := woL_tab k 0 t (rowsD xs n rows cs) (by omega) ht
  rw [show ((0 : Nat) : Int) = 0 from rfl] at e
  rw [e]
  unfold rowsD
  rw [hl, hc]
  have hl2 : (tab k k fun i j => xs.getD (rows.getD (rows.length - k + i) 0 * n + (cs.eraseIdx t).getD j 0) 0).length = k * k := tab_length _ _ _
  refine (tab_ext hl2 fun i j hi hj => ?_).symm
  rw [tab_at k k _ hi hj, tab_at (k + 1) (k + 1) _ (skp_lt hi) (skp_lt hj), erase_getD, skp_zero]
  rw [show rows.length - (k + 1) + (i + 1) = rows.length - k + i by omega]
/-- What the expansion of k + 1 columns meets. -/
theorem setD_first {xs : List Int} {n : Nat} {rows cs : List Nat} {k : Nat} (hc : cs.length = k + 1) (j : Nat) (hj : j < k + 1) : (rowsD xs n rows cs).getD j 0 = xs.getD (rows.getD (rows.length - (k + 1)) 0 * n + cs.getD j 0) 0 := by
  have := tab_at (k + 1) (k + 1) (fun i j => xs.getD (rows.getD (rows.length - (k + 1) + i) 0 * n + cs.getD j 0) 0) (show 0 < k + 1 by omega) hj
  rw [Nat.zero_mul, Nat.zero_add, Nat.add_zero] at this
  unfold rowsD
  rw [hc]
  exact this
theorem setD_zero (n : Nat) (xs : List Int) (rows : List Nat) : setD n xs rows 0 = 1 := by unfold setD; rw [colsL_zero]; rfl
theorem setD_or (n : Nat) (xs : List Int) (rows : List Nat) (S : Nat) : setD n xs rows S = badN ∨ NumP (setD n xs rows S) := detB_or _ _
theorem mnB_less {n S c k : Nat} {xs : List Int} {rows : List Nat} (h6 : n ≤ 6) (hS : S < 64) (hc : c < n) (hb : S.testBit c = true) (hk : (colsL n S).length = k + 1) (hr : k + 1 ≤ rows.length) :
    mnB k (rowsD xs n rows (colsL n S)) (colsL c S).length = setD n xs rows (lessS S c) := by
  obtain ⟨e, -⟩ := colsL_less n h6 S hS c hc hb
  have hp := (colsL_at hc hb).1
  unfold mnB setD
  rw [e, List.length_eraseIdx, hk, if_pos (by omega), Nat.add_sub_cancel, rowsD_minor xs n rows _ k _ hk hr (by omega)]
theorem less_card {n S c k : Nat} (h6 : n ≤ 6) (hS : S < 64) (hc : c < n) (hb : S.testBit c = true) (hk : (colsL n S).length = k + 1) : (colsL n (lessS S c)).length = k := by
  obtain ⟨e, -⟩ := colsL_less n h6 S hS c hc hb
  have hp := (colsL_at hc hb).1
  rw [e, List.length_eraseIdx, hk, if_pos (by omega)]; omega
/-- All rows, all columns. -/
theorem setD_all {n : Nat} {xs : List Int} (h6 : n ≤ 6) (hx : xs.length = n * n) : setD n xs (List.range n) (2 ^ n - 1) = detB n xs := by
  unfold setD
  rw [colsL_full n h6]
  unfold rowsD
  simp only [List.length_range, Nat.sub_self, Nat.zero_add]
  congr 1
  refine (tab_ext hx fun i j hi hj => ?_).symm
  simp [List.getD, hi, hj]
/-- The rows but one. -/
def rowsBut (n : Nat) (e : Int) : List Nat := (List.range n).filter fun (r : Nat) => decide ((r : Int) ≠ e)
theorem rowsBut_all (n : Nat) : rowsBut n (-1) = List.range n := by
  unfold rowsBut
  refine List.filter_eq_self.mpr fun r _ => decide_eq_true (by omega)
theorem rowsBut_one : ∀ n, n ≤ 6 → ∀ i : Nat, i < n → rowsBut n (i : Int) = (List.range (n - 1)).map (skp i) := by decide +kernel
theorem rowsBut_le (n : Nat) (e : Int) : (rowsBut n e).length ≤ n := by
  unfold rowsBut
  have := List.length_filter_le (fun (r : Nat) => decide ((r : Int) ≠ e)) (List.range n)
  simpa using this
theorem rowsBut_lt {n : Nat} {e : Int} {k : Nat} (h : k < (rowsBut n e).length) : (rowsBut n e).getD k 0 < n := by
  have := List.getElem_mem h
  rw [List.getD, List.getElem?_eq_getElem h]
  unfold rowsBut at this
  exact List.mem_range.mp (List.mem_filter.mp this).1
theorem rowsBut_in {e : Int} {r : Nat} (h : (r : Int) ≠ e) : rowsBut (r + 1) e = rowsBut r e ++ [r] := by
  unfold rowsBut
  rw [List.range_succ, List.filter_append]
  simp [h]
theorem rowsBut_out {e : Int} {r : Nat} (h : (r : Int) = e) : rowsBut (r + 1) e = rowsBut r e := by
  unfold rowsBut
  rw [List.range_succ, List.filter_append]
  simp [h]
theorem setD_cross {n i j : Nat} {xs : List Int} (h6 : n ≤ 6) (hx : xs.length = n * n) (hi : i < n) (hj : j < n) : setD n xs (rowsBut n i) (lessS (2 ^ n - 1) j) = detB (n - 1) (woL n i j xs (n * n)) := by
  obtain ⟨p, rfl⟩ : ∃ p, n = p + 1 := ⟨n - 1, by omega⟩
  rw [woL_tab p i j xs hi hj]
  unfold setD
  rw [colsL_fullLess _ h6 j hj, rowsBut_one _ h6 i hi]
  have hl : ((List.range (p + 1)).eraseIdx j).length = p := by rw [List.length_eraseIdx, List.length_range, if_pos hj]; omega
  unfold rowsD
  rw [hl]
  show detB p _ = detB p _
  congr 1
  have hl2 : (tab p p fun a b => xs.getD (skp i a * (p + 1) + skp j b) 0).length = p * p := tab_length _ _ _
  refine (tab_ext hl2 fun a b ha hb => ?_).symm
  rw [tab_at p p _ ha hb, erase_getD]
  have h1 := skp_lt (j := j) hb
  simp [List.getD, ha, h1]
end Go.Proofs.Ytgemkfcapkfdbaa
end

section
/-
  Chapter 6, in the program: a block of five cells, a map of determinants, clear. No function of the program is named.
-/
namespace Go.Proofs.Ytgemkfcapkfdbaa
open Go.RowKit Go.Maps

/-- A block of five cells, none of them frozen. -/
def Blk5 (w : World) (b : Nat) (t : TypeId) (p q r s u : Value) : Prop := w.heap[b]? = some (.cells #[p, q, r, s, u] t (0, 0))
theorem Blk5.all {w : World} {b : Nat} {t : TypeId} {p q r s u : Value} (h : Blk5 w b t p q r s u) : w.cell? ⟨b, 0, none⟩ = some p ∧ w.cell? ⟨b, 1, none⟩ = some q ∧ w.cell? ⟨b, 2, none⟩ = some r ∧ w.cell? ⟨b, 3, none⟩ = some s ∧ w.cell? ⟨b, 4, none⟩ = some u := by
  unfold Blk5 at h
  simp [World.cell?, h]
theorem Blk5.free {w : World} {b : Nat} {t : TypeId} {p q r s u : Value} (h : Blk5 w b t p q r s u) (o : Nat) : w.frozen? ⟨b, o, none⟩ = false := by unfold Blk5 at h; simp [World.frozen?, h]
theorem Blk5.lt {w : World} {b : Nat} {t : TypeId} {p q r s u : Value} (h : Blk5 w b t p q r s u) : b < w.heap.size := lt_of_block h
theorem Blk5.move {w w' : World} {b : Nat} {t : TypeId} {p q r s u : Value} (h : Blk5 w b t p q r s u) (e : w'.heap[b]? = w.heap[b]?) : Blk5 w' b t p q r s u := e.trans h
theorem Blk5.keep {w w' : World} {b B : Nat} {t : TypeId} {p q r s u : Value} (h : Blk5 w b t p q r s u) (hb : Below B w w') (hB : b < B) : Blk5 w' b t p q r s u := h.move (hb.block b hB)
theorem Blk5.old {w : World} {b : Nat} {t : TypeId} {p q r s u : Value} (h : Blk5 w b t p q r s u) (o : Obj) : Blk5 (w.alloc o) b t p q r s u := h.move (Below.heap_alloc w o b h.lt)
theorem Blk5.frs {w w' : World} {b : Nat} {t : TypeId} {p q r s u : Value} {pr : Nat → Prop} (h : Blk5 w b t p q r s u) (hf : FrS pr w w') (hb : ¬ pr b) : Blk5 w' b t p q r s u := h.move (hf.block b h.lt hb)
theorem Blk5.one {w w' : World} {b c : Nat} {t : TypeId} {p q r s u : Value} (h : Blk5 w b t p q r s u) (hg : w.grownBy w' (some c)) (hne : b ≠ c) : Blk5 w' b t p q r s u := h.move (hg.block b h.lt (by simpa using hne))
theorem Blk5.grown {w w' : World} {b : Nat} {row : Option Nat} {t : TypeId} {p q r s u : Value} (h : Blk5 w b t p q r s u) (hg : w.grownBy w' row) (hne : some b ≠ row) : Blk5 w' b t p q r s u := h.move (hg.block b h.lt hne)
theorem Blk5.at_ {w : World} {b : Nat} (t : TypeId) (p q r s u : Value) (hb : b = w.heap.size) : Blk5 (w.alloc (.cells #[p, q, r, s, u] t)) b t p q r s u := by
  subst hb; unfold Blk5; show (w.heap.push _)[w.heap.size]? = _
  rw [Array.getElem?_push, if_pos rfl]
theorem Blk5.set3 {w : World} {b : Nat} {t : TypeId} {p q r s u : Value} (h : Blk5 w b t p q r s u) (v : Value) : Blk5 (w.setCell ⟨b, 3, none⟩ v) b t p q r v u := by
  have hlt := h.lt
  unfold Blk5 at h ⊢
  have h' : w.heap[b] = .cells #[p, q, r, s, u] t (0, 0) := by simpa [Array.getElem?_eq_getElem hlt] using h
  show (w.heap.modify b _)[b]? = _
  rw [Array.getElem?_eq_getElem (by simpa using hlt), Array.getElem_modify_self, h']
  rfl
/-- A map of ints by sets of columns. -/
def Mp (w : World) (bm c : Nat) (D : DataW Unit) : Prop := w.ownsMap Try.prog 66 (plainElem Try.prog 3) bm c D
theorem keyed_cols : Keyed Try.prog 66 := int_keyed (q := .u64) (by kernel_rfl)
theorem und_cols : Try.prog.underlying 66 = some (.int .u64) := by kernel_rfl
theorem und_map : Try.prog.underlying 90 = some (.map 66 3) := by kernel_rfl
theorem und_int : Try.prog.underlying 3 = some (.int .i64) := by kernel_rfl
theorem zero_int (w : World) : (zeroValue 3).run Try.prog w = .ok (.int .i64 0) w := by kernel_rfl
theorem Mp.lt {w : World} {bm c : Nat} {D : DataW Unit} (h : Mp w bm c D) : bm < w.heap.size := World.ownsMap.lt h
theorem Mp.made (w : World) : Mp (w.alloc (.map #[] 0)) w.heap.size 0 (.map []) := World.ownsMap_made w _ _ _
theorem Mp.kept {w w' : World} {bm c : Nat} {D : DataW Unit} {row : Option Nat} (h : Mp w bm c D) (hg : w.grownBy w' row) (hne : some bm ≠ row) : Mp w' bm c D := World.ownsMap.kept h hg hne
theorem Mp.move {w w' : World} {bm c : Nat} {D : DataW Unit} (h : Mp w bm c D) (e : w'.heap[bm]? = w.heap[bm]?) : Mp w' bm c D := by
  obtain ⟨es, clock, hb, r⟩ := h
  exact ⟨es, clock, e.trans hb, r⟩
theorem Mp.mono {w : World} {bm c c' : Nat} {D : DataW Unit} (h : Mp w bm c D) (hc : c ≤ c') : Mp w bm c' D := World.ownsMap.mono h hc
theorem Mp.ne5 {w : World} {bm c b : Nat} {D : DataW Unit} {t : TypeId} {p q r s u : Value} (h : Mp w bm c D) (k : Blk5 w b t p q r s u) : b ≠ bm := by
  obtain ⟨es, clock, hb, -⟩ := h
  rintro rfl
  unfold Blk5 at k
  rw [hb] at k
  cases k
theorem Mp.ne3 {w : World} {bm c b : Nat} {D : DataW Unit} {t : TypeId} {p q r : Value} (h : Mp w bm c D) (k : Blk3 w b t p q r) : b ≠ bm := by
  obtain ⟨es, clock, hb, -⟩ := h
  rintro rfl
  unfold Blk3 at k
  rw [hb] at k
  cases k
theorem Mp.neCell {w : World} {bm c b : Nat} {D : DataW Unit} {o : Nat} {v : Value} (h : Mp w bm c D) (k : w.cell? ⟨b, o, none⟩ = some v) : b ≠ bm := by
  obtain ⟨es, clock, hb, -⟩ := h
  rintro rfl
  simp [World.cell?, hb] at k
theorem Mp.neInts {w : World} {bm c g : Nat} {D : DataW Unit} {zs : List Int} (h : Mp w bm c D) (k : Ints w g zs) : g ≠ bm := by
  obtain ⟨es, clock, hb, -⟩ := h
  obtain ⟨rest, k⟩ := k
  rintro rfl
  rw [hb] at k
  cases k
theorem Rd.map {w w' : World} {bm c : Nat} {D : DataW Unit} {a : Option Addr} {zs : List Int} (h : Rd w a zs) (hm : Mp w bm c D) (hg : w.grownBy w' (some bm)) : Rd w' a zs := fun i hi => by
  obtain ⟨b, o, ha, hc⟩ := h i hi
  exact ⟨b, o, ha, hg.cell hc (by simpa using hm.neCell hc)⟩
/-- clear. -/
theorem Mp.clear {w : World} {bm c : Nat} {D : DataW Unit} (h : Mp w bm c D) (ty : TypeId) :
    ∃ w', (Builtin.clear_ #[90] ty #[.map (some bm)]).run Try.prog w = .ok (.tuple #[]) w' ∧ Mp w' bm 0 (.map []) ∧ w.grownBy w' (some bm) := by
  obtain ⟨es, clock, hb, -⟩ := h
  refine ⟨ChangeMaps.setBlock w bm (.map #[] clock), ?_, ⟨#[], clock, ChangeMaps.heap_setBlock_same hb _, ⟨by simp, MapKept.stamped_empty clock, by simp⟩, Nat.le_refl _, rfl⟩, ⟨rfl, rfl, rfl, by simp [ChangeMaps.setBlock], fun i _ hi => ChangeMaps.heap_setBlock_other hb _ (fun e => hi (by rw [e]))⟩⟩
  simp [Builtin.clear_, run_underlying und_map, MapKept.run_getObj_map hb, MapKept.run_setObj_map _ hb, Result.andThen, ChangeMaps.setBlock]
/-- clear, at the operation. -/
theorem wpList_clear_own (w : World) {ops : Array Oper} {rest : List Oper} {o : Oper} {a : Act} {Q : Exit → Act → World → Prop} (hg : o.guard = none) (m : Operand) (hop : o.op = Op.call { callee := Callee.builtin Builtin.clear, args := #[m], argTypes := #[90] })
    (bm c : Nat) (D : DataW Unit) (hm : a.eval m = .map (some bm)) (hown : Mp w bm c D)
    (hK : ∀ w', Mp w' bm 0 (.map []) → w.grownBy w' (some bm) → wpList Try.prog ops Q rest (a.put o.dst (.tuple #[])) w') : wpList Try.prog ops Q (o :: rest) a w := by
  refine wpList_plain hg fun K' hK' => ?_
  obtain ⟨w', hrun, r1, r2⟩ := hown.clear o.type
  unfold Oper.wp
  simp [execOp, hop, resolve, invoke, builtin, hm, hrun, Result.andThen]
  exact hK' _ _ (hK w' r1 r2)
/-- Each determinant that the map has is the right one, and a number. -/
def Memo (n : Nat) (xs : List Int) (rows : List Nat) (D : DataW Unit) : Prop := ∀ S : Nat, Maps.has D (.int .u64 (S : Int)) = true → setD n xs rows S ≠ badN ∧ D.atKey (.int .u64 (S : Int)) (.lit (.int .i64 0)) = .lit (.int .i64 (setD n xs rows S))
theorem Memo.none (n : Nat) (xs : List Int) (rows : List Nat) : Memo n xs rows (.map []) := fun S h => by
  unfold Maps.has at h
  simp at h
theorem Memo.put {n : Nat} {xs : List Int} {rows : List Nat} {D : DataW Unit} (h : Memo n xs rows D) (hD : IsMap D) (S : Nat) (hb : setD n xs rows S ≠ badN) : Memo n xs rows (D.put (.int .u64 (S : Int)) (.lit (.int .i64 (setD n xs rows S)))) := fun S' hS => by
  by_cases e : S' = S
  · subst e
    exact ⟨hb, Maps.atKey_put_same hD (by trivial) _ _⟩
  · have ne : Lit.int .u64 (S' : Int) ≠ Lit.int .u64 (S : Int) := fun he => e (by injection he with _ he; omega)
    rw [Maps.has_put_other ne] at hS
    rw [Maps.atKey_put_other ne]
    exact h S' hS
/-- What is known of the determinants' block. -/
structure MnSt (n : Nat) (a : Option Addr) (m : Nat) (xs : List Int) (rows : List Nat) (q : Option Addr) (qc px bm c : Nat) (w : World) : Prop where
  blk : Blk5 w px 92 (.int .i64 n) (.int .i64 n) (.slice a (n * n) m) (.slice q rows.length qc) (.map (some bm))
  cells : Rd w a xs
  rws : Rd w q (rows.map fun (r : Nat) => (r : Int))
  memo : ∃ D, Mp w bm c D ∧ Memo n xs rows D
theorem MnSt.ne {n : Nat} {a : Option Addr} {m : Nat} {xs : List Int} {rows : List Nat} {q : Option Addr} {qc px bm c : Nat} {w : World} (h : MnSt n a m xs rows q qc px bm c w) : px ≠ bm := by
  obtain ⟨D, hD, -⟩ := h.memo
  exact hD.ne5 h.blk
theorem MnSt.turn {n : Nat} {a : Option Addr} {m : Nat} {xs : List Int} {rows : List Nat} {q : Option Addr} {qc px bm c c' : Nat} {w w' : World} (h : MnSt n a m xs rows q qc px bm c w) (hg : w.grownBy w' (some bm)) {D : DataW Unit} (hD : Mp w' bm c' D) (hM : Memo n xs rows D) : MnSt n a m xs rows q qc px bm c' w' := by
  obtain ⟨D0, h0, -⟩ := h.memo
  exact ⟨h.blk.one hg h.ne, h.cells.map h0 hg, h.rws.map h0 hg, D, hD, hM⟩
theorem MnSt.mono {n : Nat} {a : Option Addr} {m : Nat} {xs : List Int} {rows : List Nat} {q : Option Addr} {qc px bm c c' : Nat} {w : World} (h : MnSt n a m xs rows q qc px bm c w) (hc : c ≤ c') : MnSt n a m xs rows q qc px bm c' w := by
  obtain ⟨D, hD, hM⟩ := h.memo
  exact ⟨h.blk, h.cells, h.rws, D, hD.mono hc, hM⟩
theorem MnSt.drewN {n : Nat} {a : Option Addr} {m : Nat} {xs : List Int} {rows : List Nat} {q : Option Addr} {qc px bm c : Nat} {w : World} (h : MnSt n a m xs rows q qc px bm c w) (k : Nat) : MnSt n a m xs rows q qc px bm c (w.drewN k) := ⟨h.blk, h.cells, h.rws, h.memo⟩
end Go.Proofs.Ytgemkfcapkfdbaa
end

section
/-
  Chapter 6, in the program: over to all rows but one.
-/
namespace Go.Proofs.Ytgemkfcapkfdbaa
set_option maxRecDepth 100000
open Go.RowKit Go.Maps

theorem own_ne5 {w : World} {B n b k : Nat} {v : Value} {us : List Value} {p q r s u : Value} (h : w.ownsRow B 3 1 v n us) (hk : v.ownBlock = some k) (h5 : Blk5 w b 92 p q r s u) : b ≠ k := by
  rcases h.2 with ⟨rfl, -⟩ | ⟨g, cap, cur, rfl, -, hg, -⟩
  · cases hk
  · injection hk with hk
    subst hk
    rintro rfl
    unfold Blk5 at h5
    change w.heap[b]? = _ at hg
    rw [hg] at h5
    injection h5 with h5
    injection h5 with _ h5 _
    exact absurd h5 (by decide)
theorem own_neM {w : World} {B n bm c k : Nat} {D : DataW Unit} {v : Value} {us : List Value} (h : w.ownsRow B 3 1 v n us) (hk : v.ownBlock = some k) (hm : Mp w bm c D) : bm ≠ k := by
  obtain ⟨es, clock, hb, -⟩ := hm
  rcases h.2 with ⟨rfl, -⟩ | ⟨g, cap, cur, rfl, -, hg, -⟩
  · cases hk
  · injection hk with hk
    subst hk
    rintro rfl
    change w.heap[bm]? = _ at hg
    rw [hg] at hb
    cases hb
theorem FrS.of_row {w w' : World} {row : Option Nat} (h : w.grownBy w' row) : FrS (fun k => row = some k) w w' := ⟨h.os, h.tape, h.output, h.size, fun k hk hn => h.block k hk (fun e => hn e.symm)⟩
theorem Blk5.ne_map {w : World} {b bm c : Nat} {D : DataW Unit} {t : TypeId} {p q r s u : Value} (h : Blk5 w b t p q r s u) (hm : Mp w bm c D) (e : bm = b) : False := hm.ne5 h e.symm
theorem take5 {w w1 : World} {B n b : Nat} {v : Value} {us : List Value} {p q r s u : Value} {o : Obj} (h5 : Blk5 w b 92 p q r s u) (h : w.ownsRow B 3 1 v n us) (hg : (w.alloc o).grownBy w1 v.ownBlock) : Blk5 w1 b 92 p q r s u :=
  (h5.old o).grown hg (fun e => own_ne5 h e.symm h5 rfl)
/-- The rows' slice, in the walk. -/
def TkSt (n : Nat) (A : Value) (px bm c B : Nat) (D : DataW Unit) (V : Value) (e : Int) (w : World) (k : Nat) (wr : World) : Prop := ∃ V', Blk5 wr px 92 (.int .i64 n) (.int .i64 n) A V' (.map (some bm)) ∧ wr.ownsRow B 3 1 V' (rowsBut k e).length ((rowsBut k e).map fun (r : Nat) => Value.int .i64 (r : Int)) ∧ (∀ g, V'.ownBlock = some g → V.ownBlock = some g ∨ w.heap.size ≤ g) ∧ Mp wr bm c D ∧ FrS (fun k => k = px ∨ k = bm ∨ V.ownBlock = some k) w wr
set_option maxHeartbeats 1000000 in
theorem iTake (n N m : Nat) (a : Option Addr) (e : Int) (px bm c B l : Nat) (D : DataW Unit) (V : Value) (us : List Value) (w : World) (h6 : n ≤ 6) (h5 : Blk5 w px 92 (.int .i64 n) (.int .i64 n) (.slice a N m) V (.map (some bm))) (ho : w.ownsRow B 3 1 V l us) (hm : Mp w bm c D) (hB : B ≤ w.heap.size) :
    Calls Try.prog 77 #[.pointer (some ⟨px, 0, none⟩), .int .i64 e] w (fun r w' => Void r ∧ ∃ V', Blk5 w' px 92 (.int .i64 n) (.int .i64 n) (.slice a N m) V' (.map (some bm)) ∧ w'.ownsRow B 3 1 V' (rowsBut n e).length ((rowsBut n e).map fun (r : Nat) => Value.int .i64 (r : Int)) ∧ (∀ g, V'.ownBlock = some g → V.ownBlock = some g ∨ w.heap.size ≤ g) ∧ Mp w' bm 0 (.map []) ∧ FrS (fun k => k = px ∨ k = bm ∨ V.ownBlock = some k) w w') := by
  have H5 := Lib.hid h5
  have MM := Lib.hid hm
  have HB := Lib.hid hB
  have OO := Lib.hid ho
  obtain ⟨b0, b1, b2, b3, b4⟩ := h5.all
  have bf := h5.free 3
  have PN : Hid (∀ g, V.ownBlock = some g → px ≠ g) := fun g hg => own_ne5 ho hg h5
  obtain ⟨fi, hfi, hz0, hz1, hz2⟩ := facts_int
  rcases ho.2 with ⟨rfl, -⟩ | ⟨g, cap, cur, rfl, hg1, hg2, hg3, hg4, hg5, hg6⟩
  · have S0 : Hid (TkSt n (.slice a N m) px bm c B D (.slice none 0 0) e w 0 (w.setCell ⟨px, 3, none⟩ (.slice none 0 0))) :=
      ⟨_, H5.out.set3 _, World.ownsRow_nil _ _ _ _, fun g hg => .inl hg, MM.out.move (Below.heap_setCell _ _ _ _ (Ne.symm (MM.out.ne5 H5.out))), (FrS.refl _ w).set (.inl (.inl rfl)) _⟩
    clear h5 hm hB ho
    go_enter Try.func77, Try.ntmps77
    go_wp2_with fail
    clear b0 b1 b2 b3 b4 bf PN OO
    generalize w.setCell ⟨px, 3, none⟩ (.slice none 0 0) = W at S0
    go_loopw [4, 18] (fun _ i wr => ∃ k : Nat, i = .int .i64 k ∧ k ≤ n ∧ TkSt n (.slice a N m) px bm c B D (.slice none 0 0) e w k wr) (fun _ i _ => n - (intOf i).toNat)
    case atStart => exact ⟨0, rfl, by omega, S0.out⟩
    case round =>
      obtain ⟨k, rfl, hk, hst⟩ := hrel
      have ST := Lib.hid hst
      obtain ⟨V', k5, ko, kn, km, kf⟩ := hst
      obtain ⟨b0, b1, b2, b3, b4⟩ := k5.all
      by_cases hlt : k < n
      · by_cases hr : (k : Int) = e
        · have n1 : ((k : Int) != e) = false := by simp [hr]
          have n2 : ((k : Int) == e) = true := by simp [hr]
          have RE : Hid (rowsBut (k + 1) e = rowsBut k e) := rowsBut_out hr
          clear k5 ko kn km kf hr
          go_wp2_with fail
          go_roundw
          case rel => exact ⟨k + 1, by go_num, by omega, by have := ST.out; unfold TkSt at this ⊢; rw [RE.out]; exact this⟩
          case measure => simp [intOf]; omega
        · have n1 : ((k : Int) != e) = true := by simp [hr]
          have n2 : ((k : Int) == e) = false := by simp [hr]
          have RE : Hid (rowsBut (k + 1) e = rowsBut k e ++ [k]) := rowsBut_in hr
          have LB : (rowsBut k e).length ≤ 6 := Nat.le_trans (rowsBut_le k e) (by omega)
          have hBw : B ≤ wr.heap.size := Nat.le_trans HB.out kf.size
          have K5 := Lib.hid k5
          have KO := Lib.hid ko
          have KN := Lib.hid kn
          have KM := Lib.hid km
          have KF := Lib.hid kf
          have bf := k5.free 3
          clear k5 ko kn km kf hr ST
          have KOA : Hid ((wr.alloc (.cells #[.int .i64 (k : Int)] 3)).ownsRow B 3 1 V' (rowsBut k e).length ((rowsBut k e).map fun (r : Nat) => Value.int .i64 (r : Int))) := KO.out.alloc _
          have G1 : Hid (wr.grownBy (wr.alloc (.cells #[.int .i64 (k : Int)] 3)) V'.ownBlock) := World.grownBy_alloc _ _ _
          obtain ⟨L, hL⟩ : ∃ L, (rowsBut k e).length = L := ⟨_, rfl⟩
          have HL := Lib.hid hL
          rw [hL] at KOA LB
          clear hL
          go_wp2_with (first
            | (at_builtin; refine wpList_append_own_at _ rfl _ _ 24 rfl B 3 fi (.int .i64 0) 1 8 underlying_ints hfi hz0 hz1 hz2 rfl (by decide) _ _ _ rfl KOA.out ⟨wr.heap.size, 0, none⟩ 1 1 [.int .i64 (k : Int)] rfl rfl (cell_one_new _ _ _) (ints_oneCell .i64 [(k : Int)]) (by unfold maxLen; omega) (by omega) (by simp; omega) ?_; intro v' w1 hown' hgrow hnil hloc; obtain ⟨va, vm, vc, rfl⟩ := rows_form hown'; have K51 := take5 K5.out KO.out hgrow; have bf1 := K51.free 3; obtain ⟨-, -, -, q3, -⟩ := K51.all; replace K51 := Lib.hid K51)
            | fail)
          have PK : V'.ownBlock ≠ some px := fun e => own_ne5 KO.out e K5.out rfl
          have PM : V'.ownBlock ≠ some bm := fun e => own_neM KO.out e KM.out rfl
          have NV : ∀ g, (Value.slice va vm vc).ownBlock = some g → (Value.slice none 0 0).ownBlock = some g ∨ w.heap.size ≤ g := fun g hg => by
            rcases hloc with hl | hl
            · exact KN.out g (hl ▸ hg)
            · rw [hl] at hg
              injection hg with hg
              have := KF.out.size
              exact .inr (by rw [← hg]; simp; omega)
          have F1 : FrS (fun k => k = px ∨ V'.ownBlock = some k) wr (w1.setCell ⟨px, 3, none⟩ (.slice va vm vc)) := ((((FrS.refl _ wr).alloc _).trans ((FrS.of_row hgrow).mono (fun k hk => .inr hk)))).set (.inl (.inl rfl)) _
          go_roundw
          case rel =>
            refine ⟨k + 1, by go_num, by omega, _, K51.out.set3 _, ?_, NV, KM.out.move (F1.block bm KM.out.lt ?_), KF.out.transR F1 ?_⟩
            · have : w1.ownsRow B 3 1 (.slice va vm vc) (rowsBut (k + 1) e).length ((rowsBut (k + 1) e).map fun (r : Nat) => Value.int .i64 (r : Int)) := by
                rw [RE.out, List.length_append, List.map_append, HL.out]
                exact hown'
              refine this.kept (row := some px) (grown_set_one (World.grownBy.refl _ _) rfl _) (.inr fun hv => ?_)
              exact own_ne5 this hv K51.out rfl
            · rintro (e1 | e1)
              · exact K5.out.ne_map KM.out e1
              · exact PM e1
            · rintro k0 hk0 (rfl | e1)
              · exact .inl rfl
              · rcases KN.out k0 e1 with h | h
                · exact .inr (.inr h)
                · omega
          case measure => simp [intOf]; omega
      · obtain rfl : k = n := by omega
        have K5 := Lib.hid k5
        have KO := Lib.hid ko
        have KN := Lib.hid kn
        have KM := Lib.hid km
        have KF := Lib.hid kf
        clear k5 ko kn km kf hlt
        obtain ⟨w1, hcl, hm1, hg1⟩ := KM.out.clear 0
        go_wp2_with fail
        go_end0
        refine ⟨rfl, V', K5.out.one hg1 (KM.out.ne5 K5.out), KO.out.kept hg1 ?_, KN.out, hm1, KF.out.transR (FrS.of_row hg1) (fun k _ hk => .inr (.inl (by injection hk with hk; exact hk.symm)))⟩
        cases hv : V'.ownBlock with
        | none => exact .inl rfl
        | some g0 => exact .inr (fun e => own_neM KO.out hv KM.out (by injection e with e; exact e.symm))
  · have S0 : Hid (TkSt n (.slice a N m) px bm c B D (.slice (some ⟨g, 0, none⟩) l cap) e w 0 (w.setCell ⟨px, 3, none⟩ (.slice (some ⟨g, 0, none⟩) 0 cap))) :=
      ⟨_, H5.out.set3 _, ⟨rfl, .inr ⟨g, cap, cur, rfl, hg1, (Below.heap_setCell w ⟨px, 3, none⟩ _ g (Ne.symm (PN.out g rfl))).trans hg2, Nat.zero_le _, hg4, hg5, by simp [rowsBut]⟩⟩, fun g hg => .inl hg, MM.out.move (Below.heap_setCell _ _ _ _ (Ne.symm (MM.out.ne5 H5.out))), (FrS.refl _ w).set (.inl (.inl rfl)) _⟩
    clear h5 hm hB ho hg2 hg3 hg4 hg5 hg6
    go_enter Try.func77, Try.ntmps77
    go_wp2_with fail
    clear b0 b1 b2 b3 b4 bf PN OO
    generalize w.setCell ⟨px, 3, none⟩ (.slice (some ⟨g, 0, none⟩) 0 cap) = W at S0
    go_loopw [4, 18] (fun _ i wr => ∃ k : Nat, i = .int .i64 k ∧ k ≤ n ∧ TkSt n (.slice a N m) px bm c B D (.slice (some ⟨g, 0, none⟩) l cap) e w k wr) (fun _ i _ => n - (intOf i).toNat)
    case atStart => exact ⟨0, rfl, by omega, S0.out⟩
    case round =>
      obtain ⟨k, rfl, hk, hst⟩ := hrel
      have ST := Lib.hid hst
      obtain ⟨V', k5, ko, kn, km, kf⟩ := hst
      obtain ⟨b0, b1, b2, b3, b4⟩ := k5.all
      by_cases hlt : k < n
      · by_cases hr : (k : Int) = e
        · have n1 : ((k : Int) != e) = false := by simp [hr]
          have n2 : ((k : Int) == e) = true := by simp [hr]
          have RE : Hid (rowsBut (k + 1) e = rowsBut k e) := rowsBut_out hr
          clear k5 ko kn km kf hr
          go_wp2_with fail
          go_roundw
          case rel => exact ⟨k + 1, by go_num, by omega, by have := ST.out; unfold TkSt at this ⊢; rw [RE.out]; exact this⟩
          case measure => simp [intOf]; omega
        · have n1 : ((k : Int) != e) = true := by simp [hr]
          have n2 : ((k : Int) == e) = false := by simp [hr]
          have RE : Hid (rowsBut (k + 1) e = rowsBut k e ++ [k]) := rowsBut_in hr
          have LB : (rowsBut k e).length ≤ 6 := Nat.le_trans (rowsBut_le k e) (by omega)
          have hBw : B ≤ wr.heap.size := Nat.le_trans HB.out kf.size
          have K5 := Lib.hid k5
          have KO := Lib.hid ko
          have KN := Lib.hid kn
          have KM := Lib.hid km
          have KF := Lib.hid kf
          have bf := k5.free 3
          clear k5 ko kn km kf hr ST
          have KOA : Hid ((wr.alloc (.cells #[.int .i64 (k : Int)] 3)).ownsRow B 3 1 V' (rowsBut k e).length ((rowsBut k e).map fun (r : Nat) => Value.int .i64 (r : Int))) := KO.out.alloc _
          have G1 : Hid (wr.grownBy (wr.alloc (.cells #[.int .i64 (k : Int)] 3)) V'.ownBlock) := World.grownBy_alloc _ _ _
          obtain ⟨L, hL⟩ : ∃ L, (rowsBut k e).length = L := ⟨_, rfl⟩
          have HL := Lib.hid hL
          rw [hL] at KOA LB
          clear hL
          go_wp2_with (first
            | (at_builtin; refine wpList_append_own_at _ rfl _ _ 24 rfl B 3 fi (.int .i64 0) 1 8 underlying_ints hfi hz0 hz1 hz2 rfl (by decide) _ _ _ rfl KOA.out ⟨wr.heap.size, 0, none⟩ 1 1 [.int .i64 (k : Int)] rfl rfl (cell_one_new _ _ _) (ints_oneCell .i64 [(k : Int)]) (by unfold maxLen; omega) (by omega) (by simp; omega) ?_; intro v' w1 hown' hgrow hnil hloc; obtain ⟨va, vm, vc, rfl⟩ := rows_form hown'; have K51 := take5 K5.out KO.out hgrow; have bf1 := K51.free 3; obtain ⟨-, -, -, q3, -⟩ := K51.all; replace K51 := Lib.hid K51)
            | fail)
          have PK : V'.ownBlock ≠ some px := fun e => own_ne5 KO.out e K5.out rfl
          have PM : V'.ownBlock ≠ some bm := fun e => own_neM KO.out e KM.out rfl
          have NV : ∀ g', (Value.slice va vm vc).ownBlock = some g' → (Value.slice (some ⟨g, 0, none⟩) l cap).ownBlock = some g' ∨ w.heap.size ≤ g' := fun g' hg => by
            rcases hloc with hl | hl
            · exact KN.out g' (hl ▸ hg)
            · rw [hl] at hg
              injection hg with hg
              have := KF.out.size
              exact .inr (by rw [← hg]; simp; omega)
          have F1 : FrS (fun k => k = px ∨ V'.ownBlock = some k) wr (w1.setCell ⟨px, 3, none⟩ (.slice va vm vc)) := ((((FrS.refl _ wr).alloc _).trans ((FrS.of_row hgrow).mono (fun k hk => .inr hk)))).set (.inl (.inl rfl)) _
          go_roundw
          case rel =>
            refine ⟨k + 1, by go_num, by omega, _, K51.out.set3 _, ?_, NV, KM.out.move (F1.block bm KM.out.lt ?_), KF.out.transR F1 ?_⟩
            · have : w1.ownsRow B 3 1 (.slice va vm vc) (rowsBut (k + 1) e).length ((rowsBut (k + 1) e).map fun (r : Nat) => Value.int .i64 (r : Int)) := by
                rw [RE.out, List.length_append, List.map_append, HL.out]
                exact hown'
              refine this.kept (row := some px) (grown_set_one (World.grownBy.refl _ _) rfl _) (.inr fun hv => ?_)
              exact own_ne5 this hv K51.out rfl
            · rintro (e1 | e1)
              · exact K5.out.ne_map KM.out e1
              · exact PM e1
            · rintro k0 hk0 (rfl | e1)
              · exact .inl rfl
              · rcases KN.out k0 e1 with h | h
                · exact .inr (.inr h)
                · omega
          case measure => simp [intOf]; omega
      · obtain rfl : k = n := by omega
        have K5 := Lib.hid k5
        have KO := Lib.hid ko
        have KN := Lib.hid kn
        have KM := Lib.hid km
        have KF := Lib.hid kf
        clear k5 ko kn km kf hlt
        obtain ⟨w1, hcl, hm1, hg1⟩ := KM.out.clear 0
        go_wp2_with fail
        go_end0
        refine ⟨rfl, V', K5.out.one hg1 (KM.out.ne5 K5.out), KO.out.kept hg1 ?_, KN.out, hm1, KF.out.transR (FrS.of_row hg1) (fun k _ hk => .inr (.inl (by injection hk with hk; exact hk.symm)))⟩
        cases hv : V'.ownBlock with
        | none => exact .inl rfl
        | some g0 => exact .inr (fun e => own_neM KO.out hv KM.out (by injection e with e; exact e.symm))
end Go.Proofs.Ytgemkfcapkfdbaa
end

section
/-
  Chapter 6, in the program: the determinants' block is made.
-/
namespace Go.Proofs.Ytgemkfcapkfdbaa
set_option maxRecDepth 100000
open Go.RowKit Go.Maps

/-- A new block of determinants: all rows, nothing known. -/
def MnNewR (n N m : Nat) (a : Option Addr) (w : World) (e : Ending) (w' : World) : Prop := ∃ px bm V, e = .returned (.pointer (some ⟨px, 0, none⟩)) ∧ w.heap.size ≤ px ∧ w.heap.size ≤ bm ∧ Blk5 w' px 92 (.int .i64 n) (.int .i64 n) (.slice a N m) V (.map (some bm)) ∧ w'.ownsRow w.heap.size 3 1 V (rowsBut n (-1)).length ((rowsBut n (-1)).map fun (r : Nat) => Value.int .i64 (r : Int)) ∧ Mp w' bm 0 (.map []) ∧ Below w.heap.size w w'
set_option maxHeartbeats 1000000 in
theorem iMinorsOf (n N m : Nat) (a : Option Addr) (w : World) (h6 : n ≤ 6) : Calls Try.prog 46 #[.agg #[.int .i64 n, .int .i64 n, .slice a N m]] w (MnNewR n N m a w) := by
  have hmm := @run_makeMap Try.prog
  go_enter Try.func46, Try.ntmps46
  go_wp2_with fail
  obtain ⟨W, hW⟩ : ∃ W, ((w.alloc (.cells #[.int .i64 n, .int .i64 n, .slice a N m] 34)).alloc (.map #[] 0)).alloc (.cells #[.int .i64 n, .int .i64 n, .slice a N m, .slice none 0 0, .map (some (w.heap.size + 1))] 92) = W := ⟨_, rfl⟩
  have B5 : Hid (Blk5 W (w.heap.size + 1 + 1) 92 (.int .i64 n) (.int .i64 n) (.slice a N m) (.slice none 0 0) (.map (some (w.heap.size + 1)))) := by
    show Blk5 W _ _ _ _ _ _ _
    rw [← hW]
    exact Blk5.at_ _ _ _ _ _ _ (by simp)
  have MM : Hid (Mp W (w.heap.size + 1) 0 (.map [])) := by
    show Mp W (w.heap.size + 1) 0 (.map [])
    have := Mp.made (w.alloc (.cells #[.int .i64 n, .int .i64 n, .slice a N m] 34))
    have h2 := this.kept (World.grownBy_alloc _ (.cells #[.int .i64 n, .int .i64 n, .slice a N m, .slice none 0 0, .map (some (w.heap.size + 1))] 92) none) (by simp)
    rw [hW] at h2
    simpa using h2
  have BW : Hid (Below w.heap.size w W) := by
    show Below w.heap.size w W
    rw [← hW]
    exact (((Below.refl _ _).alloc (Nat.le_refl _) _).alloc (by simp) _).alloc (by simp <;> omega) _
  rw [hW]
  clear hW
  refine (iTake n N m a (-1) (w.heap.size + 1 + 1) (w.heap.size + 1) 0 w.heap.size 0 (.map []) (.slice none 0 0) [] W h6 B5.out (World.ownsRow_nil _ _ _ _) MM.out BW.out.size).mono ?_
  rintro e w' ⟨rfl, V, h5, ho, hn, hm, hf⟩
  have H : Hid (Below w.heap.size w w') := BW.out.trans (hf.below (fun k hk => by rcases hk with h | h | h; omega; omega; cases h) BW.out.size)
  have R : MnNewR n N m a w (.returned (.pointer (some ⟨w.heap.size + 1 + 1, 0, none⟩))) w' := ⟨_, _, V, rfl, by omega, by omega, h5, ho, hm, H.out⟩
  clear h5 ho hn hm hf
  have RR := Lib.hid R
  clear R
  go_wp2_with fail
  go_ret
  exact RR.out
end Go.Proofs.Ytgemkfcapkfdbaa
end

section
/-
  Plain mathematics of chapter 6: the expansion of a set of columns, column by column. Nothing of a program is used.
-/
namespace Go.Proofs.Ytgemkfcapkfdbaa

/-- The sum of the first p columns of a set, unless a minor that is met has the mark. -/
def accD (n : Nat) (xs : List Int) (rows : List Nat) (S p : Nat) : Option Int := detAcc (fun j => (rowsD xs n rows (colsL n S)).getD j 0) (mnB ((colsL n S).length - 1) (rowsD xs n rows (colsL n S))) p
theorem accD_zero (n : Nat) (xs : List Int) (rows : List Nat) (S : Nat) : accD n xs rows S 0 = some 0 := rfl
def detR (d : Int) : Int × Bool := if d = badN then (0, false) else (d, true)
def exR : Option Int → Int × Bool
  | none => (0, false)
  | some s => (s, true)
theorem detR_bad {d : Int} (h : d = badN) : detR d = (0, false) := if_pos h
theorem detR_num {d : Int} (h : d ≠ badN) : detR d = (d, true) := if_neg h
theorem NumP.ne_bad {d : Int} (h : NumP d) : d ≠ badN := by
  unfold NumP at h
  unfold badN
  omega
/-- What the determinant of a set of columns is. -/
theorem setD_acc {n S k : Nat} {xs : List Int} {rows : List Nat} (hk : (colsL n S).length = k + 1) : setD n xs rows S = match accD n xs rows S (k + 1) with
    | none => badN
    | some s => fitB s := by
  unfold setD accD
  rw [hk]
  rfl
theorem setD_none {n S k : Nat} {xs : List Int} {rows : List Nat} (hk : (colsL n S).length = k + 1) (h : accD n xs rows S (k + 1) = none) : setD n xs rows S = badN := by rw [setD_acc hk, h]
theorem setD_bad {n S k : Nat} {xs : List Int} {rows : List Nat} {s : Int} (hk : (colsL n S).length = k + 1) (h : accD n xs rows S (k + 1) = some s) (hs : ¬ NumP s) : setD n xs rows S = badN := by
  rw [setD_acc hk, h]
  exact if_neg hs
theorem setD_num {n S k : Nat} {xs : List Int} {rows : List Nat} {s : Int} (hk : (colsL n S).length = k + 1) (h : accD n xs rows S (k + 1) = some s) (hs : NumP s) : setD n xs rows S = s := by
  rw [setD_acc hk, h]
  exact if_pos hs
/-- The cell of a column in the first row that is left. -/
theorem acc_cell {n S c k : Nat} {xs : List Int} {rows : List Nat} (hc : c < n) (hb : S.testBit c = true) (hk : (colsL n S).length = k + 1) :
    (rowsD xs n rows (colsL n S)).getD (colsL c S).length 0 = xs.getD (rows.getD (rows.length - (k + 1)) 0 * n + c) 0 := by
  obtain ⟨h1, h2⟩ := colsL_at hc hb
  rw [setD_first hk _ (by omega), h2]
section
variable {n S c k : Nat} {xs : List Int} {rows : List Nat} {s : Int}
theorem acc_skip (hc : c < n) (hb : S.testBit c = true) (hk : (colsL n S).length = k + 1) (h : accD n xs rows S (colsL c S).length = some s) (h0 : xs.getD (rows.getD (rows.length - (k + 1)) 0 * n + c) 0 = 0) :
    accD n xs rows S (colsL (c + 1) S).length = some s := by
  rw [colsL_in hb]
  exact detAcc_skip h (by show (rowsD xs n rows (colsL n S)).getD _ 0 = 0; rw [acc_cell hc hb hk]; exact h0)
theorem acc_bad (h6 : n ≤ 6) (hS : S < 64) (hr : k + 1 ≤ rows.length) (hc : c < n) (hb : S.testBit c = true) (hk : (colsL n S).length = k + 1) (h : accD n xs rows S (colsL c S).length = some s) (h0 : xs.getD (rows.getD (rows.length - (k + 1)) 0 * n + c) 0 ≠ 0) (h1 : setD n xs rows (lessS S c) = badN) :
    accD n xs rows S (k + 1) = none := by
  refine detAcc_none (detAcc_bad h (by rw [acc_cell hc hb hk]; exact h0) ?_) (by have := (colsL_at hc hb).1; omega)
  rw [hk, Nat.add_sub_cancel, mnB_less h6 hS hc hb hk hr]
  exact h1
theorem acc_add (h6 : n ≤ 6) (hS : S < 64) (hr : k + 1 ≤ rows.length) (hc : c < n) (hb : S.testBit c = true) (hk : (colsL n S).length = k + 1) (h : accD n xs rows S (colsL c S).length = some s) (h0 : xs.getD (rows.getD (rows.length - (k + 1)) 0 * n + c) 0 ≠ 0) (h1 : setD n xs rows (lessS S c) ≠ badN) :
    accD n xs rows S (colsL (c + 1) S).length = some (s + sg (colsL c S).length * xs.getD (rows.getD (rows.length - (k + 1)) 0 * n + c) 0 * setD n xs rows (lessS S c)) := by
  have e : mnB ((colsL n S).length - 1) (rowsD xs n rows (colsL n S)) (colsL c S).length = setD n xs rows (lessS S c) := by rw [hk, Nat.add_sub_cancel, mnB_less h6 hS hc hb hk hr]
  have := detAcc_add h (by show (rowsD xs n rows (colsL n S)).getD _ 0 ≠ 0; rw [acc_cell hc hb hk]; exact h0) (by rw [e]; exact h1)
  rw [acc_cell hc hb hk, e] at this
  rw [colsL_in hb]
  exact this
end
theorem rowsD_nums {n k : Nat} {xs : List Int} {rows cs : List Nat} (nx : nums xs = true) (hc : cs.length = k + 1) (j : Nat) (hj : j < k + 1) : NumP ((rowsD xs n rows cs).getD j 0) := by
  rw [setD_first hc j hj]
  obtain ⟨p, hp⟩ : ∃ p, rows.getD (rows.length - (k + 1)) 0 * n + cs.getD j 0 = p := ⟨_, rfl⟩
  rw [hp]
  rcases Nat.lt_or_ge p xs.length with h1 | h1
  · exact nums_at nx h1
  · rw [List.getD, List.getElem?_eq_none h1]; exact ⟨by decide, by decide⟩
theorem acc_bd {n S k p : Nat} {xs : List Int} {rows : List Nat} {s : Int} (nx : nums xs = true) (hk : (colsL n S).length = k + 1) (hp : p ≤ k + 1) (h : accD n xs rows S p = some s) : -((p : Int) * 160000000000000000) ≤ s ∧ s ≤ (p : Int) * 160000000000000000 :=
  detAcc_bd (fun j hj => rowsD_nums nx hk j (by omega)) (fun j _ => detB_or _ _) h
theorem cols_card : ∀ n, n ≤ 6 → ∀ S, S < 2 ^ n → (colsL 6 S).length = (colsL n S).length := by decide +kernel
theorem pow_64 : ∀ n, n ≤ 6 → 2 ^ n ≤ 64 := by decide
end Go.Proofs.Ytgemkfcapkfdbaa
end

section
/-
  Chapter 6, in the program: sets of columns as bits.
-/
namespace Go.Proofs.Ytgemkfcapkfdbaa
set_option maxRecDepth 100000
open Go.RowKit

theorem iOnes64 (S : Nat) (h : S < 64) (w : World) : Calls Try.prog 109 #[.int .u64 S] w fun e w' => e = .returned (.int .i64 ((colsL 6 S).length : Int)) ∧ w' = w := by
  go_enter Try.func109, Try.ntmps109
  go_wp2
  go_ret
  refine ⟨congrArg Ending.returned (congrArg (Value.int .i64) ?_), rfl⟩
  revert S
  decide +kernel
theorem iOnes (S : Nat) (h : S < 64) (w : World) : Calls Try.prog 97 #[.int .u64 S] w fun e w' => e = .returned (.int .i64 ((colsL 6 S).length : Int)) ∧ w' = w := by
  go_enter Try.func97, Try.ntmps97
  go_wp2_with fail
  refine (iOnes64 S h _).mono ?_
  rintro e w' ⟨rfl, rfl⟩
  go_wp2_with fail
  go_ret
  exact ⟨rfl, rfl⟩
theorem iHas (S c : Nat) (h : S < 64) (hc : c < 6) (w : World) : Calls Try.prog 98 #[.int .u64 S, .int .i64 c] w fun e w' => e = .returned (.bool (S.testBit c)) ∧ w' = w := by
  have c0 : (0 : Int) ≤ (c : Int) := by omega
  have c1 : (c : Int) ≤ 64 := by omega
  go_enter Try.func98, Try.ntmps98
  go_wp2
  go_ret
  refine ⟨congrArg Ending.returned (congrArg Value.bool ?_), rfl⟩
  clear c0 c1
  revert c
  revert S
  decide +kernel
theorem iWithout (S c : Nat) (h : S < 64) (hc : c < 6) (w : World) : Calls Try.prog 99 #[.int .u64 S, .int .i64 c] w fun e w' => e = .returned (.int .u64 (lessS S c)) ∧ w' = w := by
  have c0 : (0 : Int) ≤ (c : Int) := by omega
  have c1 : (c : Int) ≤ 64 := by omega
  go_enter Try.func99, Try.ntmps99
  go_wp2
  go_ret
  refine ⟨congrArg Ending.returned (congrArg (Value.int .u64) ?_), rfl⟩
  clear c0 c1
  revert c
  revert S
  decide +kernel
theorem iFirst (n : Nat) (h : n ≤ 6) (w : World) : Calls Try.prog 48 #[.int .i64 n] w fun e w' => e = .returned (.int .u64 ((2 ^ n - 1 : Nat) : Int)) ∧ w' = w := by
  have c0 : (0 : Int) ≤ (n : Int) := by omega
  have c1 : (n : Int) ≤ 64 := by omega
  go_enter Try.func48, Try.ntmps48
  go_wp2
  go_ret
  refine ⟨congrArg Ending.returned (congrArg (Value.int .u64) ?_), rfl⟩
  clear c0 c1
  revert n
  decide +kernel
end Go.Proofs.Ytgemkfcapkfdbaa
end

section
/-
  Chapter 6, in the program: determinants of a set of columns, expanded with a memory.
-/
namespace Go.Proofs.Ytgemkfcapkfdbaa
set_option maxRecDepth 100000
open Go.RowKit Go.Maps

/-- What is returned for a set of k columns. -/
def MinorAt (n : Nat) (a : Option Addr) (m : Nat) (xs : List Int) (rows : List Nat) (q : Option Addr) (qc px bm k : Nat) : Prop := ∀ (S c : Nat) (w : World), S < 2 ^ n → (colsL n S).length = k → MnSt n a m xs rows q qc px bm c w → c + 7 ^ k ≤ 1000000 →
  Calls Try.prog 47 #[.pointer (some ⟨px, 0, none⟩), .int .u64 S] w (fun e w' => e = .returned (.tuple #[.int .i64 (detR (setD n xs rows S)).1, .bool (detR (setD n xs rows S)).2]) ∧ MnSt n a m xs rows q qc px bm (c + 7 ^ k) w' ∧ w.grownBy w' (some bm))
set_option maxHeartbeats 2000000 in
theorem iExpand (n : Nat) (a : Option Addr) (m : Nat) (xs : List Int) (rows : List Nat) (q : Option Addr) (qc px bm k : Nat) (h6 : n ≤ 6) (hx : xs.length = n * n) (nx : nums xs = true) (hrn : ∀ i, i < rows.length → rows.getD i 0 < n) (hk : k + 1 ≤ rows.length) (hrl : rows.length ≤ 6) (ih : MinorAt n a m xs rows q qc px bm k)
    (S c : Nat) (w : World) (hS : S < 2 ^ n) (hc : (colsL n S).length = k + 1) (st : MnSt n a m xs rows q qc px bm c w) (hcb : c + 6 * 7 ^ k ≤ 1000000) :
    Calls Try.prog 78 #[.pointer (some ⟨px, 0, none⟩), .int .u64 S] w (fun e w' => e = .returned (.tuple #[.int .i64 (exR (accD n xs rows S (k + 1))).1, .bool (exR (accD n xs rows S (k + 1))).2]) ∧ MnSt n a m xs rows q qc px bm (c + 6 * 7 ^ k) w' ∧ w.grownBy w' (some bm)) := by
  have h64 : S < 64 := Nat.lt_of_lt_of_le hS (pow_64 n h6)
  have IH := Lib.hid ih
  have ON : Hid (∀ w', Calls Try.prog 97 #[.int .u64 S] w' fun e w2 => e = .returned (.int .i64 ((k + 1 : Nat) : Int)) ∧ w2 = w') := fun w' => by
    have := iOnes S h64 w'
    rw [cols_card n h6 S hS, hc] at this
    exact this
  have HA : Hid (∀ j (w' : World), j < n → Calls Try.prog 98 #[.int .u64 S, .int .i64 j] w' fun e w2 => e = .returned (.bool (S.testBit j)) ∧ w2 = w') := fun j w' hj => iHas S j h64 (by omega) w'
  have WI : Hid (∀ j (w' : World), j < n → Calls Try.prog 99 #[.int .u64 S, .int .i64 j] w' fun e w2 => e = .returned (.int .u64 (lessS S j)) ∧ w2 = w') := fun j w' hj => iWithout S j h64 (by omega) w'
  obtain ⟨I, hI⟩ : ∃ I, rows.length = I + (k + 1) := ⟨rows.length - (k + 1), by omega⟩
  have hI2 : rows.length - (k + 1) = I := by omega
  obtain ⟨r, hr⟩ : ∃ r, rows.getD I 0 = r := ⟨_, rfl⟩
  have rn : r < n := by rw [← hr]; exact hrn I (by omega)
  have LS : Hid (∀ j, j < n → S.testBit j = true → lessS S j < 2 ^ n ∧ (colsL n (lessS S j)).length = k ∧ (colsL j S).length ≤ 6 ∧ (colsL (j + 1) S).length = (colsL j S).length + 1 ∧ (colsL j S).length < k + 1) := fun j hj hb => ⟨lessS_lt n h6 S hS j hj, less_card h6 h64 hj hb hc, Nat.le_trans (Nat.le_of_lt (colsL_at hj hb).1) (by have := colsL_le (S := S) (Nat.le_refl n); have := List.length_filter_le (fun c => S.testBit c) (List.range n); simp only [List.length_range] at this; unfold colsL; omega), colsL_in hb, by have := (colsL_at hj hb).1; omega⟩
  have CE : Hid (∀ j, j < n → S.testBit j = true → ∀ s, accD n xs rows S (colsL j S).length = some s → (xs.getD (r * n + j) 0 = 0 → accD n xs rows S (colsL (j + 1) S).length = some s) ∧ (xs.getD (r * n + j) 0 ≠ 0 → setD n xs rows (lessS S j) = badN → accD n xs rows S (k + 1) = none) ∧ (xs.getD (r * n + j) 0 ≠ 0 → setD n xs rows (lessS S j) ≠ badN → accD n xs rows S (colsL (j + 1) S).length = some (s + sg (colsL j S).length * xs.getD (r * n + j) 0 * setD n xs rows (lessS S j)))) := fun j hj hb s h => by
    have e : rows.getD (rows.length - (k + 1)) 0 = r := by rw [hI2, hr]
    rw [← e]
    exact ⟨fun h0 => acc_skip hj hb hc h h0, fun h0 h1 => acc_bad h6 h64 hk hj hb hc h h0 h1, fun h0 h1 => acc_add h6 h64 hk hj hb hc h h0 h1⟩
  have BD : Hid (∀ j s, j < n → S.testBit j = true → accD n xs rows S (colsL (j + 1) S).length = some s → -2000000000000000000 ≤ s ∧ s ≤ 2000000000000000000) := fun j s hj hb h => by
    have h1 := LS.out j hj hb
    have := acc_bd nx hc (by omega) h
    omega
  have OUT : Hid (∀ j, S.testBit j = false → colsL (j + 1) S = colsL j S) := fun j h => colsL_out h
  have SO : Hid (∀ j, setD n xs rows (lessS S j) = badN ∨ NumP (setD n xs rows (lessS S j))) := fun j => setD_or _ _ _ _
  have ZN : Hid (∀ j, j < n → NumP (xs.getD (r * n + j) 0) ∧ r * n + j < xs.length) := fun j hj => by
    have := idx_lt rn hj
    exact ⟨nums_at nx (by omega), by omega⟩
  have FIN : Hid ((colsL n S).length = k + 1) := hc
  have ST := Lib.hid st
  have rc : w.cell? ⟨px, 3, none⟩ = some (.slice q rows.length qc) := st.blk.all.2.2.2.1
  obtain ⟨gq, oq, hq⟩ := st.rws.addr (by simp; omega)
  have ri : w.cell? ⟨gq, oq + I, none⟩ = some (.int .i64 (r : Int)) := by
    have := st.rws
    rw [hq] at this
    have := this.cells I (by simp; omega)
    rw [this]
    simp [← hr, List.getD, show I < rows.length by omega]
  obtain ⟨G, hG⟩ : ∃ G, 7 ^ k = G := ⟨_, rfl⟩
  have v1 : IntKind.i64.wrap ((rows.length : Int) - ((k + 1 : Nat) : Int)) = (I : Int) := by
    rw [show (rows.length : Int) - ((k + 1 : Nat) : Int) = (I : Int) by omega]
    exact IntWalk.i64_in _ (by omega)
  have i0 : (0 : Int) ≤ (I : Int) := by omega
  have i1 : (I : Int) < (rows.length : Int) := by omega
  obtain ⟨b0, b1, b2, b3, b4⟩ := st.blk.all
  subst hq
  rw [hG] at hcb ⊢
  obtain ⟨L, hL⟩ : ∃ L, rows.length = L := ⟨_, rfl⟩
  rw [hL] at b3 rc v1 i1 hrl
  have HG := Lib.hid hG
  have K6 : k + 1 ≤ 6 := by omega
  have HI := Lib.hid hI
  have NX := Lib.hid nx
  have HX := Lib.hid hx
  obtain ⟨K, hK⟩ : ∃ K, k + 1 = K := ⟨_, rfl⟩
  rw [hK] at ON v1 LS CE FIN K6 ⊢
  clear hG hI hI2 nx hx hr st hrn ih hc hL rc
  go_enter Try.func78, Try.ntmps78
  go_upto_region 1 with fail
  go_quiet ((refine (ON.out _).mono ?_; rintro e w' ⟨rfl, rfl⟩; exact ⟨rfl, _, rfl⟩))
  go_wp2_with fail
  clear b0 b1 b2 b3 b4 ri v1 i0 i1
  have W0 := Lib.hid (ST.out.drewN nq)
  have G0 : Hid (w.grownBy (w.drewN nq) (some bm)) := grown_drewN_one (World.grownBy.refl _ _) nq
  have NE := Lib.hid ST.out.ne
  generalize w.drewN nq = W at W0 G0
  go_loopw [4, 5, 7, 8, 9, 10, 11, 12, 32] (fun _ _ v7 v8 _ _ _ _ v32 wr => ∃ (j : Nat) (s : Int) (c' : Nat), v32 = .int .i64 j ∧ j ≤ n ∧ v7 = .int .i64 s ∧ v8 = .int .i64 (sg (colsL j S).length) ∧ accD n xs rows S (colsL j S).length = some s ∧ MnSt n a m xs rows (some ⟨gq, oq, none⟩) qc px bm c' wr ∧ w.grownBy wr (some bm) ∧ c' ≤ c + (colsL j S).length * G) (fun _ _ _ _ _ _ _ _ v32 _ => n - (intOf v32).toNat)
  case atStart => exact ⟨0, 0, c, rfl, by omega, rfl, rfl, rfl, W0.out, G0.out, by omega⟩
  case round =>
    obtain ⟨j, s, c', rfl, hj, rfl, rfl, hs, hst, hg, hc'⟩ := hrel
    have E := Lib.hid hs
    have M := Lib.hid hst
    have GR := Lib.hid hg
    obtain ⟨b0, b1, b2, b3, b4⟩ := hst.blk.all
    clear hs hst hg
    by_cases hlt : j < n
    · rcases Bool.eq_false_or_eq_true (S.testBit j) with hb | hb
      · have HAj : Hid (∀ w', Calls Try.prog 98 #[.int .u64 S, .int .i64 j] w' fun e w2 => e = .returned (.bool true) ∧ w2 = w') := fun w' => by
          have := HA.out j w' hlt
          rw [hb] at this
          exact this
        obtain ⟨l1, l2, l3, l4, l5⟩ := LS.out j hlt hb
        obtain ⟨e1, e2, e3⟩ := CE.out j hlt hb s E.out
        have BDj : Hid (∀ s, accD n xs rows S (colsL (j + 1) S).length = some s → -2000000000000000000 ≤ s ∧ s ≤ 2000000000000000000) := fun s => BD.out j s hlt hb
        have E1 := Lib.hid e1
        have E2 := Lib.hid e2
        have E3 := Lib.hid e3
        have L1 := Lib.hid l1
        have L2 := Lib.hid l2
        have L4 := Lib.hid l4
        have so := SO.out j
        have SOJ := Lib.hid so
        obtain ⟨zn, zl⟩ := ZN.out j hlt
        have dz : r * n + j < n * n := by rw [← HX.out]; exact zl
        have M36 : n * n ≤ 6 * 6 := Nat.mul_le_mul h6 h6
        obtain ⟨ga, oa, ha⟩ := M.out.cells.addr (by rw [HX.out]; omega)
        have zc : wr.cell? ⟨ga, oa + (r * n + j), none⟩ = some (.int .i64 (xs.getD (r * n + j) 0)) := by
          have := M.out.cells
          rw [ha] at this
          exact this.cells _ zl
        subst ha
        obtain ⟨z, hz⟩ : ∃ z, xs.getD (r * n + j) 0 = z := ⟨_, rfl⟩
        rw [hz] at zc zn E1 E2 E3
        obtain ⟨P, hP⟩ : ∃ P, r * n + j = P := ⟨_, rfl⟩
        rw [hP] at zc dz
        have c1 : (r : Int) * (n : Int) = ((r * n : Nat) : Int) := (Int.natCast_mul _ _).symm
        have u1 : IntKind.i64.wrap ((r : Int) * (n : Int)) = (r : Int) * (n : Int) := IntWalk.i64_in _ (by rw [c1]; omega)
        have u2 : IntKind.i64.wrap ((r : Int) * (n : Int) + (j : Int)) = (P : Int) := by
          rw [show (r : Int) * (n : Int) + (j : Int) = (P : Int) by rw [c1, ← hP]; omega]
          exact IntWalk.i64_in _ (by omega)
        have p0 : (0 : Int) ≤ (P : Int) := by omega
        have p1 : (P : Int) < ((n * n : Nat) : Int) := by omega
        obtain ⟨sn, hsn⟩ : ∃ z, sg (colsL j S).length = z := ⟨_, rfl⟩
        have s1 : sn = 1 ∨ sn = -1 := by rw [← hsn]; exact sg_or _
        have vn : IntKind.i64.wrap (-sn) = -sn := IntWalk.i64_in _ (by omega)
        have SS : Hid (sg (colsL (j + 1) S).length = -sn) := by show _ = _; rw [L4.out, sg_succ, hsn]
        rw [hsn] at E3 ⊢
        obtain ⟨p, hp⟩ : ∃ p, (colsL j S).length = p := ⟨_, rfl⟩
        have CC : Hid (c' ≤ c + (colsL (j + 1) S).length * G ∧ c' + G ≤ c + (colsL (j + 1) S).length * G ∧ c' + G ≤ c + 6 * G) := by
          have t1 : (p + 1) * G ≤ 6 * G := Nat.mul_le_mul_right G (by omega)
          rw [Nat.succ_mul] at t1
          show _ ∧ _ ∧ _
          rw [L4.out, hp, Nat.succ_mul]
          rw [hp] at hc'
          omega
        have WIj : Hid (∀ w', Calls Try.prog 99 #[.int .u64 S, .int .i64 j] w' fun e w2 => e = .returned (.int .u64 (lessS S j)) ∧ w2 = w') := fun w' => WI.out j w' hlt
        obtain ⟨T, hT⟩ : ∃ T, lessS S j = T := ⟨_, rfl⟩
        rw [hT] at L1 L2 SOJ E2 E3 WIj
        obtain ⟨d, hd⟩ : ∃ d, setD n xs rows T = d := ⟨_, rfl⟩
        have DT : Hid (∀ w', MnSt n (some ⟨ga, oa, none⟩) m xs rows (some ⟨gq, oq, none⟩) qc px bm c' w' → Calls Try.prog 47 #[.pointer (some ⟨px, 0, none⟩), .int .u64 T] w' (fun e w2 => e = .returned (.tuple #[.int .i64 (detR d).1, .bool (detR d).2]) ∧ MnSt n (some ⟨ga, oa, none⟩) m xs rows (some ⟨gq, oq, none⟩) qc px bm (c' + G) w2 ∧ w'.grownBy w2 (some bm))) := fun w' h => by
          have := IH.out T c' w' L1.out L2.out h (by rw [HG.out]; have := CC.out; omega)
          rw [HG.out, hd] at this
          exact this
        rw [hd] at SOJ E2 E3
        clear hb l1 l2 l3 l4 l5 e1 e2 e3 so zl hz hP c1 hsn hp hT hd hc'
        by_cases h0 : z = 0
        · have n1 : (z != 0) = false := by simp [h0]
          have A := Lib.hid (E1.out h0)
          clear h0 s1 zn
          go_wp2_with fail
          refine (HAj.out _).mono ?_
          rintro e w2 ⟨rfl, rfl⟩
          go_upto_region 7 with fail
          go_quiet (fail)
          go_wp2_with fail
          go_roundw
          case rel => exact ⟨j + 1, s, c', by go_num, by omega, rfl, by rw [SS.out], A.out, M.out.drewN nq, grown_drewN_one GR.out nq, CC.out.1⟩
          case measure => simp [intOf]; omega
        · have n1 : (z != 0) = true := by simp [h0]
          have H0 := Lib.hid h0
          clear h0
          go_wp2_with fail
          refine (HAj.out _).mono ?_
          rintro e w2 ⟨rfl, rfl⟩
          go_upto_region 7 with fail
          go_quiet (fail)
          go_wp2_with fail
          refine (WIj.out _).mono ?_
          rintro e w2 ⟨rfl, rfl⟩
          go_wp2_with fail
          refine (DT.out _ (M.out.drewN nq)).mono ?_
          rintro e w2 ⟨rfl, hm2, hg2⟩
          have M2 := Lib.hid hm2
          have GR2 := Lib.hid ((grown_drewN_one GR.out nq).trans hg2)
          clear hm2 hg2
          by_cases h1 : d = badN
          · have A := Lib.hid (E2.out H0.out h1)
            have R := detR_bad h1
            have M3 := Lib.hid (M2.out.mono CC.out.2.2)
            rw [R]
            clear h1 R s1 zn
            go_wp2_with fail
            exact bodyPost_ret (v := .tuple #[.int .i64 0, .bool false]) (by simp [results, Try.results78, go_sem]) rfl ⟨by rw [A.out]; rfl, M3.out, GR2.out⟩
          · have A := Lib.hid (E3.out H0.out h1)
            have R := detR_num h1
            have bd := BDj.out _ A.out
            have mx : NumP (sn * z) := by unfold NumP at *; rcases s1 with rfl | rfl <;> omega
            have my := mul_num _ _ mx (SOJ.out.resolve_left h1)
            unfold NumP at mx
            have v1 : IntKind.i64.wrap (sn * z) = sn * z := IntWalk.i64_in _ (by omega)
            have v2 : IntKind.i64.wrap (sn * z * d) = sn * z * d := IntWalk.i64_in _ (by omega)
            have v3 : IntKind.i64.wrap (s + sn * z * d) = s + sn * z * d := IntWalk.i64_in _ (by omega)
            rw [R]
            clear h1 R s1 zn bd mx my
            go_wp2_with fail
            go_roundw
            case rel => exact ⟨j + 1, s + sn * z * d, c' + G, by go_num, by omega, rfl, by rw [SS.out], A.out, M2.out, GR2.out, CC.out.2.1⟩
            case measure => simp [intOf]; omega
      · have O := Lib.hid (OUT.out j hb)
        have HAj : Hid (∀ w', Calls Try.prog 98 #[.int .u64 S, .int .i64 j] w' fun e w2 => e = .returned (.bool false) ∧ w2 = w') := fun w' => by
          have := HA.out j w' hlt
          rw [hb] at this
          exact this
        clear hb
        go_wp2_with fail
        refine (HAj.out _).mono ?_
        rintro e w2 ⟨rfl, rfl⟩
        go_wp2_with fail
        go_roundw
        case rel => exact ⟨j + 1, s, c', by go_num, by omega, rfl, by rw [O.out], by rw [O.out]; exact E.out, M.out, GR.out, by rw [O.out]; exact hc'⟩
        case measure => simp [intOf]; omega
    · obtain rfl : j = n := by omega
      rw [FIN.out] at hc'
      have E2 : Hid (accD j xs rows S K = some s) := by
        have := E.out
        rw [FIN.out] at this
        exact this
      have K7 : K * G ≤ 6 * G := Nat.mul_le_mul_right G K6
      have M2 := Lib.hid (M.out.mono (show c' ≤ c + 6 * G by omega))
      clear hlt hc' K7
      go_wp2_with fail
      exact bodyPost_ret (v := .tuple #[.int .i64 s, .bool true]) (by simp [results, Try.results78, go_sem]) rfl ⟨by rw [E2.out]; rfl, M2.out, GR.out⟩
end Go.Proofs.Ytgemkfcapkfdbaa
end

section
/-
  Chapter 6, in the program: determinants of a set of columns, with a memory.
-/
namespace Go.Proofs.Ytgemkfcapkfdbaa
set_option maxRecDepth 100000
open Go.RowKit Go.Maps

theorem wf_cols {S : Nat} (h : S < 64) : (Lit.int .u64 (S : Int)).wf = true := by
  revert S
  decide +kernel
theorem wf_num {s : Int} (h : NumP s) : (Lit.int .i64 s).wf = true := by
  unfold NumP at h
  exact WalkArith.wf_i64 (by omega)
set_option maxHeartbeats 1000000 in
theorem iMinor (n : Nat) (a : Option Addr) (m : Nat) (xs : List Int) (rows : List Nat) (q : Option Addr) (qc px bm : Nat) (h6 : n ≤ 6) (hx : xs.length = n * n) (nx : nums xs = true) (hrn : ∀ i, i < rows.length → rows.getD i 0 < n) (hrl : rows.length ≤ 6) :
    ∀ k, k ≤ rows.length → MinorAt n a m xs rows q qc px bm k := by
  intro k
  induction k with
  | zero =>
    intro _ S c w hS hc st hcb
    obtain rfl : S = 0 := colsL_none n h6 S hS hc
    have V : Hid (detR (setD n xs rows 0) = (1, true)) := by show _ = _; rw [setD_zero]; exact detR_num (by decide)
    have M := Lib.hid (st.mono (show c ≤ c + 7 ^ 0 by omega))
    rw [V.out]
    clear st
    go_enter Try.func47, Try.ntmps47
    go_wp2_with fail
    exact bodyPost_ret (v := .tuple #[.int .i64 1, .bool true]) (by simp [results, Try.results47, go_sem]) rfl ⟨rfl, M.out, World.grownBy.refl _ _⟩
  | succ k ih =>
    intro hk S c w hS hc st hcb
    have h64 : S < 64 := Nat.lt_of_lt_of_le hS (pow_64 n h6)
    have s0 : S ≠ 0 := by
      rintro rfl
      rw [colsL_zero] at hc
      simp at hc
    have n1 : ((S : Int) == 0) = false := by simp; omega
    have p7 : 7 ^ (k + 1) = 7 * 7 ^ k := by rw [Nat.pow_succ, Nat.mul_comm]
    have p1 : 1 ≤ 7 ^ k := Nat.one_le_pow _ _ (by omega)
    have EX : Hid (∀ w', MnSt n a m xs rows q qc px bm c w' → Calls Try.prog 78 #[.pointer (some ⟨px, 0, none⟩), .int .u64 S] w' (fun e w2 => e = .returned (.tuple #[.int .i64 (exR (accD n xs rows S (k + 1))).1, .bool (exR (accD n xs rows S (k + 1))).2]) ∧ MnSt n a m xs rows q qc px bm (c + 6 * 7 ^ k) w2 ∧ w'.grownBy w2 (some bm))) := fun w' h => iExpand n a m xs rows q qc px bm k h6 hx nx hrn hk hrl (ih (by omega)) S c w' hS hc h (by omega)
    have D0 : Hid (accD n xs rows S (k + 1) = none → setD n xs rows S = badN) := fun h => setD_none hc h
    have D1 : Hid (∀ s, accD n xs rows S (k + 1) = some s → ¬ NumP s → setD n xs rows S = badN) := fun s h h1 => setD_bad hc h h1
    have D2 : Hid (∀ s, accD n xs rows S (k + 1) = some s → NumP s → setD n xs rows S = s) := fun s h h1 => setD_num hc h h1
    have KY : keyOf Try.prog 66 (.int .u64 (S : Int)) = some (.int .u64 (S : Int)) := keyOf_int_mk und_cols (wf_cols h64)
    obtain ⟨b0, b1, b2, b3, b4⟩ := st.blk.all
    have ST := Lib.hid st
    obtain ⟨D, hD, hM⟩ := st.memo
    have MP := Lib.hid hD
    have ME := Lib.hid hM
    obtain ⟨d, hd⟩ : ∃ d, setD n xs rows S = d := ⟨_, rfl⟩
    have DD := Lib.hid hd
    rw [p7] at hcb ⊢
    generalize 7 ^ k = G at EX p1 hcb ⊢
    rw [hd] at D0 D1 D2 ⊢
    clear st hD hM hd p7 ih hx nx hrn hrl hk hc s0
    rcases Bool.eq_false_or_eq_true (Maps.has D (.int .u64 (S : Int))) with hh | hh
    · obtain ⟨hb, ha⟩ := ME.out S hh
      rw [DD.out] at hb ha
      have R : Hid (detR d = (d, true)) := detR_num hb
      have HA := Lib.hid ha
      have M := Lib.hid (ST.out.mono (show c ≤ c + 7 * G by omega))
      clear hb ha
      rw [R.out]
      go_enter Try.func47, Try.ntmps47
      go_wp2_with (first
        | (at_lookup; refine wpList_lookup_own_ok_int _ rfl _ _ 90 rfl 66 3 .i64 keyed_cols und_map und_int (zero_int _) bm c D rfl MP.out _ _ rfl KY ?_; intro v hat hwc)
        | fail)
      obtain rfl : v = d := by
        rw [HA.out] at hat
        injection hat with hat
        injection hat with _ hat
        exact hat.symm
      exact bodyPost_ret (v := .tuple #[.int .i64 v, .bool true]) (by simp [results, Try.results47, go_sem]) rfl ⟨rfl, M.out, World.grownBy.refl _ _⟩
    · cases hac : accD n xs rows S (k + 1) with
      | none =>
        have R : Hid (detR d = (0, false)) := detR_bad (D0.out hac)
        rw [hac, show exR none = (0, false) from rfl] at EX
        clear hac
        rw [R.out]
        go_enter Try.func47, Try.ntmps47
        go_wp2_with (first
          | (at_lookup; refine wpList_lookup_own_ok_int _ rfl _ _ 90 rfl 66 3 .i64 keyed_cols und_map und_int (zero_int _) bm c D rfl MP.out _ _ rfl KY ?_; intro v hat hwc)
          | fail)
        refine (EX.out _ ST.out).mono ?_
        rintro e w2 ⟨rfl, hm2, hg2⟩
        have M2 := Lib.hid (hm2.mono (show c + 6 * G ≤ c + 7 * G by omega))
        have GR := Lib.hid hg2
        clear hm2 hg2
        go_wp2_with fail
        exact bodyPost_ret (v := .tuple #[.int .i64 0, .bool false]) (by simp [results, Try.results47, go_sem]) rfl ⟨rfl, M2.out, GR.out⟩
      | some s =>
        rw [hac, show exR (some s) = (s, true) from rfl] at EX
        by_cases hs : NumP s
        · have e : d = s := D2.out s hac hs
          subst e
          have R : Hid (detR d = (d, true)) := detR_num hs.ne_bad
          have WF := wf_num hs
          have NB := Lib.hid hs.ne_bad
          have n2 : decide (NumP d) = true := decide_eq_true hs
          clear hac hs
          rw [R.out]
          go_enter Try.func47, Try.ntmps47
          go_wp2_with (first
            | (at_lookup; refine wpList_lookup_own_ok_int _ rfl _ _ 90 rfl 66 3 .i64 keyed_cols und_map und_int (zero_int _) bm c D rfl MP.out _ _ rfl KY ?_; intro v hat hwc)
            | fail)
          refine (EX.out _ ST.out).mono ?_
          rintro e w2 ⟨rfl, hm2, hg2⟩
          clear b0 b1 b2 b3 b4
          obtain ⟨b0, b1, b2, b3, b4⟩ := hm2.blk.all
          have M2 := Lib.hid hm2
          obtain ⟨E, hE, hF⟩ := hm2.memo
          have MP2 := Lib.hid hE
          have ME2 := Lib.hid hF
          have GR := Lib.hid hg2
          clear hm2 hg2 hE hF
          go_wp2_with fail
          refine (iIsNum d _).mono ?_
          rintro e w3 ⟨rfl, rfl⟩
          rw [n2]
          go_wp2_with (first
            | (at_mapUpdate; refine wpList_mapUpdate_own _ rfl _ _ _ 90 rfl 66 3 keyed_cols und_map _ bm (c + 6 * G) E rfl MP2.out (by unfold maxLen; omega) _ _ _ rfl rfl KY _ [] (plainElem_int und_int WF) ?_; intro w4 hown4 hg4)
            | fail)
          have hP := ME2.out.put (World.ownsMap.isMap MP2.out) S (by rw [DD.out]; exact NB.out)
          rw [DD.out] at hP
          exact bodyPost_ret (v := .tuple #[.int .i64 d, .bool true]) (by simp [results, Try.results47, go_sem]) rfl ⟨rfl, (M2.out.turn hg4 hown4 hP).mono (by omega), GR.out.trans hg4⟩
        · have R : Hid (detR d = (0, false)) := detR_bad (D1.out s hac hs)
          have n2 : decide (NumP s) = false := decide_eq_false hs
          clear hac hs
          rw [R.out]
          go_enter Try.func47, Try.ntmps47
          go_wp2_with (first
            | (at_lookup; refine wpList_lookup_own_ok_int _ rfl _ _ 90 rfl 66 3 .i64 keyed_cols und_map und_int (zero_int _) bm c D rfl MP.out _ _ rfl KY ?_; intro v hat hwc)
            | fail)
          refine (EX.out _ ST.out).mono ?_
          rintro e w2 ⟨rfl, hm2, hg2⟩
          have M2 := Lib.hid (hm2.mono (show c + 6 * G ≤ c + 7 * G by omega))
          have GR := Lib.hid hg2
          clear hm2 hg2
          go_wp2_with fail
          refine (iIsNum s _).mono ?_
          rintro e w3 ⟨rfl, rfl⟩
          rw [n2]
          go_wp2_with fail
          exact bodyPost_ret (v := .tuple #[.int .i64 0, .bool false]) (by simp [results, Try.results47, go_sem]) rfl ⟨rfl, M2.out, GR.out⟩
end Go.Proofs.Ytgemkfcapkfdbaa
end

section
/-
  Chapter 6, in the program: DeterminantOf.
-/
namespace Go.Proofs.Ytgemkfcapkfdbaa
set_option maxRecDepth 100000
open Go.RowKit Go.Maps

theorem rows_rd {w : World} {B l : Nat} {q : Option Addr} {qc : Nat} {rows : List Nat} (h : w.ownsRow B 3 1 (.slice q l qc) rows.length (rows.map fun (r : Nat) => Value.int .i64 (r : Int))) (hr : rows.length ≤ 6) : l = rows.length ∧ Rd w q (rows.map fun (r : Nat) => (r : Int)) := by
  have h2 : w.ownsRow B 3 1 (.slice q l qc) (rows.map fun (r : Nat) => (r : Int)).length ((rows.map fun (r : Nat) => (r : Int)).map (Value.int .i64)) := by
    rw [List.length_map, List.map_map]
    exact h
  have ho := Own.of_row h2 (by rw [List.length_map]; omega)
  rcases ho with ⟨hv, e⟩ | ⟨g, cap, hv, _, hi, _⟩
  · injection hv with e1 e2 e3
    subst e1
    rw [e]
    refine ⟨?_, Rd.nil _ _⟩
    have := congrArg List.length e
    rw [List.length_map] at this
    rw [e2, this]; rfl
  · injection hv with e1 e2 e3
    subst e1
    rw [List.length_map] at e2
    exact ⟨e2, hi.rd⟩
/-- A new block of determinants as the state that the expansion wants. -/
theorem new_st {n : Nat} {a : Option Addr} {m : Nat} {xs : List Int} {rows : List Nat} {q : Option Addr} {l qc px bm B : Nat} {w : World} (h5 : Blk5 w px 92 (.int .i64 n) (.int .i64 n) (.slice a (n * n) m) (.slice q l qc) (.map (some bm))) (ho : w.ownsRow B 3 1 (.slice q l qc) rows.length (rows.map fun (r : Nat) => Value.int .i64 (r : Int))) (hm : Mp w bm 0 (.map [])) (h : Rd w a xs) (hr : rows.length ≤ 6) :
    MnSt n a m xs rows q qc px bm 0 w := by
  obtain ⟨rfl, hq⟩ := rows_rd ho hr
  exact ⟨h5, h, hq, _, hm, Memo.none _ _ _⟩
theorem rowsBut_pick (n : Nat) (e : Int) (i : Nat) (h : i < (rowsBut n e).length) : (rowsBut n e).getD i 0 < n := rowsBut_lt h
theorem keepD {w0 W w' : World} {b : Nat} {p q v : Value} (h : W.cell? ⟨b, 0, none⟩ = some p ∧ W.cell? ⟨b, 1, none⟩ = some q ∧ W.cell? ⟨b, 2, none⟩ = some v ∧ Below w0.heap.size w0 W) (hb : Below W.heap.size W w') :
    w'.cell? ⟨b, 0, none⟩ = some p ∧ w'.cell? ⟨b, 1, none⟩ = some q ∧ w'.cell? ⟨b, 2, none⟩ = some v ∧ Below w0.heap.size w0 w' :=
  ⟨(hb.cell (World.block_lt_of_cell? W _ h.1)).trans h.1, (hb.cell (World.block_lt_of_cell? W _ h.2.1)).trans h.2.1, (hb.cell (World.block_lt_of_cell? W _ h.2.2.1)).trans h.2.2.1, h.2.2.2.trans (hb.mono h.2.2.2.size)⟩
theorem keepG {w0 W w' : World} {b bm : Nat} {p q v : Value} (h : W.cell? ⟨b, 0, none⟩ = some p ∧ W.cell? ⟨b, 1, none⟩ = some q ∧ W.cell? ⟨b, 2, none⟩ = some v ∧ Below w0.heap.size w0 W) (hb : W.grownBy w' (some bm)) (h1 : b < bm) (h2 : w0.heap.size ≤ bm) :
    w'.cell? ⟨b, 0, none⟩ = some p ∧ w'.cell? ⟨b, 1, none⟩ = some q ∧ w'.cell? ⟨b, 2, none⟩ = some v ∧ Below w0.heap.size w0 w' :=
  ⟨hb.cell h.1 (by simp; omega), hb.cell h.2.1 (by simp; omega), hb.cell h.2.2.1 (by simp; omega), h.2.2.2.trans (below_of_one hb h2 h.2.2.2.size)⟩
theorem pow7 : ∀ n, n ≤ 6 → 0 + 7 ^ n ≤ 1000000 := by decide
set_option maxHeartbeats 1000000 in
theorem iDetOf (r c : Int) (a : Option Addr) (m : Nat) (xs : List Int) (w : World) (h : Rd w a xs) (hn : xs.length ≤ 16777216) :
    Calls Try.prog 18 #[.agg #[.int .i64 r, .int .i64 c, .slice a xs.length m]] w (Gives (.tuple #[.int .i64 (detOf r c xs).1, .bool (detOf r c xs).2]) w) := by
  have H := Lib.hid h
  obtain ⟨l, hx⟩ : ∃ n, xs.length = n := ⟨_, rfl⟩
  have HX := Lib.hid hx
  rw [hx] at hn ⊢
  clear hx h
  have B0 : Hid (∀ o1, Below w.heap.size w (w.alloc o1)) := fun o1 => (Below.refl _ _).alloc (Nat.le_refl _) _
  have SQ : Hid (∀ w', Below w.heap.size w w' → Calls Try.prog 45 #[.agg #[.int .i64 r, .int .i64 c, .slice a l m]] w' (Gives (.bool (isSq r c xs)) w')) := fun w' hb => by
    have := iIsSq r c a m xs w' (H.out.below hb) (by rw [HX.out]; exact hn)
    rw [HX.out] at this
    exact this
  rcases Bool.eq_false_or_eq_true (isSq r c xs) with hs | hs
  · obtain ⟨n, rfl, rfl, h6, hl, nx⟩ := isSq_says hs
    have V : Hid (detOf n n xs = detM n xs) := by show detOf n n xs = _; unfold detOf; rw [if_pos hs]; rfl
    have LN : l = n * n := by rw [← HX.out]; exact hl
    subst LN
    have NW : Hid (∀ w', Calls Try.prog 46 #[.agg #[.int .i64 n, .int .i64 n, .slice a (n * n) m]] w' (MnNewR n (n * n) m a w')) := fun w' => iMinorsOf n (n * n) m a w' h6
    have FC : Hid (∀ w', Calls Try.prog 48 #[.int .i64 n] w' fun e w2 => e = .returned (.int .u64 ((2 ^ n - 1 : Nat) : Int)) ∧ w2 = w') := fun w' => iFirst n h6 w'
    have RL : (rowsBut n (-1)).length = n := by rw [rowsBut_all, List.length_range]
    have MI : Hid (∀ (px bm B : Nat) (V : Value) (w' : World), Blk5 w' px 92 (.int .i64 n) (.int .i64 n) (.slice a (n * n) m) V (.map (some bm)) → w'.ownsRow B 3 1 V (rowsBut n (-1)).length ((rowsBut n (-1)).map fun (r : Nat) => Value.int .i64 (r : Int)) → Mp w' bm 0 (.map []) → Below w.heap.size w w' →
        Calls Try.prog 47 #[.pointer (some ⟨px, 0, none⟩), .int .u64 ((2 ^ n - 1 : Nat) : Int)] w' (fun e w2 => e = .returned (.tuple #[.int .i64 (detM n xs).1, .bool (detM n xs).2]) ∧ w'.grownBy w2 (some bm))) := fun px bm B V w' h5 ho hm hb => by
      obtain ⟨q, l, qc, rfl⟩ := rows_form ho
      have := iMinor n a m xs (rowsBut n (-1)) q qc px bm h6 hl nx (fun i hi => rowsBut_lt hi) (by omega) n (by omega) (2 ^ n - 1) 0 w' (by have := Nat.two_pow_pos n; omega) (by rw [colsL_full n h6, List.length_range]) (new_st h5 ho hm (H.out.below hb) (by omega)) (pow7 n h6)
      rw [rowsBut_all, setD_all h6 hl] at this
      refine this.mono ?_
      rintro e w2 ⟨rfl, -, hg⟩
      exact ⟨rfl, hg⟩
    obtain ⟨dn, hdn⟩ : ∃ d, (detM n xs).1 = d := ⟨_, rfl⟩
    obtain ⟨db, hdb⟩ : ∃ d, (detM n xs).2 = d := ⟨_, rfl⟩
    rw [V.out]
    rw [hdn, hdb] at MI ⊢
    obtain ⟨F, hF⟩ : ∃ F, (2 ^ n - 1 : Nat) = F := ⟨_, rfl⟩
    rw [hF] at MI FC
    clear V hdn hdb hF RL
    rw [hs] at SQ
    clear hs
    go_enter Try.func18, Try.ntmps18
    go_wp2_with fail
    refine (SQ.out _ (B0.out _)).mono ?_
    rintro e w1 ⟨rfl, hb⟩
    have K0 : Hid (Blk3 w1 w.heap.size 34 (.int .i64 n) (.int .i64 n) (.slice a (n * n) m)) := (Blk3.at_ _ _ _ _ rfl).keep hb (by simp)
    have B : Hid (Below w.heap.size w w1) := (B0.out _).trans (hb.mono (by simp))
    clear hb
    obtain ⟨a0, a1, a2, -, -, -⟩ := K0.out.all
    have hS := Lib.hid (And.intro a0 (And.intro a1 (And.intro a2 B.out)))
    have SZ : w.heap.size < w1.heap.size := K0.out.lt
    go_upto_region 3 with fail
    go_region_held3 (fun w' => w'.cell? ⟨w.heap.size, 0, none⟩ = some (.int .i64 n) ∧ w'.cell? ⟨w.heap.size, 1, none⟩ = some (.int .i64 n) ∧ w'.cell? ⟨w.heap.size, 2, none⟩ = some (.slice a (n * n) m) ∧ Below w.heap.size w w') (first | exact keepD hS.out (Below.refl _ _).drew | with_reducible exact keepD ‹_› ‹Below _ _ _› | with_reducible exact keepG ‹_› ‹World.grownBy _ _ _› ‹_› (Nat.le_of_lt ‹_›))
      (first
      | (go_at_call 46; (with_reducible refine (NW.out _).mono ?_); rintro e w2 ⟨px, bm, V, rfl, -, x2, x3, x4, x5, hb1⟩; replace x2 : w.heap.size < bm := Nat.lt_of_lt_of_le SZ x2)
      | (go_at_call 48; (with_reducible refine (FC.out _).mono ?_); rintro e w3 ⟨rfl, rfl⟩; have hb3 := Below.refl w3.heap.size w3)
      | (go_at_call 47; (with_reducible refine (MI.out _ _ _ _ _ ‹_› ‹_› ‹_› (And.right (And.right (And.right ‹_›)))).mono ?_); rintro e w4 ⟨rfl, hg4⟩))
    all_goals
      go_wp2_with fail
      exact bodyPost_ret (v := .tuple #[.int .i64 dn, .bool db]) (by simp [results, Try.results18, go_sem]) rfl ⟨rfl, (And.right (And.right (And.right ‹_ ∧ _ ∧ _ ∧ Below w.heap.size w _›)))⟩
  · have V : Hid (detOf r c xs = (0, false)) := by show detOf r c xs = _; unfold detOf; rw [if_neg (by rw [hs]; decide)]
    rw [hs] at SQ
    clear hs
    rw [V.out]
    go_enter Try.func18, Try.ntmps18
    go_wp2_with fail
    refine (SQ.out _ (B0.out _)).mono ?_
    rintro e w1 ⟨rfl, hb⟩
    have B : Hid (Below w.heap.size w w1) := (B0.out _).trans (hb.mono (by simp))
    clear hb
    go_wp2_with fail
    exact bodyPost_ret (v := .tuple #[.int .i64 0, .bool false]) (by simp [results, Try.results18, go_sem]) rfl ⟨rfl, B.out⟩
end Go.Proofs.Ytgemkfcapkfdbaa
end

section
/-
  Chapter 6, in the program: the pivot's row, rows swapped in place.
-/
namespace Go.Proofs.Ytgemkfcapkfdbaa
set_option maxRecDepth 100000
open Go.RowKit

/-- What pivotRow answers. -/
def pvR6 (n t : Nat) (zs : List Int) : Int := if pivP n t zs = n then -1 else (pivP n t zs : Int)
set_option maxHeartbeats 1000000 in
theorem iPivot (n t N cap g : Nat) (zs : List Int) (w : World) (hN : n * n = N) (hz : zs.length = N) (ht : t < n) (h6 : n ≤ 6) (hi : Ints w g zs) :
    Calls Try.prog 52 #[.agg #[.int .i64 n, .int .i64 n, .slice (some ⟨g, 0, none⟩) N cap], .int .i64 t, .int .i64 t] w (Gives (.int .i64 (pvR6 n t zs)) w) := by
  have hle : n * n ≤ 6 * 6 := Nat.mul_le_mul h6 h6
  rw [hN] at hle
  have HN := Lib.hid hN
  have HZ := Lib.hid hz
  have BW : Hid (Below w.heap.size w (w.alloc (.cells #[.int .i64 n, .int .i64 n, .slice (some ⟨g, 0, none⟩) N cap] 34))) := (Below.refl _ _).alloc (Nat.le_refl _) _
  have K0 : Hid (Blk3 (w.alloc (.cells #[.int .i64 n, .int .i64 n, .slice (some ⟨g, 0, none⟩) N cap] 34)) w.heap.size 34 (.int .i64 n) (.int .i64 n) (.slice (some ⟨g, 0, none⟩) N cap)) := Blk3.at_ _ _ _ _ rfl
  have I := Lib.hid (hi.old (.cells #[.int .i64 n, .int .i64 n, .slice (some ⟨g, 0, none⟩) N cap] 34))
  clear hN hz hi
  go_enter Try.func52, Try.ntmps52
  go_wp2_with fail
  generalize w.alloc (.cells #[.int .i64 n, .int .i64 n, .slice (some ⟨g, 0, none⟩) N cap] 34) = W at BW K0 I
  obtain ⟨p0, p1, p2, -, -, -⟩ := K0.out.all
  go_loopw [6, 7] (fun _ v7 wq => ∃ p : Nat, v7 = .int .i64 p ∧ t ≤ p ∧ p ≤ n ∧ (∀ r, t ≤ r → r < p → zs.getD (r * n + t) 0 = 0) ∧ wq = W) (fun _ v7 _ => n - (intOf v7).toNat)
  case atStart => exact ⟨t, rfl, Nat.le_refl _, by omega, fun r h1 h2 => by omega, rfl⟩
  case round =>
    obtain ⟨p, rfl, hp1, hp2, hp0, rfl⟩ := hrel
    have P0 := Lib.hid hp0
    clear hp0
    by_cases hpn : p < n
    · have cp : (p : Int) * (n : Int) = ((p * n : Nat) : Int) := (Int.natCast_mul _ _).symm
      have jp : p * n + t < N := by rw [← HN.out]; exact idx_lt (by omega) (by omega)
      have dp : 0 ≤ (p : Int) * (n : Int) ∧ (p : Int) * (n : Int) ≤ 600 := by rw [cp]; omega
      have ep0 : 0 ≤ (p : Int) * (n : Int) + (t : Int) := by omega
      have ep1 : (p : Int) * (n : Int) + (t : Int) < (N : Int) := by rw [cp]; omega
      have ep2 : ((p : Int) * (n : Int) + (t : Int)).toNat = p * n + t := by rw [cp]; omega
      obtain ⟨dp0, dp1⟩ := dp
      have vp0 : IntKind.i64.wrap ((p : Int) * (n : Int)) = (p : Int) * (n : Int) := IntWalk.i64_in _ (by omega)
      have vp1 : IntKind.i64.wrap ((p : Int) * (n : Int) + (t : Int)) = (p : Int) * (n : Int) + (t : Int) := IntWalk.i64_in _ (by omega)
      clear cp
      have hc := I.out.cell (i := p * n + t) (by rw [HZ.out]; exact jp)
      obtain ⟨x, hxx⟩ : ∃ x, zs.getD (p * n + t) 0 = x := ⟨_, rfl⟩
      have X := Lib.hid hxx
      rw [hxx] at hc
      clear hxx
      by_cases h0 : x = 0
      · have n1 : (x != 0) = false := by simp [h0]
        have n2 : (x == 0) = true := by simp [h0]
        have P1 : Hid (∀ r, t ≤ r → r < p + 1 → zs.getD (r * n + t) 0 = 0) := fun r h1 h2 => by
          rcases Nat.lt_or_ge r p with h3 | h3
          · exact P0.out r h1 h3
          · obtain rfl : r = p := by omega
            rw [X.out, h0]
        clear h0
        go_wp2_with fail
        go_roundw
        case rel => exact ⟨p + 1, by go_num, by omega, by omega, P1.out, trivial⟩
        case measure => simp [intOf]; omega
      · have n1 : (x != 0) = true := by simpa using h0
        have n2 : (x == 0) = false := by simpa using h0
        have PV : Hid (pvR6 n t zs = p) := by
          have e : pivP n t zs = p := pivP_eq hp1 hp2 P0.out fun _ => by rw [X.out]; exact h0
          show pvR6 n t zs = p
          unfold pvR6
          rw [e, if_neg (by omega)]
        clear h0
        go_wp2_with fail
        go_ret
        exact ⟨by rw [PV.out]; rfl, BW.out⟩
    · have hpe : p = n := by omega
      have PV : Hid (pvR6 n t zs = -1) := by
        show pvR6 n t zs = -1
        unfold pvR6
        rw [if_pos ((pivP_eq hp1 hp2 P0.out fun h => absurd h hpn).trans hpe)]
      clear hpe
      go_wp2_with fail
      go_ret
      exact ⟨by rw [PV.out]; rfl, BW.out⟩
theorem keepC {W : World} {b g : Nat} {p q v : Value} (h : W.cell? ⟨b, 0, none⟩ = some p ∧ W.cell? ⟨b, 1, none⟩ = some q ∧ W.cell? ⟨b, 2, none⟩ = some v) (hne : b ≠ g) (o : Nat) (u : Value) :
    (W.setCell ⟨g, o, none⟩ u).cell? ⟨b, 0, none⟩ = some p ∧ (W.setCell ⟨g, o, none⟩ u).cell? ⟨b, 1, none⟩ = some q ∧ (W.setCell ⟨g, o, none⟩ u).cell? ⟨b, 2, none⟩ = some v := by
  have e : ∀ k, (W.setCell ⟨g, o, none⟩ u).cell? ⟨b, k, none⟩ = W.cell? ⟨b, k, none⟩ := fun k => World.cell?_setCell_other W _ _ _ (fun e => hne (by injection e with e; exact e.symm))
  exact ⟨(e 0).trans h.1, (e 1).trans h.2.1, (e 2).trans h.2.2⟩
set_option maxHeartbeats 2000000 in
theorem iSwap (n p t N cap g : Nat) (xs : List Int) (w : World) (hN : n * n = N) (hx : xs.length = N) (hp : p < n) (ht : t < n) (hpt : p ≠ t) (h6 : n ≤ 6) (hi : Ints w g xs) :
    Calls Try.prog 53 #[.agg #[.int .i64 n, .int .i64 n, .slice (some ⟨g, 0, none⟩) N cap], .int .i64 p, .int .i64 t] w (fun e w' => Void e ∧ Ints w' g (opL 0 p t 0 n xs) ∧ w.grownBy w' (some g)) := by
  have hle : n * n ≤ 6 * 6 := Nat.mul_le_mul h6 h6
  rw [hN] at hle
  have HN := Lib.hid hN
  have HX := Lib.hid hx
  have HPT := Lib.hid hpt
  have lg := hi.lt
  have GW : Hid (w.grownBy (w.alloc (.cells #[.int .i64 n, .int .i64 n, .slice (some ⟨g, 0, none⟩) N cap] 34)) (some g)) := World.grownBy_alloc _ _ _
  have K0 : Hid (Blk3 (w.alloc (.cells #[.int .i64 n, .int .i64 n, .slice (some ⟨g, 0, none⟩) N cap] 34)) w.heap.size 34 (.int .i64 n) (.int .i64 n) (.slice (some ⟨g, 0, none⟩) N cap)) := Blk3.at_ _ _ _ _ rfl
  have I := Lib.hid (hi.old (.cells #[.int .i64 n, .int .i64 n, .slice (some ⟨g, 0, none⟩) N cap] 34))
  clear hN hx hi hpt
  go_enter Try.func53, Try.ntmps53
  go_wp2_with fail
  generalize w.alloc (.cells #[.int .i64 n, .int .i64 n, .slice (some ⟨g, 0, none⟩) N cap] 34) = W at GW K0 I
  go_loopw [6, 7, 8, 11] (fun _ _ _ v11 wr => ∃ q : Nat, v11 = .int .i64 q ∧ q ≤ n ∧ Ints wr g (opTo 0 p t 0 n xs q) ∧ W.grownBy wr (some g)) (fun _ _ _ v11 _ => n - (intOf v11).toNat)
  case atStart => exact ⟨0, rfl, by omega, by rw [opTo_zero]; exact I.out, World.grownBy.refl _ _⟩
  case round =>
    obtain ⟨q, rfl, hq, hi, hgr⟩ := hrel
    have I := Lib.hid hi
    have G := Lib.hid hgr
    clear hi hgr
    have R0 := Lib.hid (K0.out.keepOne G.out (by omega))
    obtain ⟨r0, r1, r2, -, -, -⟩ := R0.out.all
    by_cases hlt : q < n
    · have ja : p * n + q < N := by rw [← HN.out]; exact idx_lt hp hlt
      have jb : t * n + q < N := by rw [← HN.out]; exact idx_lt ht hlt
      have ca : (p : Int) * (n : Int) = ((p * n : Nat) : Int) := (Int.natCast_mul _ _).symm
      have cb : (t : Int) * (n : Int) = ((t * n : Nat) : Int) := (Int.natCast_mul _ _).symm
      obtain ⟨A, hA⟩ : ∃ A, p * n + q = A := ⟨_, rfl⟩
      obtain ⟨C, hC⟩ : ∃ C, t * n + q = C := ⟨_, rfl⟩
      have va0 : IntKind.i64.wrap ((p : Int) * (n : Int)) = (p : Int) * (n : Int) := IntWalk.i64_in _ (by rw [ca]; omega)
      have va1 : IntKind.i64.wrap ((p : Int) * (n : Int) + (q : Int)) = (A : Int) := by
        rw [show (p : Int) * (n : Int) + (q : Int) = (A : Int) by rw [ca, ← hA]; omega]
        exact IntWalk.i64_in _ (by omega)
      have vb0 : IntKind.i64.wrap ((t : Int) * (n : Int)) = (t : Int) * (n : Int) := IntWalk.i64_in _ (by rw [cb]; omega)
      have vb1 : IntKind.i64.wrap ((t : Int) * (n : Int) + (q : Int)) = (C : Int) := by
        rw [show (t : Int) * (n : Int) + (q : Int) = (C : Int) by rw [cb, ← hC]; omega]
        exact IntWalk.i64_in _ (by omega)
      have a0 : (0 : Int) ≤ (A : Int) := by omega
      have a1 : (A : Int) < (N : Int) := by omega
      have b0 : (0 : Int) ≤ (C : Int) := by omega
      have b1 : (C : Int) < (N : Int) := by omega
      have hlen : xs.length = n * n := by rw [HX.out, HN.out]
      have s0 := (op_swap p t 0 n n xs q hlen hp ht hlt).resolve_right HPT.out
      have oa : (opTo 0 p t 0 n xs q).getD A 0 = xs.getD A 0 := by
        rw [opTo_getD _ _ _ _ _ _ _ _ (by rw [HX.out, ← hA]; exact ja), if_neg (by rw [← hA, idx_mod hlt]; omega)]
      have ob : (opTo 0 p t 0 n xs q).getD C 0 = xs.getD C 0 := by
        rw [opTo_getD _ _ _ _ _ _ _ _ (by rw [HX.out, ← hC]; exact jb), if_neg (by rw [← hC, idx_mod hlt]; omega)]
      rw [hA, hC] at s0
      have h1 := I.out.cell (i := A) (by rw [opTo_length, HX.out]; omega)
      have h2 := I.out.cell (i := C) (by rw [opTo_length, HX.out]; omega)
      rw [oa] at h1
      rw [ob] at h2
      obtain ⟨x, hxx⟩ : ∃ x, xs.getD A 0 = x := ⟨_, rfl⟩
      obtain ⟨y, hyy⟩ : ∃ y, xs.getD C 0 = y := ⟨_, rfl⟩
      rw [hxx, hyy] at s0
      rw [hxx] at h1
      rw [hyy] at h2
      have S0 := Lib.hid s0
      have f1 := I.out.free A
      have C36 : C < N := by omega
      clear ca cb hA hC hlen s0 oa ob hxx hyy ja jb
      go_wp2_with fail
      go_quiet (fail)
      have I := Lib.hid (I.out.drewN nq)
      have G := Lib.hid (grown_drewN_one G.out nq)
      have ng : w.heap.size ≠ g := by omega
      replace h1 : (wr.drewN nq).cell? ⟨g, A, none⟩ = some (.int .i64 x) := h1
      replace h2 : (wr.drewN nq).cell? ⟨g, C, none⟩ = some (.int .i64 y) := h2
      replace f1 : (wr.drewN nq).frozen? ⟨g, A, none⟩ = false := f1
      replace r0 : (wr.drewN nq).cell? ⟨w.heap.size, 0, none⟩ = some (.int .i64 n) := r0
      replace r1 : (wr.drewN nq).cell? ⟨w.heap.size, 1, none⟩ = some (.int .i64 n) := r1
      replace r2 : (wr.drewN nq).cell? ⟨w.heap.size, 2, none⟩ = some (.slice (some ⟨g, 0, none⟩) N cap) := r2
      generalize wr.drewN nq = wd at I G h1 h2 f1 r0 r1 r2
      go_upto_region 5 with fail
      have hS := Lib.hid (show wd.drew.cell? ⟨w.heap.size, 0, none⟩ = some (.int .i64 n) ∧ wd.drew.cell? ⟨w.heap.size, 1, none⟩ = some (.int .i64 n) ∧ wd.drew.cell? ⟨w.heap.size, 2, none⟩ = some (.slice (some ⟨g, 0, none⟩) N cap) from ⟨r0, r1, r2⟩)
      have G := Lib.hid (grown_drew_one G.out)
      have ID := I.out.drew
      have IS := ID.set A y
      have f2 := IS.free C
      have h3 := IS.cell (i := C) (by rw [List.length_set, opTo_length, HX.out]; omega)
      have IS2 := Lib.hid (IS.set C x)
      replace h1 : wd.drew.cell? ⟨g, A, none⟩ = some (.int .i64 x) := h1
      replace h2 : wd.drew.cell? ⟨g, C, none⟩ = some (.int .i64 y) := h2
      replace f1 : wd.drew.frozen? ⟨g, A, none⟩ = false := f1
      clear r0 r1 r2 I ID IS

      refine wp_region_held_drew (S := fun w' => w'.cell? ⟨w.heap.size, 0, none⟩ = some (.int .i64 n) ∧ w'.cell? ⟨w.heap.size, 1, none⟩ = some (.int .i64 n) ∧ w'.cell? ⟨w.heap.size, 2, none⟩ = some (.slice (some ⟨g, 0, none⟩) N cap)) (by kernel_rfl) hS.out (fun hH => ?_)
      (try dsimp only at hH)
      generalize wd.drew = we at hS G f2 h3 IS2 h1 h2 f1 hH ⊢
      refine wpAnyH_take (i := 0) (v := ?_) (by simp only [List.getElem?_toArray, List.getElem?_cons_zero]; rfl) (by kernel_rfl) (by kernel_rfl) (by kernel_rfl) (by exact fun _ _ _ h => h) (Or.inl ⟨by rfl, ?_⟩) hH ?_
      rotate_left
      · (intro wS hS; clear hS; go_simp; try rfl)
      try simp only [Act.put, List.setIfInBounds_toArray, List.set_cons_zero, List.set_cons_succ]
      refine wpAnyH_take (i := 1) (v := ?_) (by simp only [List.getElem?_toArray, List.getElem?_cons_succ, List.getElem?_cons_zero]; rfl) (by kernel_rfl) (by kernel_rfl) (by kernel_rfl) (by exact fun _ _ _ h => h) (Or.inl ⟨by rfl, ?_⟩) hH ?_
      rotate_left
      · (intro wS hS; (try dsimp only at hS); obtain ⟨k0, k1, k2⟩ := hS; go_simp; try rfl)
      try simp only [Act.put, List.setIfInBounds_toArray, List.set_cons_zero, List.set_cons_succ]
      refine wpAnyH_take (i := 2) (v := ?_) (by simp only [List.getElem?_toArray, List.getElem?_cons_succ, List.getElem?_cons_zero]; rfl) (by kernel_rfl) (by kernel_rfl) (by kernel_rfl) (by exact fun _ _ _ h => h) (Or.inl ⟨by rfl, ?_⟩) hH ?_
      rotate_left
      · (intro wS hS; clear hS; go_simp; try rfl)
      try simp only [Act.put, List.setIfInBounds_toArray, List.set_cons_zero, List.set_cons_succ]
      refine wpAnyH_take (i := 3) (v := ?_) (by simp only [List.getElem?_toArray, List.getElem?_cons_succ, List.getElem?_cons_zero]; rfl) (by kernel_rfl) (by kernel_rfl) (by kernel_rfl) (by exact fun _ _ _ h => h) (Or.inl ⟨by rfl, ?_⟩) hH ?_
      rotate_left
      · (intro wS hS; clear hS; go_simp; try rfl)
      try simp only [Act.put, List.setIfInBounds_toArray, List.set_cons_zero, List.set_cons_succ]
      refine wpAnyH_take (i := 4) (v := ?_) (by simp only [List.getElem?_toArray, List.getElem?_cons_succ, List.getElem?_cons_zero]; rfl) (by kernel_rfl) (by kernel_rfl) (by kernel_rfl) (by exact fun _ _ _ h => h) (Or.inl ⟨by rfl, ?_⟩) hH ?_
      rotate_left
      · (intro wS hS; (try dsimp only at hS); obtain ⟨k0, k1, k2⟩ := hS; go_simp; try rfl)
      try simp only [Act.put, List.setIfInBounds_toArray, List.set_cons_zero, List.set_cons_succ]
      refine wpAnyH_take (i := 5) (v := ?_) (by simp only [List.getElem?_toArray, List.getElem?_cons_succ, List.getElem?_cons_zero]; rfl) (by kernel_rfl) (by kernel_rfl) (by kernel_rfl) (by exact fun _ _ _ h => h) (Or.inl ⟨by rfl, ?_⟩) hH ?_
      rotate_left
      · (intro wS hS; clear hS; go_simp; try rfl)
      try simp only [Act.put, List.setIfInBounds_toArray, List.set_cons_zero, List.set_cons_succ]
      refine wpAnyH_take (i := 6) (v := ?_) (by simp only [List.getElem?_toArray, List.getElem?_cons_succ, List.getElem?_cons_zero]; rfl) (by kernel_rfl) (by kernel_rfl) (by kernel_rfl) (by exact fun _ _ _ h => h) (Or.inl ⟨by rfl, ?_⟩) hH ?_
      rotate_left
      · (intro wS hS; clear hS; go_simp; try rfl)
      try simp only [Act.put, List.setIfInBounds_toArray, List.set_cons_zero, List.set_cons_succ]
      refine wpAnyH_take (i := 7) (v := ?_) (by simp only [List.getElem?_toArray, List.getElem?_cons_succ, List.getElem?_cons_zero]; rfl) (by kernel_rfl) (by kernel_rfl) (by kernel_rfl) (by exact fun _ _ _ h => h) (Or.inl ⟨by rfl, ?_⟩) hH ?_
      rotate_left
      · (intro wS hS; (try dsimp only at hS); obtain ⟨k0, k1, k2⟩ := hS; go_simp; try rfl)
      try simp only [Act.put, List.setIfInBounds_toArray, List.set_cons_zero, List.set_cons_succ]
      refine wpAnyH_take (i := 8) (v := ?_) (by simp only [List.getElem?_toArray, List.getElem?_cons_succ, List.getElem?_cons_zero]; rfl) (by kernel_rfl) (by kernel_rfl) (by kernel_rfl) (by exact fun _ _ _ h => h) (Or.inl ⟨by rfl, ?_⟩) hH ?_
      rotate_left
      · (intro wS hS; clear hS; go_simp; try rfl)
      try simp only [Act.put, List.setIfInBounds_toArray, List.set_cons_zero, List.set_cons_succ]
      refine wpAnyH_take (i := 9) (v := ?_) (by simp only [List.getElem?_toArray, List.getElem?_cons_succ, List.getElem?_cons_zero]; rfl) (by kernel_rfl) (by kernel_rfl) (by kernel_rfl) (by exact fun _ _ _ h => h) (Or.inl ⟨by rfl, ?_⟩) hH ?_
      rotate_left
      · (intro wS hS; (try dsimp only at hS); obtain ⟨k0, k1, k2⟩ := hS; go_simp; try rfl)
      try simp only [Act.put, List.setIfInBounds_toArray, List.set_cons_zero, List.set_cons_succ]
      refine wpAnyH_take (i := 11) (v := ?_) (by simp only [List.getElem?_toArray, List.getElem?_cons_succ, List.getElem?_cons_zero]; rfl) (by kernel_rfl) (by kernel_rfl) (by kernel_rfl) (by exact fun _ _ _ h => h) (Or.inl ⟨by rfl, ?_⟩) hH ?_
      rotate_left
      · (intro wS hS; clear hS; go_simp; try rfl)
      try simp only [Act.put, List.setIfInBounds_toArray, List.set_cons_zero, List.set_cons_succ]
      refine wpAnyH_take (i := 12) (v := ?_) (by simp only [List.getElem?_toArray, List.getElem?_cons_succ, List.getElem?_cons_zero]; rfl) (by kernel_rfl) (by kernel_rfl) (by kernel_rfl) (by exact fun _ _ _ h => h) (Or.inl ⟨by rfl, ?_⟩) hH ?_
      rotate_left
      · (intro wS hS; (try dsimp only at hS); obtain ⟨k0, k1, k2⟩ := hS; go_simp; try rfl)
      try simp only [Act.put, List.setIfInBounds_toArray, List.set_cons_zero, List.set_cons_succ]
      refine wpAnyH_take (i := 13) (v := ?_) (by simp only [List.getElem?_toArray, List.getElem?_cons_succ, List.getElem?_cons_zero]; rfl) (by kernel_rfl) (by kernel_rfl) (by kernel_rfl) (by exact fun _ _ _ h => h) (Or.inl ⟨by rfl, ?_⟩) hH ?_
      rotate_left
      · (intro wS hS; clear hS; go_simp; try rfl)
      try simp only [Act.put, List.setIfInBounds_toArray, List.set_cons_zero, List.set_cons_succ]
      refine wpAnyH_take (i := 14) (v := ?_) (by simp only [List.getElem?_toArray, List.getElem?_cons_succ, List.getElem?_cons_zero]; rfl) (by kernel_rfl) (by kernel_rfl) (by kernel_rfl) (by exact fun _ _ _ h => h) (Or.inl ⟨by rfl, ?_⟩) hH ?_
      rotate_left
      · (intro wS hS; (try dsimp only at hS); obtain ⟨k0, k1, k2⟩ := hS; go_simp; try rfl)
      try simp only [Act.put, List.setIfInBounds_toArray, List.set_cons_zero, List.set_cons_succ]
      refine wpAnyH_ready (rs := [10, 15]) (by kernel_rfl) (by simp) ?_
      refine AllReadyH.cons (by simp only [List.getElem?_toArray, List.getElem?_cons_succ, List.getElem?_cons_zero]; rfl) (fun KK hKK => ?_) (AllReadyH.cons (by simp only [List.getElem?_toArray, List.getElem?_cons_succ, List.getElem?_cons_zero]; rfl) (fun KK hKK => ?_) AllReadyH.nil)
      · go_simp
        try dsimp only
        refine hKK.out _ _ ?_ (fun hH2 => ?_)
        · exact hH
        clear hKK KK
        have hO := hH
        clear hH
        have hH := hH2
        clear hH2
        try simp only [Act.put, List.setIfInBounds_toArray, List.set_cons_zero, List.set_cons_succ]
        refine wpAnyH_ready (rs := [15]) (by kernel_rfl) (by simp) ?_
        refine AllReadyH.cons (by simp only [List.getElem?_toArray, List.getElem?_cons_succ, List.getElem?_cons_zero]; rfl) (fun KK hKK => ?_) AllReadyH.nil
        go_simp
        try dsimp only
        refine hKK.out _ _ ?_ (fun hH2 => ?_)
        · exact hH
        clear hKK KK
        have hO := hH
        clear hH
        have hH := hH2
        clear hH2
        try simp only [Act.put, List.setIfInBounds_toArray, List.set_cons_zero, List.set_cons_succ]
        refine wpAnyH_take (i := 16) (v := ?_) (by simp only [List.getElem?_toArray, List.getElem?_cons_succ, List.getElem?_cons_zero]; rfl) (by kernel_rfl) (by kernel_rfl) (by kernel_rfl) (by exact fun _ _ _ h => h) (Or.inl ⟨by rfl, ?_⟩) hH ?_
        rotate_left
        · (intro wS hS; (try dsimp only at hS); obtain ⟨k0, k1, k2⟩ := hS; go_simp; try rfl)
        try simp only [Act.put, List.setIfInBounds_toArray, List.set_cons_zero, List.set_cons_succ]
        refine wpAnyH_ready (rs := [17]) (by kernel_rfl) (by simp) ?_
        refine AllReadyH.cons (by simp only [List.getElem?_toArray, List.getElem?_cons_succ, List.getElem?_cons_zero]; rfl) (fun KK hKK => ?_) AllReadyH.nil
        go_simp
        try dsimp only
        refine hKK.out _ _ ?_ (fun hH2 => ?_)
        · exact keepC hH ng _ _
        clear hKK KK
        have hO := hH
        clear hH
        have hH := hH2
        clear hH2
        try simp only [Act.put, List.setIfInBounds_toArray, List.set_cons_zero, List.set_cons_succ]
        refine wpAnyH_take (i := 18) (v := ?_) (by simp only [List.getElem?_toArray, List.getElem?_cons_succ, List.getElem?_cons_zero]; rfl) (by kernel_rfl) (by kernel_rfl) (by kernel_rfl) (by exact fun _ _ _ h => h) (Or.inl ⟨by rfl, ?_⟩) hH ?_
        rotate_left
        · (intro wS hS; (try dsimp only at hS); obtain ⟨k0, k1, k2⟩ := hS; go_simp; try rfl)
        try simp only [Act.put, List.setIfInBounds_toArray, List.set_cons_zero, List.set_cons_succ]
        refine wpAnyH_ready (rs := [19]) (by kernel_rfl) (by simp) ?_
        refine AllReadyH.cons (by simp only [List.getElem?_toArray, List.getElem?_cons_succ, List.getElem?_cons_zero]; rfl) (fun KK hKK => ?_) AllReadyH.nil
        go_simp
        try dsimp only
        refine hKK.out _ _ ?_ (fun hH2 => ?_)
        · exact keepC hH ng _ _
        clear hKK KK
        have hO := hH
        clear hH
        have hH := hH2
        clear hH2
        try simp only [Act.put, List.setIfInBounds_toArray, List.set_cons_zero, List.set_cons_succ]
        refine wpAnyH_done (by kernel_rfl) ?_ _
        go_wp2_with fail
        go_roundw
        case rel => exact ⟨q + 1, by go_num, by omega, by rw [← S0.out]; exact IS2.out, grown_set_one (a := ⟨g, C, none⟩) (grown_set_one (a := ⟨g, A, none⟩) G.out rfl _) rfl _⟩
        case measure => simp [intOf]; omega
      · go_simp
        try dsimp only
        refine hKK.out _ _ ?_ (fun hH2 => ?_)
        · exact hH
        clear hKK KK
        have hO := hH
        clear hH
        have hH := hH2
        clear hH2
        try simp only [Act.put, List.setIfInBounds_toArray, List.set_cons_zero, List.set_cons_succ]
        refine wpAnyH_ready (rs := [10]) (by kernel_rfl) (by simp) ?_
        refine AllReadyH.cons (by simp only [List.getElem?_toArray, List.getElem?_cons_succ, List.getElem?_cons_zero]; rfl) (fun KK hKK => ?_) AllReadyH.nil
        go_simp
        try dsimp only
        refine hKK.out _ _ ?_ (fun hH2 => ?_)
        · exact hH
        clear hKK KK
        have hO := hH
        clear hH
        have hH := hH2
        clear hH2
        try simp only [Act.put, List.setIfInBounds_toArray, List.set_cons_zero, List.set_cons_succ]
        refine wpAnyH_take (i := 16) (v := ?_) (by simp only [List.getElem?_toArray, List.getElem?_cons_succ, List.getElem?_cons_zero]; rfl) (by kernel_rfl) (by kernel_rfl) (by kernel_rfl) (by exact fun _ _ _ h => h) (Or.inl ⟨by rfl, ?_⟩) hH ?_
        rotate_left
        · (intro wS hS; (try dsimp only at hS); obtain ⟨k0, k1, k2⟩ := hS; go_simp; try rfl)
        try simp only [Act.put, List.setIfInBounds_toArray, List.set_cons_zero, List.set_cons_succ]
        refine wpAnyH_ready (rs := [17]) (by kernel_rfl) (by simp) ?_
        refine AllReadyH.cons (by simp only [List.getElem?_toArray, List.getElem?_cons_succ, List.getElem?_cons_zero]; rfl) (fun KK hKK => ?_) AllReadyH.nil
        go_simp
        try dsimp only
        refine hKK.out _ _ ?_ (fun hH2 => ?_)
        · exact keepC hH ng _ _
        clear hKK KK
        have hO := hH
        clear hH
        have hH := hH2
        clear hH2
        try simp only [Act.put, List.setIfInBounds_toArray, List.set_cons_zero, List.set_cons_succ]
        refine wpAnyH_take (i := 18) (v := ?_) (by simp only [List.getElem?_toArray, List.getElem?_cons_succ, List.getElem?_cons_zero]; rfl) (by kernel_rfl) (by kernel_rfl) (by kernel_rfl) (by exact fun _ _ _ h => h) (Or.inl ⟨by rfl, ?_⟩) hH ?_
        rotate_left
        · (intro wS hS; (try dsimp only at hS); obtain ⟨k0, k1, k2⟩ := hS; go_simp; try rfl)
        try simp only [Act.put, List.setIfInBounds_toArray, List.set_cons_zero, List.set_cons_succ]
        refine wpAnyH_ready (rs := [19]) (by kernel_rfl) (by simp) ?_
        refine AllReadyH.cons (by simp only [List.getElem?_toArray, List.getElem?_cons_succ, List.getElem?_cons_zero]; rfl) (fun KK hKK => ?_) AllReadyH.nil
        go_simp
        try dsimp only
        refine hKK.out _ _ ?_ (fun hH2 => ?_)
        · exact keepC hH ng _ _
        clear hKK KK
        have hO := hH
        clear hH
        have hH := hH2
        clear hH2
        try simp only [Act.put, List.setIfInBounds_toArray, List.set_cons_zero, List.set_cons_succ]
        refine wpAnyH_done (by kernel_rfl) ?_ _
        go_wp2_with fail
        go_roundw
        case rel => exact ⟨q + 1, by go_num, by omega, by rw [← S0.out]; exact IS2.out, grown_set_one (a := ⟨g, C, none⟩) (grown_set_one (a := ⟨g, A, none⟩) G.out rfl _) rfl _⟩
        case measure => simp [intOf]; omega
    · have hqn : q = n := by omega
      have EQ : Hid (opTo 0 p t 0 n xs q = opL 0 p t 0 n xs) := by
        show opTo 0 p t 0 n xs q = _
        rw [hqn]
        exact opTo_all _ _ _ _ _ _ (.inr (by omega))
      clear hqn
      go_wp2_with fail
      go_end0
      exact ⟨rfl, by rw [← EQ.out]; exact I.out, GW.out.trans G.out⟩
end Go.Proofs.Ytgemkfcapkfdbaa
end

section
/-
  Chapter 6, in the program: one step without fractions, in place.
-/
namespace Go.Proofs.Ytgemkfcapkfdbaa
set_option maxRecDepth 100000
open Go.RowKit

set_option maxHeartbeats 2000000 in
theorem iStepIn (n t N cap g : Nat) (ys : List Int) (last : Int) (w : World) (hN : n * n = N) (hx : ys.length = N) (ht : t < n) (h6 : n ≤ 6) (hc : N ≤ cap) (nx : nums ys = true) (hl : NumP last) (hl0 : last ≠ 0) (hi : Ints w g ys) :
    Calls Try.prog 54 #[.agg #[.int .i64 n, .int .i64 n, .slice (some ⟨g, 0, none⟩) N cap], .int .i64 t, .int .i64 last] w (fun e w' => ((e = .returned (.bool true) ∧ nums (elL n t last ys) = true ∧ Ints w' g (elL n t last ys)) ∨ (e = .returned (.bool false) ∧ nums (elL n t last ys) ≠ true)) ∧ w.grownBy w' (some g)) := by
  have hle : n * n ≤ 6 * 6 := Nat.mul_le_mul h6 h6
  rw [hN] at hle
  have HN := Lib.hid hN
  have HY := Lib.hid hx
  have NY := Lib.hid nx
  have L0 := Lib.hid hl0
  have LL := Lib.hid hl
  have lg := hi.lt
  have GW : Hid (w.grownBy (w.alloc (.cells #[.int .i64 n, .int .i64 n, .slice (some ⟨g, 0, none⟩) N cap] 34)) (some g)) := World.grownBy_alloc _ _ _
  have K0 : Hid (Blk3 (w.alloc (.cells #[.int .i64 n, .int .i64 n, .slice (some ⟨g, 0, none⟩) N cap] 34)) w.heap.size 34 (.int .i64 n) (.int .i64 n) (.slice (some ⟨g, 0, none⟩) N cap)) := Blk3.at_ _ _ _ _ rfl
  have I := Lib.hid (hi.old (.cells #[.int .i64 n, .int .i64 n, .slice (some ⟨g, 0, none⟩) N cap] 34))
  have RW : Hid (∀ k w', k < n → Calls Try.prog 83 #[.agg #[.int .i64 n, .int .i64 n, .slice (some ⟨g, 0, none⟩) N cap], .int .i64 k] w' (RowAt (some ⟨g, 0, none⟩) (k * n) n w')) := fun k w' hk => iRowIn n n k (k * n) N cap _ w' (.inr ⟨g, 0, rfl⟩) rfl (by rw [← hN, ← Nat.succ_mul]; exact Nat.mul_le_mul_right _ hk) hc (fun h => by cases h) (by omega) (by omega)
  clear hN hx hi nx hl hl0
  obtain ⟨Dt, hDt⟩ : ∃ D, t * n = D := ⟨_, rfl⟩
  have HDt := Lib.hid hDt
  obtain ⟨p0, p1, p2, -, -, -⟩ := K0.out.all
  go_enter Try.func54, Try.ntmps54
  go_wp2_with fail
  generalize w.alloc (.cells #[.int .i64 n, .int .i64 n, .slice (some ⟨g, 0, none⟩) N cap] 34) = W at GW K0 I p0 p1 p2
  refine (RW.out t _ ht).mono ?_
  rintro e w1 ⟨q1, m1, rfl, -, hq1, -, hb1⟩
  obtain rfl := hq1 g 0 rfl (by omega)
  rw [Nat.zero_add, hDt]
  have I := Lib.hid (I.out.keep hb1 I.out.lt)
  have G1 := Lib.hid (grown_of_below hb1 (some g))
  clear hq1 hb1 hDt p0 p1 p2
  obtain ⟨p0, p1, p2, -, -, -⟩ := (K0.out.keepOne G1.out (by omega)).all
  go_wp2_with fail
  clear p0 p1 p2
  go_loopw [6, 8, 9, 10] (fun _ v8 _ _ wu => ∃ i : Nat, v8 = .int .i64 i ∧ t + 1 ≤ i ∧ i ≤ n ∧ nums (elTo n t last ys i (t + 1)) = true ∧ Ints wu g (elTo n t last ys i (t + 1)) ∧ W.grownBy wu (some g)) (fun _ v8 _ _ _ => n - (intOf v8).toNat)
  case atStart => exact ⟨t + 1, by go_num, Nat.le_refl _, by omega, by rw [elTo_start (by rw [HY.out, HN.out])]; exact NY.out, by rw [elTo_start (by rw [HY.out, HN.out])]; exact I.out, G1.out⟩
  case round =>
    obtain ⟨i, rfl, hi1, hi2, hni, hii, hgi⟩ := hrel
    have NI := Lib.hid hni
    have II := Lib.hid hii
    have GI := Lib.hid hgi
    have R3 := Lib.hid (K0.out.keepOne hgi (by omega))
    clear hni hii hgi
    obtain ⟨r0, r1, r2, -, -, -⟩ := R3.out.all
    by_cases hin : i < n
    · obtain ⟨Di, hDi⟩ : ∃ D, i * n = D := ⟨_, rfl⟩
      have HDi := Lib.hid hDi
      go_wp2_with fail
      refine (RW.out i _ hin).mono ?_
      rintro e w2 ⟨q2, m2, rfl, -, hq2, -, hb2⟩
      obtain rfl := hq2 g 0 rfl (by omega)
      rw [Nat.zero_add, hDi]
      have II := Lib.hid (II.out.keep hb2 II.out.lt)
      have GI := Lib.hid (GI.out.trans (grown_of_below hb2 (some g)))
      clear hq2 hb2 hDi r0 r1 r2
      obtain ⟨r0, r1, r2, -, -, -⟩ := (K0.out.keepOne GI.out (by omega)).all
      go_wp2_with fail
      clear r0 r1 r2
      go_loopw [6, 10] (fun _ v10 wv => ∃ j : Nat, v10 = .int .i64 j ∧ t + 1 ≤ j ∧ j ≤ n ∧ nums (elTo n t last ys i j) = true ∧ Ints wv g (elTo n t last ys i j) ∧ W.grownBy wv (some g)) (fun _ v10 _ => n - (intOf v10).toNat)
      case atStart => exact ⟨t + 1, by go_num, Nat.le_refl _, by omega, NI.out, II.out, GI.out⟩
      case round =>
        obtain ⟨j, rfl, hj1, hj2, hnj, hij, hgj⟩ := hrel
        have NJ := Lib.hid hnj
        have IJ := Lib.hid hij
        have GJ := Lib.hid hgj
        have R3 := Lib.hid (K0.out.keepOne hgj (by omega))
        clear hnj hij hgj
        obtain ⟨r0, r1, r2, -, -, -⟩ := R3.out.all
        by_cases hjn : j < n
        · have ti : t < i := by omega
          have tj : t < j := by omega
          have jt : (t : Int) < (n : Int) := by omega
          have jj : (j : Int) < (n : Int) := by omega
          have hla : (elTo n t last ys i j).length = N := by rw [elTo_length, HN.out]
          have ja : i * n + j < N := by rw [← HN.out]; exact idx_lt (by omega) (by omega)
          have jb : t * n + t < N := by rw [← HN.out]; exact idx_lt (by omega) (by omega)
          have jc : i * n + t < N := by rw [← HN.out]; exact idx_lt (by omega) (by omega)
          have jd : t * n + j < N := by rw [← HN.out]; exact idx_lt (by omega) (by omega)
          have ha := IJ.out.cell (i := i * n + j) (by rw [hla]; exact ja)
          have hb := IJ.out.cell (i := t * n + t) (by rw [hla]; exact jb)
          have hc := IJ.out.cell (i := i * n + t) (by rw [hla]; exact jc)
          have hd := IJ.out.cell (i := t * n + j) (by rw [hla]; exact jd)
          rw [elTo_old hin hjn (by omega)] at ha
          rw [elTo_old ht ht (by omega)] at hb
          rw [elTo_old hin ht (by omega)] at hc
          rw [elTo_old ht hjn (by omega)] at hd
          have hfr := IJ.out.free (i * n + j)
          have EA : Hid (elAt n t last ys i j = (ys.getD (i * n + j) 0 * ys.getD (t * n + t) 0 - ys.getD (i * n + t) 0 * ys.getD (t * n + j) 0).tdiv last) := rfl
          have na := nums_at NY.out (j := i * n + j) (by rw [HY.out]; exact ja)
          have nb := nums_at NY.out (j := t * n + t) (by rw [HY.out]; exact jb)
          have nc := nums_at NY.out (j := i * n + t) (by rw [HY.out]; exact jc)
          have nd := nums_at NY.out (j := t * n + j) (by rw [HY.out]; exact jd)
          generalize ys.getD (i * n + j) 0 = xa at ha na EA
          generalize ys.getD (t * n + t) 0 = xb at hb nb EA
          generalize ys.getD (i * n + t) 0 = xc at hc nc EA
          generalize ys.getD (t * n + j) 0 = xd at hd nd EA
          have SETC : Hid (∀ y, elAt n t last ys i j = y → Ints (wr.setCell ⟨g, Di + j, none⟩ (.int .i64 y)) g (elTo n t last ys i (j + 1))) := fun y hy => by
            have e2 := IJ.out.set (i * n + j) y
            rw [← hy, elTo_step hin hjn ti tj, hy, HDi.out] at e2
            exact e2
          have GS : Hid (∀ y, W.grownBy (wr.setCell ⟨g, Di + j, none⟩ (.int .i64 y)) (some g)) := fun y => grown_set_one (a := ⟨g, Di + j, none⟩) GJ.out rfl _
          have ES := Lib.hid (elTo_step (last := last) (xs := ys) hin hjn ti tj)
          rw [HDi.out] at ha hc hfr
          rw [HDt.out] at hb hd
          have m1 := mul_num _ _ na nb
          have m2 := mul_num _ _ nc nd
          have v1 : IntKind.i64.wrap (xa * xb) = xa * xb := IntWalk.i64_in _ (by omega)
          have v2 : IntKind.i64.wrap (xc * xd) = xc * xd := IntWalk.i64_in _ (by omega)
          have v3 : IntKind.i64.wrap (xa * xb - xc * xd) = xa * xb - xc * xd := IntWalk.i64_in _ (by omega)
          have m3 := tdiv_in (x := xa * xb - xc * xd) (y := last) (b := 320000000000000000) (by omega) (by omega)
          have v4 : IntKind.i64.wrap ((xa * xb - xc * xd).tdiv last) = (xa * xb - xc * xd).tdiv last := IntWalk.i64_in _ (by omega)
          obtain ⟨y, hy⟩ : ∃ y, elAt n t last ys i j = y := ⟨_, rfl⟩
          have Y := Lib.hid hy
          rw [hy] at EA
          rw [← EA.out] at v4
          have q0 : (xa * xb - xc * xd).tdiv last = y := EA.out.symm
          have l0 := L0.out
          have l00 : (last == 0) = false := by simpa using l0
          clear na nb nc nd m1 m2 m3 hy ja jb jc jd hla
          go_wp2_with fail
          go_still_tail 24, (by kernel_rfl)
          go_wp2_with fail
          have G2 := Lib.hid (grown_drew_one (GS.out y))
          have I2 := Lib.hid (SETC.out y Y.out).drew
          refine (iIsNum y _).mono ?_
          rintro e w5 ⟨rfl, rfl⟩
          clear ha hb hc hd r0 r1 r2 hfr
          by_cases hy : NumP y
          · have NS : Hid (nums (elTo n t last ys i (j + 1)) = true) := by show nums _ = true; rw [← ES.out, Y.out]; exact nums_set NJ.out hy
            rw [decide_eq_true hy]
            clear hy
            go_wp2_with fail
            go_roundw
            case rel => exact ⟨j + 1, by go_num, by omega, by omega, NS.out, I2.out, G2.out⟩
            case measure => simp [intOf]; omega
          · have RZ : Hid (nums (elL n t last ys) ≠ true) := elL_bad hin hjn ti tj (by rw [Y.out]; exact hy)
            rw [decide_eq_false hy]
            clear hy
            go_wp2_with fail
            go_ret
            exact ⟨.inr ⟨rfl, RZ.out⟩, GW.out.trans G2.out⟩
        · have hjn : j = n := by omega
          rw [hjn] at NJ IJ
          go_wp2_with fail
          go_roundw
          case rel => exact ⟨i + 1, by go_num, by omega, by omega, by rw [← elTo_row]; exact NJ.out, by rw [← elTo_row]; exact IJ.out, GJ.out⟩
          case measure => simp [intOf]; omega
    · have hie : i = n := by omega
      rw [hie] at NI II
      rw [elTo_all] at NI II
      go_wp2_with fail
      go_ret
      exact ⟨.inl ⟨rfl, NI.out, II.out⟩, GW.out.trans GI.out⟩
end Go.Proofs.Ytgemkfcapkfdbaa
end
