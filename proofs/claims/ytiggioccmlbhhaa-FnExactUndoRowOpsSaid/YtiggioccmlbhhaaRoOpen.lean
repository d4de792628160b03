/-
  A slice of operations that came in as an argument, opened.
-/
import Derived.Test.YtiggioccmlbhhaaRo
import Derived.ChangeSlices
import Derived.OpenShut
import Derived.Lib.SmallJoins
namespace Go.Proofs.Ytiggioccmlbhhaa
open Go.RowKit

theorem cells_op : Try.prog.cellsOf 41 = 4 := by kernel_rfl
def numV : Option Value → Int
  | some (.int _ z) => z
  | _ => 0
theorem add_add (x : Addr) (h : x.spot = none) (i j : Nat) : (x.add i).add j = ⟨x.block, x.off + i + j, none⟩ := by
  obtain ⟨b, o, s⟩ := x
  obtain rfl : s = none := h
  simp only [Addr.add]
  by_cases h1 : i = 0 <;> by_cases h2 : j = 0 <;> simp [h1, h2]
theorem one_int {t : TypeId} {H : Type} {enc : TypeId × Value → H} {W : World} {base fuel : Nat} {held : Bool} {cs : List Value} {y : DataW H × List MemPlace} (ht : Try.prog.underlying t = some (.int .i64)) (j : Nat)
    (h : DataW.trod enc Try.prog W base (fun _ => true) held fuel t ((cs.drop j).take 1) = some y) : ∃ z, cs[j]? = some (.int .i64 z) := by
  obtain ⟨z, e, -, -⟩ := DataW.trod_int ht h
  refine ⟨z, ?_⟩
  have := congrArg (fun l : List Value => l[0]?) e
  simpa [List.getElem?_take, List.getElem?_drop] using this
set_option maxRecDepth 100000 in
theorem rdO_of {H : Type} {enc : TypeId × Value → H} {W : World} {base : Nat} {held : Bool} {a : Option Addr} {len cap fuel : Nat} {x : DataW H × List MemPlace}
    (hf : DataW.trod enc Try.prog W base (fun _ => true) held fuel 52 [.slice a len cap] = some x) : ∃ l : List Ro, RdO W a l ∧ l.length = len ∧ len ≤ maxLen := by
  rcases DataW.trod_slice Try.underlying52 hf with ⟨hcs, -⟩ | ⟨x, len', cap', elems, rest, n, -, hcs, -, -, hl, hm, hlen, hel, -, -⟩
  · simp at hcs
    obtain ⟨rfl, rfl, rfl⟩ := hcs
    exact ⟨[], fun q h => absurd h (by simp), rfl, by decide⟩
  · simp at hcs
    obtain ⟨rfl, rfl, rfl⟩ := hcs
    have key : ∀ q : Nat, q < len → ∃ z0 z1 z2 z3 : Int, W.cell? ((x.add (q * 4)).add 0) = some (.int .i64 z0) ∧ W.cell? ((x.add (q * 4)).add 1) = some (.int .i64 z1) ∧ W.cell? ((x.add (q * 4)).add 2) = some (.int .i64 z2) ∧ W.cell? ((x.add (q * 4)).add 3) = some (.int .i64 z3) := by
      intro q hq'
      have he := hel q hq'
      rw [cells_op, List.getElem?_eq_getElem (by omega), Option.bind_eq_some_iff] at he
      obtain ⟨cs, hc, ht⟩ := he
      obtain ⟨-, hcl, hcell⟩ := World.cells?_some hc
      obtain ⟨y0, y1, y2, y3, m, -, -, t0, t1, t2, t3⟩ := Joins.trod_struct4 Try.underlying41 ht
      obtain ⟨z0, e0⟩ := one_int Try.underlying3 0 t0
      obtain ⟨z1, e1⟩ := one_int Try.underlying3 1 t1
      obtain ⟨z2, e2⟩ := one_int Try.underlying3 2 t2
      obtain ⟨z3, e3⟩ := one_int Try.underlying3 3 t3
      exact ⟨z0, z1, z2, z3, (hcell 0 (by omega)).trans e0, (hcell 1 (by omega)).trans e1, (hcell 2 (by omega)).trans e2, (hcell 3 (by omega)).trans e3⟩
    refine ⟨(List.range len).map fun q => ⟨numV (W.cell? ((x.add (q * 4)).add 0)), numV (W.cell? ((x.add (q * 4)).add 1)), numV (W.cell? ((x.add (q * 4)).add 2)), numV (W.cell? ((x.add (q * 4)).add 3))⟩, fun q hq => ?_, by simp, by omega⟩
    have hq' : q < len := by simpa using hq
    have hs : x.spot = none := by
      obtain ⟨z0, -, -, -, h0, -, -, -⟩ := key 0 (by omega)
      simpa [Addr.add] using World.cell?_spot h0
    obtain ⟨z0, z1, z2, z3, h0, h1, h2, h3⟩ := key q hq'
    have ex : x = ⟨x.block, x.off, none⟩ := by obtain ⟨b, o, s⟩ := x; obtain rfl : s = none := hs; rfl
    have hb : x.block < W.heap.size := by
      rw [add_add x hs] at h0
      rcases Nat.lt_or_ge x.block W.heap.size with h | h
      · exact h
      · simp [World.cell?, Array.getElem?_eq_none h] at h0
    have g : ((List.range len).map fun q => (⟨numV (W.cell? ((x.add (q * 4)).add 0)), numV (W.cell? ((x.add (q * 4)).add 1)), numV (W.cell? ((x.add (q * 4)).add 2)), numV (W.cell? ((x.add (q * 4)).add 3))⟩ : Ro)).getD q Ro.zero = ⟨z0, z1, z2, z3⟩ := by
      simp [List.getD, hq', h0, h1, h2, h3, numV]
    rw [g]
    rw [add_add x hs] at h0 h1 h2 h3
    exact ⟨x.block, x.off, by rw [← ex], hb, h0, h1, h2, h3⟩
end Go.Proofs.Ytiggioccmlbhhaa
