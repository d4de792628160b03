/-
  Chapter 5, in the program: DoRowOp.
-/
import Derived.Test.YtiggioccmlbhhaaRI2
import Derived.Test.YtiggioccmlbhhaaCopyI
import Derived.Test.YtiggioccmlbhhaaRowRaw
import Derived.Test.YtiggioccmlbhhaaRow4
import Derived.Test.YtiggioccmlbhhaaDoneI
namespace Go.Proofs.Ytiggioccmlbhhaa
open Go.RowKit

theorem sevB {W w' : World} {b b' : Nat} {t t' : TypeId} {p q r x y z u : Value} (h0 : Blk3 W b t p q r) (h1 : Blk4 W b' t' x y z u) (hb : Below W.heap.size W w') :
    w'.cell? ⟨b, 0, none⟩ = some p ∧ w'.cell? ⟨b, 1, none⟩ = some q ∧ w'.cell? ⟨b, 2, none⟩ = some r ∧ w'.cell? ⟨b', 0, none⟩ = some x ∧ w'.cell? ⟨b', 1, none⟩ = some y ∧ w'.cell? ⟨b', 2, none⟩ = some z ∧ w'.cell? ⟨b', 3, none⟩ = some u := by
  obtain ⟨a1, a2, a3, -, -, -⟩ := (h0.step hb).all
  obtain ⟨c1, c2, c3, c4⟩ := (h1.step hb).all
  exact ⟨a1, a2, a3, c1, c2, c3, c4⟩
theorem colCells {W w' : World} {b ba oa i j n : Nat} {t : TypeId} {p q r : Value} {xs : List Int} (h0 : Blk3 W b t p q r) (h : Rd W (some ⟨ba, oa, none⟩) xs) (hn : xs.length = n) (hi : i < n) (hj : j < n) (hb : Below W.heap.size W w') :
    w'.cell? ⟨b, 0, none⟩ = some p ∧ w'.cell? ⟨b, 1, none⟩ = some q ∧ w'.cell? ⟨b, 2, none⟩ = some r ∧ w'.cell? ⟨ba, oa + i, none⟩ = some (.int .i64 (xs.getD i 0)) ∧ w'.cell? ⟨ba, oa + j, none⟩ = some (.int .i64 (xs.getD j 0)) := by
  obtain ⟨a1, a2, a3, -, -, -⟩ := (h0.step hb).all
  exact ⟨a1, a2, a3, (h.below hb).cells i (by omega), (h.below hb).cells j (by omega)⟩
end Go.Proofs.Ytiggioccmlbhhaa
