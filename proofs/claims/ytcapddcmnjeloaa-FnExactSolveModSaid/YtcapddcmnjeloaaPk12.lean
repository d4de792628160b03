/-
  Texts of this seat, joined: CelA
-/
import Derived.Test.YtcapddcmnjeloaaPk5

section
/-
  What cutting out a row asks of a matrix's cells.
-/
namespace Go.Proofs.Ytcapddcmnjeloaa
open Go.RowKit

/-- What cutting out a row asks of a matrix's cells. -/
structure CelA (a : Option Addr) (L m : Nat) : Prop where
  spot : Spot a
  le : L ≤ m
  nil : a = none → m = 0
theorem Own.celA {B N cap : Nat} {w : World} {q : Option Addr} {zs : List Int} (h : Own B w (.slice q N cap) zs) : CelA q N cap := by
  rcases h with ⟨e, -⟩ | ⟨g, c, e, -, -, h3, -⟩
  · injection e with e1 e2 e3
    subst e1 e2 e3
    exact ⟨.inl rfl, Nat.le_refl _, fun _ => rfl⟩
  · injection e with e1 e2 e3
    subst e1 e2 e3
    exact ⟨Spot.of _ _, h3, fun h => by cases h⟩
end Go.Proofs.Ytcapddcmnjeloaa
end
