/-
  A region that draws its order and stores, at its end, into cells that it loads: outside of a fence. No function of the program is named.
-/
import Derived.Test.YtkphlfcbinjknaaRgT
namespace Go.Proofs.Ytkphlfcbinjknaa

theorem one_only {p : Nat → Prop} (a : Nat) (ha : p a) : ∀ j, (j == a) = true → p j := fun j hj => by
  rw [beq_iff_eq] at hj
  subst hj
  exact ha
theorem wp_region_T {P : Program} {id : Nat} {ops : Array Oper} {Q : Exit → Act → World → Prop} {S : World → Prop} {T : Nat → Bool} {a : Act} {w : World} (hm : P.follows .mixedOrders = true) (hS : S w.drew)
    (h : S w.drew → wpAnyT P .any ops Q S T ops.size (Array.replicate ops.size false) a w.drew) : (Code.region id ops true).wp P Q a w := wp_region_any hm (wpAny_of_T _ _ _ _ (h hS))
end Go.Proofs.Ytkphlfcbinjknaa
