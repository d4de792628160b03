/-
  Chapter 6, in the model: l6Det.
-/
import Derived.Test.YtncplikadacjnaaWo
import Derived.Test.YtncplikadacjnaaDetL
import Derived.Test.YtncplikadacjnaaRowS
import Derived.Test.YtncplikadacjnaaRdCells
namespace Go.Proofs.Ytncplikadacjnaa
set_option maxRecDepth 100000
open Go.RowKit

theorem Own.rdq {B n c : Nat} {w : World} {a : Option Addr} {zs : List Int} (h : Own B w (.slice a n c) zs) : Rd w a zs := by
  rcases h with ⟨hv, rfl⟩ | ⟨g, cap, hv, _, hi, _⟩
  · exact Rd.nil _ _
  · simp only [Value.slice.injEq] at hv
    obtain ⟨rfl, -, -⟩ := hv
    exact hi.rd
end Go.Proofs.Ytncplikadacjnaa
