/-
  Chapter 8, in the model: IsPrime and InverseModulo, as the laws want them.
-/
import Derived.Test.YtncplikadacjnaaMdS
import Derived.Test.YtncplikadacjnaaModB
namespace Go.Proofs.Ytncplikadacjnaa
open Go.RowKit

theorem sPrimeG (p : Int) (w : World) : Calls Try.prog 27 #[.int .i64 p] w (Gives (.bool (prmB p)) w) := (sPrime p w).mono fun _ _ h => ⟨h.1, by rw [← h.2]; exact Below.refl _ _⟩
theorem sInvG (a p : Int) (w : World) : Calls Try.prog 35 #[.int .i64 a, .int .i64 p] w (Gives (.tuple #[.int .i64 (ivM p a).1, .bool (ivM p a).2]) w) := (sInvM a p w).mono fun _ _ h => ⟨h.1, by obtain ⟨n, e⟩ := h.2; rw [e]; exact below_drewN (Below.refl _ _) n⟩
end Go.Proofs.Ytncplikadacjnaa
