/-
  Texts of this seat, joined: MemI · MemL · GvN
-/
import Derived.Test.YtgemkfcapkfdbaaPk1
import Derived.Test.YtgemkfcapkfdbaaPk5
import Derived.Test.YtgemkfcapkfdbaaPk6

section
/-
  Memory in a law's walk: slices of ints as results.
-/
namespace Go.Proofs.Ytgemkfcapkfdbaa
open Go.RowKit

theorem eqI_g (a b : Option Addr) (c d : Nat) (zs : List Int) (w : World) (h : Rd w a zs) (h' : Rd w b zs) (hn : zs.length ≤ 16777216) :
    Calls Try.prog 26 #[.slice a zs.length c, .slice b zs.length d] w (Gives (.bool true) w) :=
  (eqI_t a b c d zs w h h' hn).mono fun _ _ ⟨h1, k, h2⟩ => ⟨h1, by rw [h2]; exact below_drewN (Below.refl _ _) k⟩
end Go.Proofs.Ytgemkfcapkfdbaa
end

section
/-
  A list of ints copied by the law's own helper, its block named.
-/
namespace Go.Proofs.Ytgemkfcapkfdbaa
open Go.RowKit

theorem toIg (a : Option Addr) (cap : Nat) (zs : List Int) (w : World) (h : Rd w a zs) (hn : zs.length ≤ 1048576) :
    Calls Try.prog 25 #[.slice a zs.length cap] w (fun e w' => ∃ g : Nat, e = .returned (.slice (some ⟨g, 0, none⟩) zs.length zs.length) ∧ g = w.heap.size ∧ Ints w' g zs ∧ Below w.heap.size w w') :=
  (toI a cap zs w h hn).mono fun _ _ h => ⟨_, h.1, rfl, h.2.1, h.2.2⟩
end Go.Proofs.Ytgemkfcapkfdbaa
end

section
/-
  Chapter 9: the contracts as the laws use them.
-/
namespace Go.Proofs.Ytgemkfcapkfdbaa
open Go.RowKit

theorem sModuG (a : Option Addr) (m : Nat) (xs : List Int) (w : World) (h : Rd w a xs) (hn : xs.length ≤ 16777216) : Calls Try.prog 24 #[.slice a xs.length m] w (Gives (.bool (modB xs)) w) :=
  (sModu a m xs w h hn).mono fun _ _ ⟨h1, n, h2⟩ => ⟨h1, by rw [h2]; exact below_drewN (Below.refl _ _) n⟩
theorem iModuG (a : Option Addr) (m : Nat) (xs : List Int) (w : World) (h : Rd w a xs) (hn : xs.length ≤ 16777216) (hm : xs.length ≤ m) : Calls Try.prog 15 #[.slice a xs.length m] w (Gives (.bool (modB xs)) w) :=
  (iModu a m xs w h hn hm).mono fun _ _ ⟨h1, n, h2⟩ => ⟨h1, by rw [h2]; exact below_drewN (Below.refl _ _) n⟩
theorem sChinG (a a' : Option Addr) (m m' : Nat) (rs ms : List Int) (w : World) (h : Rd w a rs) (h' : Rd w a' ms) (hn : rs.length ≤ 16777216) (hn' : ms.length ≤ 16777216) : Calls Try.prog 13 #[.slice a rs.length m, .slice a' ms.length m'] w (Gives (.tuple #[.int .i64 (chiX rs ms).1, .int .i64 (chiX rs ms).2.1, .bool (chiX rs ms).2.2]) w) :=
  (sChin a a' m m' rs ms w h h' hn hn').mono fun _ _ ⟨h1, n, h2⟩ => ⟨h1, by rw [h2]; exact below_drewN (Below.refl _ _) n⟩
theorem sSymmG (x m : Int) (w : World) : Calls Try.prog 27 #[.int .i64 x, .int .i64 m] w (Gives (.tuple #[.int .i64 (symX x m).1, .bool (symX x m).2]) w) :=
  (sSymm x m w).mono fun _ _ ⟨h1, h2⟩ => ⟨h1, by rw [← h2]; exact Below.refl _ _⟩
theorem iSymmG (x m : Int) (w : World) : Calls Try.prog 14 #[.int .i64 x, .int .i64 m] w (Gives (.tuple #[.int .i64 (symX x m).1, .bool (symX x m).2]) w) :=
  (iSymm x m w).mono fun _ _ ⟨h1, n, h2⟩ => ⟨h1, by rw [h2]; exact below_drewN (Below.refl _ _) n⟩
end Go.Proofs.Ytgemkfcapkfdbaa
end
