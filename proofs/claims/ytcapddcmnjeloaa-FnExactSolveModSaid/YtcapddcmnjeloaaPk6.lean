/-
  Texts of this seat, joined: MemI · MemL
-/
import Derived.Test.YtcapddcmnjeloaaPk1

section
/-
  Memory in a law's walk: slices of ints as results.
-/
namespace Go.Proofs.Ytcapddcmnjeloaa
open Go.RowKit

theorem eqI_g (a b : Option Addr) (c d : Nat) (zs : List Int) (w : World) (h : Rd w a zs) (h' : Rd w b zs) (hn : zs.length ≤ 16777216) :
    Calls Try.prog 22 #[.slice a zs.length c, .slice b zs.length d] w (Gives (.bool true) w) :=
  (eqI_t a b c d zs w h h' hn).mono fun _ _ ⟨h1, k, h2⟩ => ⟨h1, by rw [h2]; exact below_drewN (Below.refl _ _) k⟩
theorem heldI_g (a : Option Addr) (cap n : Nat) (c : Int) (w : World) (h : Rd w a (marks c n)) (hm : n ≤ 16777216) (hc0 : 0 ≤ c) (hc : c ≤ 16777216) :
    Calls Try.prog 26 #[.slice a n cap, .int .i64 c] w (Gives (.int .i64 (c + n)) w) :=
  (heldI a cap n c w h hm hc0 hc).mono fun _ _ ⟨h1, h2⟩ => ⟨h1, by rw [← h2]; exact Below.refl _ _⟩
/-- Marks are written into a slice of the call's own. -/
theorem markInI {B T : Nat} (a : Option Addr) (n cap : Nat) (zs : List Int) (k : Int) (w : World) (h : In B T w (.slice a n cap) zs) (hk0 : 0 ≤ k) (hk : k ≤ 16777216) :
    Calls Try.prog 25 #[.slice a n cap, .int .i64 k] w fun e w' => e = .returned (.int .i64 (k + n)) ∧ In B T w' (.slice a n cap) (marks k n) ∧ Chg B T w w' := by
  rcases h with ⟨hv, rfl⟩ | ⟨g, cap', hv, h1, h2, hi, hl, hc⟩
  · injection hv with v1 v2 v3
    subst v1 v2 v3
    exact (markI_nil 0 k w).mono fun e w' ⟨he, hw⟩ => ⟨by rw [he]; simp, .inl ⟨rfl, rfl⟩, by rw [← hw]; exact Chg.of_below (Below.refl _ _)⟩
  · injection hv with v1 v2 v3
    subst v1 v2 v3
    refine (markI g cap zs.length zs k w hi (Nat.le_refl _) hc hk0 hk).mono fun e w' ⟨he, hi', hg⟩ => ⟨he, .inr ⟨g, cap, by rw [marks_length], h1, h2, ?_, by rw [marks_length]; exact hl, by rw [marks_length]; exact hc⟩, Chg.of_one hg h1 h2⟩
    rw [List.drop_length, List.append_nil] at hi'
    exact hi'
end Go.Proofs.Ytcapddcmnjeloaa
end

section
/-
  A list of ints copied by the law's own helper, its block named.
-/
namespace Go.Proofs.Ytcapddcmnjeloaa
open Go.RowKit

theorem toIg (a : Option Addr) (cap : Nat) (zs : List Int) (w : World) (h : Rd w a zs) (hn : zs.length ≤ 1048576) :
    Calls Try.prog 21 #[.slice a zs.length cap] w (fun e w' => ∃ g : Nat, e = .returned (.slice (some ⟨g, 0, none⟩) zs.length zs.length) ∧ g = w.heap.size ∧ Ints w' g zs ∧ Below w.heap.size w w') :=
  (toI a cap zs w h hn).mono fun _ _ h => ⟨_, h.1, rfl, h.2.1, h.2.2⟩
end Go.Proofs.Ytcapddcmnjeloaa
end
