/-
  What a call has built by append, whatever it is of.
-/
import Derived.Test.YtpelnfenfeoeeaaBlk
namespace Go.Proofs.Ytpelnfenfeoeeaa
open Go.RowKit

theorem ownB_ge2 {w : World} {base n k : Nat} {e : TypeId} {size : Nat} {v : Value} {xs : List Value} (h : w.ownsRow base e size v n xs) (hk : v.ownBlock = some k) : base ≤ k := (h.lt k hk).1
theorem rows_far {w : World} {base n : Nat} {e : TypeId} {size : Nat} {v : Value} {xs : List Value} (h : w.ownsRow base e size v n xs) {a : Addr} (ha : a.block < base) (u : Value) : (w.setCell a u).ownsRow base e size v n xs := by
  obtain ⟨h1, ⟨h2, h3⟩ | ⟨g, cap, cur, e, hB, hg, rest⟩⟩ := h
  · exact ⟨h1, .inl ⟨h2, h3⟩⟩
  · exact ⟨h1, .inr ⟨g, cap, cur, e, hB, (Below.heap_setCell w a u g (by omega)).trans hg, rest⟩⟩
theorem rows_keep {w w' : World} {base n : Nat} {e : TypeId} {size : Nat} {v : Value} {xs : List Value} (h : w.ownsRow base e size v n xs) (hb : Below w.heap.size w w') : w'.ownsRow base e size v n xs := by
  obtain ⟨h1, ⟨h2, h3⟩ | ⟨g, cap, cur, e, hB, hg, rest⟩⟩ := h
  · exact ⟨h1, .inl ⟨h2, h3⟩⟩
  · exact ⟨h1, .inr ⟨g, cap, cur, e, hB, (hb.block g (lt_of_block hg)).trans hg, rest⟩⟩
theorem rows_form {w : World} {base n : Nat} {e : TypeId} {size : Nat} {v : Value} {xs : List Value} (h : w.ownsRow base e size v n xs) : ∃ a m c, v = .slice a m c := by
  obtain ⟨h1, ⟨h2, h3⟩ | ⟨g, cap, cur, e, hB, hg, rest⟩⟩ := h
  · exact ⟨_, _, _, h2⟩
  · exact ⟨_, _, _, e⟩
end Go.Proofs.Ytpelnfenfeoeeaa
