/-
  Chapter 4's mathematics: a text cut at marks. No function of the program is named.
-/
import Derived.Test.YtihgcccdahmmmaaDoorInts
import Derived.Laws.Strings2
namespace Go.Proofs.YtihgcccdahmmmaaDoor
open Go.RowKit

/-- One byte more: the pieces that are done, the piece under way. -/
def spStep (ms : List UInt8) (st : List (List UInt8) × List UInt8) (b : UInt8) : List (List UInt8) × List UInt8 :=
  if ms.contains b = true then (st.1 ++ [st.2], []) else (st.1, st.2 ++ [b])
/-- Behind the first i bytes. -/
def spl (ms s : List UInt8) (i : Nat) : List (List UInt8) × List UInt8 := (s.take i).foldl (spStep ms) ([], [])
/-- All pieces of a text. -/
def split (ms s : List UInt8) : List (List UInt8) := (spl ms s s.length).1 ++ [(spl ms s s.length).2]
/-- The pieces at the head of round i. -/
def pcs (ms s : List UInt8) (i : Nat) : List (List UInt8) := if i ≤ s.length then (spl ms s i).1 else split ms s
theorem spl_zero (ms s : List UInt8) : spl ms s 0 = ([], []) := by simp [spl]
theorem spl_succ (ms s : List UInt8) (i : Nat) (h : i < s.length) : spl ms s (i + 1) = spStep ms (spl ms s i) (s[i]'h) := by
  unfold spl
  rw [List.take_add_one, List.getElem?_eq_getElem h, List.foldl_append]
  rfl
theorem pcs_len (ms s : List UInt8) (i : Nat) : (spl ms s i).1.length ≤ i := by
  induction i with
  | zero => simp [spl]
  | succ i ih =>
    rcases Nat.lt_or_ge i s.length with h | h
    · rw [spl_succ ms s i h]
      unfold spStep
      split
      · simp only [List.length_append, List.length_cons, List.length_nil]; omega
      · simp only; omega
    · have e : spl ms s (i + 1) = spl ms s i := by
        unfold spl
        rw [List.take_of_length_le (by omega), List.take_of_length_le (by omega)]
      rw [e]; omega
/-- What is known of the piece under way: it begins at f. -/
def Open (ms s : List UInt8) (i f : Nat) : Prop := i ≤ s.length → f ≤ i ∧ (s.drop f).take (i - f) = (spl ms s i).2
theorem open_zero (ms s : List UInt8) : Open ms s 0 0 := fun _ => ⟨Nat.le_refl _, by rw [spl_zero]; simp⟩
theorem open_skip {ms s : List UInt8} {i f : Nat} (h : Open ms s i f) (hi : i < s.length) (hc : ms.contains (s[i]'hi) = false) : Open ms s (i + 1) f ∧ pcs ms s (i + 1) = pcs ms s i := by
  obtain ⟨h1, h2⟩ := h (by omega)
  have e := spl_succ ms s i hi
  unfold spStep at e
  rw [if_neg (by rw [hc]; decide)] at e
  refine ⟨fun _ => ⟨by omega, ?_⟩, ?_⟩
  · rw [e, ← h2, show i + 1 - f = (i - f) + 1 by omega, List.take_add_one, List.getElem?_drop, show f + (i - f) = i by omega, List.getElem?_eq_getElem hi]
    rfl
  · unfold pcs
    rw [if_pos (by omega), if_pos (by omega), e]
theorem open_cut {ms s : List UInt8} {i f : Nat} (h : Open ms s i f) (hi : i < s.length) (hc : ms.contains (s[i]'hi) = true) : Open ms s (i + 1) (i + 1) ∧ pcs ms s (i + 1) = pcs ms s i ++ [(s.drop f).take (i - f)] := by
  obtain ⟨h1, h2⟩ := h (by omega)
  have e := spl_succ ms s i hi
  unfold spStep at e
  rw [if_pos hc] at e
  refine ⟨fun _ => ⟨by omega, ?_⟩, ?_⟩
  · rw [e]; simp
  · unfold pcs
    rw [if_pos (by omega), if_pos (by omega), e, h2]
theorem open_end {ms s : List UInt8} {i f : Nat} (h : Open ms s i f) (hi : i = s.length) : Open ms s (i + 1) (i + 1) ∧ pcs ms s (i + 1) = pcs ms s i ++ [(s.drop f).take (i - f)] := by
  obtain ⟨h1, h2⟩ := h (by omega)
  refine ⟨fun h => absurd h (by omega), ?_⟩
  unfold pcs
  rw [if_neg (by omega), if_pos (by omega), h2, hi]
  rfl
/-- The marks looked at so far. -/
theorem any_take (ms : List UInt8) (b : UInt8) (k : Nat) (h : k < ms.length) : (ms.take (k + 1)).contains b = ((ms.take k).contains b || ((ms[k]'h).toNat == b.toNat)) := by
  rw [List.take_add_one, List.getElem?_eq_getElem h, List.contains_eq_any_beq, List.contains_eq_any_beq, List.any_append]
  congr 1
  show ((b == ms[k]) || false) = _
  rw [Bool.or_false, Bool.eq_iff_iff]
  simp only [beq_iff_eq]
  exact ⟨fun h => by rw [h], fun h => (UInt8.toNat_inj.mp h).symm⟩
end Go.Proofs.YtihgcccdahmmmaaDoor
