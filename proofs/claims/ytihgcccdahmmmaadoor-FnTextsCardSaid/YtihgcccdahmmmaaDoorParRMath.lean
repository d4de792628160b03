/-
  Chapter 4: what a text says as a number (the model's ParseInt as one function); the pieces of a text as cells.
-/
import Derived.Test.YtihgcccdahmmmaaDoorParseS
import Derived.Test.YtihgcccdahmmmaaDoorSplitS
import Derived.Test.YtihgcccdahmmmaaDoorFmtR
namespace Go.Proofs.YtihgcccdahmmmaaDoor
open Go.RowKit
open Go.Lib (decDigits itoa nDigits)

/-- This text is a number's. -/
def IsNumT (l : List UInt8) : Prop := ∃ v : Int, (-400000000 ≤ v ∧ v ≤ 400000000) ∧ l = itoa v
open Classical in
/-- The number, and whether there is one. -/
noncomputable def numT (l : List UInt8) : Int × Bool := if h : IsNumT l then (Classical.choose h, true) else (0, false)
theorem numT_yes {l : List UInt8} (h : IsNumT l) : (-400000000 ≤ (numT l).1 ∧ (numT l).1 ≤ 400000000) ∧ l = itoa (numT l).1 ∧ (numT l).2 = true := by
  have e : numT l = (Classical.choose h, true) := dif_pos h
  have := Classical.choose_spec h
  rw [e]
  exact ⟨this.1, this.2, rfl⟩
theorem numT_no {l : List UInt8} (h : ¬ IsNumT l) : numT l = (0, false) := dif_neg h
theorem numT_in (l : List UInt8) : -400000000 ≤ (numT l).1 ∧ (numT l).1 ≤ 400000000 := by
  by_cases h : IsNumT l
  · exact (numT_yes h).1
  · rw [numT_no h]; exact ⟨by decide, by decide⟩

theorem sParse (l : List UInt8) (w : World) (hl : l.length ≤ 9223372036854775807) :
    Calls Tryd.prog 58 #[.string ⟨l.toArray⟩] w fun e w' => e = .returned (.tuple #[.int .i64 (numT l).1, .bool (numT l).2]) ∧ w = w' := by
  by_cases h : IsNumT l
  · obtain ⟨⟨h1, h2⟩, h3, h4⟩ := numT_yes h
    rw [h4]
    rcases Int.lt_or_le (numT l).1 0 with hn | hn
    · obtain ⟨m, hm⟩ : ∃ m : Nat, (numT l).1 = -(m : Int) := ⟨(numT l).1.natAbs, by omega⟩
      rw [hm] at h3 ⊢
      exact sParse_neg ⟨l.toArray⟩ m (by omega) (by omega) (by rw [← Lib.itoa_neg m (by omega), ← h3]) w
    · obtain ⟨m, hm⟩ := Int.eq_ofNat_of_zero_le hn
      rw [hm] at h3 ⊢
      exact sParse_pos ⟨l.toArray⟩ m (by omega) (by rw [← Lib.itoa_nonneg, ← h3]) w
  · rw [numT_no h]
    exact sParse_no ⟨l.toArray⟩ (fun v h1 h2 e => h ⟨v, ⟨h1, h2⟩, e⟩) hl w

theorem Texts.form {B : Nat} {w : World} {v : Value} {ls : List (List UInt8)} (h : Texts B w v ls) (hne : ls ≠ []) :
    ∃ g cap, v = .slice (some ⟨g, 0, none⟩) ls.length cap ∧ B ≤ g ∧ ls.length ≤ cap ∧ ∀ i : Nat, i < ls.length → w.cell? ⟨g, i, none⟩ = some (.string ⟨(ls.getD i []).toArray⟩) := by
  have h' := h
  unfold Texts at h
  obtain ⟨h1, ⟨h2, h3⟩ | ⟨g, cap, cur, e, hB, hg, hc, -⟩⟩ := h
  · exact absurd (List.eq_nil_of_length_eq_zero h3) hne
  · refine ⟨g, cap, e, hB, hc, fun i hi => ?_⟩
    have c := World.ownsRow.cells (g := g) h' (by rw [e]; rfl) i (strV (ls.getD i [])) (by rw [List.getElem?_map, List.getElem?_eq_getElem hi, List.getD, List.getElem?_eq_getElem hi]; rfl)
    rw [show (⟨g, 0, none⟩ : Addr).add i = ⟨g, i, none⟩ by simp only [Addr.add]; split <;> simp_all] at c
    exact c
theorem split_ne (ms s : List UInt8) : split ms s ≠ [] := by unfold split; simp
theorem split_len (ms s : List UInt8) : (split ms s).length ≤ s.length + 1 := by
  unfold split
  rw [List.length_append]
  have := pcs_len ms s s.length
  simp only [List.length_cons, List.length_nil]; omega
/-- A piece is no longer than the text. -/
theorem spl_small (ms s : List UInt8) (i : Nat) (hi : i ≤ s.length) : (∀ p ∈ (spl ms s i).1, p.length ≤ i) ∧ (spl ms s i).2.length ≤ i := by
  induction i with
  | zero => rw [spl_zero]; exact ⟨by simp, by simp⟩
  | succ i ih =>
    obtain ⟨h1, h2⟩ := ih (by omega)
    rw [spl_succ ms s i (by omega)]
    unfold spStep
    split
    · refine ⟨fun p hp => ?_, by simp⟩
      rcases List.mem_append.mp hp with hp | hp
      · have := h1 p hp; omega
      · obtain rfl := List.mem_singleton.mp hp; omega
    · exact ⟨fun p hp => by have := h1 p hp; omega, by simp only [List.length_append, List.length_cons, List.length_nil]; omega⟩
theorem split_small (ms s : List UInt8) : ∀ p ∈ split ms s, p.length ≤ s.length := by
  obtain ⟨h1, h2⟩ := spl_small ms s s.length (Nat.le_refl _)
  intro p hp
  rcases List.mem_append.mp hp with hp | hp
  · exact h1 p hp
  · obtain rfl := List.mem_singleton.mp hp; exact h2
theorem split_at (ms s : List UInt8) (i : Nat) : ((split ms s).getD i []).length ≤ s.length := by
  rcases Nat.lt_or_ge i (split ms s).length with h | h
  · rw [List.getD, List.getElem?_eq_getElem h]; exact split_small ms s _ (List.getElem_mem h)
  · rw [List.getD, List.getElem?_eq_none h]; exact Nat.zero_le _
end Go.Proofs.YtihgcccdahmmmaaDoor
