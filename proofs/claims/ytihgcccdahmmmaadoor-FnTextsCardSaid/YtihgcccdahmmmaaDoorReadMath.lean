/-
  Chapter 4's mathematics, as the program's reader goes: a number at the head of a text, a word at the head of a text.
-/
import Derived.Test.YtihgcccdahmmmaaDoorTextRead
import Derived.Lib.SlTrimSet
namespace Go.Proofs.YtihgcccdahmmmaaDoor
open Go.RowKit
open Go.Lib (decDigits itoa nDigits)

/-- The bytes of numbers. -/
def numB : List UInt8 := [45, 48, 49, 50, 51, 52, 53, 54, 55, 56, 57]
theorem itoa_numB (v : Int) : ∀ c ∈ itoa v, numB.contains c = true := by
  intro c hc
  have h : ∀ k : Fin 256, (k.val = 45 ∨ (48 ≤ k.val ∧ k.val ≤ 57)) → numB.contains (UInt8.ofNat k.val) = true := by decide +kernel
  have e := h ⟨c.toNat, c.toNat_lt⟩ (itoa_byte v c hc)
  rwa [show UInt8.ofNat c.toNat = c by apply UInt8.toNat_inj.mp; rw [UInt8.toNat_ofNat']; exact Nat.mod_eq_of_lt c.toNat_lt] at e
/-- No number goes on here. -/
def Stop (t : List UInt8) : Prop := ∀ b ∈ t.head?, numB.contains b = false
theorem stop_nil : Stop [] := by intro b hb; cases hb
theorem stop_cons (c : UInt8) (t : List UInt8) (h : numB.contains c = false) : Stop (c :: t) := by
  intro b hb
  simp only [List.head?_cons, Option.mem_def, Option.some.injEq] at hb
  rw [← hb]; exact h
/-- What stands behind the head that may be a number. -/
def tailN (l : List UInt8) : List UInt8 := Lib.trimLeftS l numB
/-- That head. -/
def headN (l : List UInt8) : List UInt8 := Lib.trimSuffix l (tailN l)
theorem drop_while_split (p : UInt8 → Bool) (l : List UInt8) : l.takeWhile p ++ l.dropWhile p = l := List.takeWhile_append_dropWhile
theorem take_split (a b l : List UInt8) (h : a ++ b = l) : l.take a.length = a := by subst h; simp
theorem headN_eq (l : List UInt8) : headN l = l.takeWhile (numB.contains ·) := by
  unfold headN tailN Lib.trimSuffix Lib.trimLeftS
  have e := drop_while_split (numB.contains ·) l
  have hs : Lib.hasSuffix l (l.dropWhile (numB.contains ·)) = true := by
    unfold Lib.hasSuffix
    rw [List.isSuffixOf_iff_suffix]
    exact ⟨_, e⟩
  rw [if_pos hs]
  have hl := congrArg List.length e
  rw [List.length_append] at hl
  rw [show l.length - (l.dropWhile (numB.contains ·)).length = (l.takeWhile (numB.contains ·)).length by omega]
  exact take_split _ _ _ e
theorem tailN_eq (l : List UInt8) : tailN l = l.dropWhile (numB.contains ·) := rfl
theorem headN_tailN (l : List UInt8) : headN l ++ tailN l = l := by rw [headN_eq, tailN_eq]; exact drop_while_split _ l
theorem tailN_len (l : List UInt8) : (tailN l).length ≤ l.length := by
  have := congrArg List.length (headN_tailN l)
  rw [List.length_append] at this
  omega
theorem headN_len (l : List UInt8) : (headN l).length ≤ l.length := by
  have := congrArg List.length (headN_tailN l)
  rw [List.length_append] at this
  omega
theorem take_all (p : UInt8 → Bool) (x t : List UInt8) (hx : ∀ c ∈ x, p c = true) (ht : ∀ b ∈ t.head?, p b = false) : (x ++ t).takeWhile p = x ∧ (x ++ t).dropWhile p = t := by
  induction x with
  | nil =>
    cases t with
    | nil => exact ⟨rfl, rfl⟩
    | cons b t =>
      have := ht b rfl
      simp [this]
  | cons c x ih =>
    have h1 := hx c (by simp)
    have h2 := ih (fun d hd => hx d (by simp [hd]))
    simp only [List.cons_append, List.takeWhile_cons, List.dropWhile_cons, h1, if_true]
    exact ⟨by rw [h2.1], h2.2⟩
/-- A number that is written is read. -/
theorem read_num (v : Int) (t : List UInt8) (ht : Stop t) : headN (itoa v ++ t) = itoa v ∧ tailN (itoa v ++ t) = t := by
  rw [headN_eq, tailN_eq]
  exact take_all _ _ _ (itoa_numB v) ht
/-- What is read as a number is one that was written. -/
theorem read_says {l : List UInt8} (h : (numT (headN l)).2 = true) : l = itoa (numT (headN l)).1 ++ tailN l ∧ -400000000 ≤ (numT (headN l)).1 ∧ (numT (headN l)).1 ≤ 400000000 := by
  by_cases hn : IsNumT (headN l)
  · obtain ⟨h1, h2, h3⟩ := numT_yes hn
    refine ⟨?_, h1⟩
    rw [← h2, headN_tailN]
  · rw [numT_no hn] at h
    cases h
theorem read_itoa {v : Int} {t : List UInt8} (hv : -400000000 ≤ v ∧ v ≤ 400000000) (ht : Stop t) : numT (headN (itoa v ++ t)) = (v, true) := by
  rw [(read_num v t ht).1, numT_itoa v hv]
theorem prefix_says {l p : List UInt8} (h : Lib.hasPrefix l p = true) : l = p ++ Lib.trimPrefix l p := by
  unfold Lib.trimPrefix
  rw [if_pos h]
  unfold Lib.hasPrefix at h
  obtain ⟨t, ht⟩ := List.isPrefixOf_iff_prefix.mp h
  rw [← ht, List.drop_left]
theorem prefix_of (p t : List UInt8) : Lib.hasPrefix (p ++ t) p = true ∧ Lib.trimPrefix (p ++ t) p = t := by
  have h : Lib.hasPrefix (p ++ t) p = true := List.isPrefixOf_iff_prefix.mpr ⟨t, rfl⟩
  refine ⟨h, ?_⟩
  unfold Lib.trimPrefix
  rw [if_pos h, List.drop_left]
theorem trimPrefix_len (l p : List UInt8) : (Lib.trimPrefix l p).length ≤ l.length := by
  unfold Lib.trimPrefix
  split
  · rw [List.length_drop]; omega
  · exact Nat.le_refl _

theorem isRat_one {n : Int} (h1 : -400000000 ≤ n) (h2 : n ≤ 400000000) : isRat n 1 = true := decide_eq_true ⟨by omega, by omega, h1, h2, Int.gcd_one⟩

/-- The program's reading of a ratio: the ratio, if the reader comes to the end. -/
noncomputable def goR (s : List UInt8) : Option (Int × Int) :=
  if (numT (headN s)).2 = true then
    if tailN s = [] then some ((numT (headN s)).1, 1)
    else if Lib.hasPrefix (tailN s) [47] = true then
      if (numT (headN (Lib.trimPrefix (tailN s) [47]))).2 = true then
        if (isRat (numT (headN s)).1 (numT (headN (Lib.trimPrefix (tailN s) [47]))).1 = true ∧ (numT (headN (Lib.trimPrefix (tailN s) [47]))).1 ≠ 1) ∧ tailN (Lib.trimPrefix (tailN s) [47]) = [] then
          some ((numT (headN s)).1, (numT (headN (Lib.trimPrefix (tailN s) [47]))).1)
        else none
      else none
    else none
  else none
theorem goR_says {s : List UInt8} {n d : Int} (h : goR s = some (n, d)) : isRat n d = true ∧ ratText n d = s := by
  unfold goR at h
  split at h
  · rename_i h1
    obtain ⟨e1, b1, b2⟩ := read_says h1
    split at h
    · rename_i h2
      injection h with h
      injection h with hn hd
      subst hn hd
      rw [h2, List.append_nil] at e1
      have hr : isRat (numT (headN s)).1 1 = true := isRat_one b1 b2
      refine ⟨hr, ?_⟩
      unfold ratText
      rw [if_pos hr, if_pos rfl]
      exact e1.symm
    · split at h
      · rename_i h3
        have e2 := prefix_says h3
        split at h
        · rename_i h4
          obtain ⟨e3, b3, b4⟩ := read_says h4
          split at h
          · rename_i h5
            obtain ⟨⟨h5, h6⟩, h7⟩ := h5
            injection h with h
            injection h with hn hd
            rw [h7, List.append_nil] at e3
            rw [← hn, ← hd]
            refine ⟨h5, ?_⟩
            unfold ratText
            rw [if_pos h5, if_neg h6]
            conv => rhs; rw [e1, e2, e3]
            rw [List.append_assoc]
          · cases h
        · cases h
      · cases h
  · cases h
theorem goR_text {n d : Int} (h : isRat n d = true) : goR (ratText n d) = some (n, d) := by
  obtain ⟨d1, d2, n1, n2, hg⟩ : IsRatP n d := of_decide_eq_true h
  by_cases h1 : d = 1
  · have e : ratText n d = itoa n ++ [] := by unfold ratText; rw [if_pos h, if_pos h1, List.append_nil]
    have r := read_num n [] stop_nil
    have q := read_itoa (v := n) ⟨n1, n2⟩ stop_nil
    rw [e]
    unfold goR
    rw [q, r.2, if_pos rfl, if_pos rfl, h1]
  · have e : ratText n d = itoa n ++ ([47] ++ (itoa d ++ [])) := by unfold ratText; rw [if_pos h, if_neg h1, List.append_assoc, List.append_nil]
    have st : Stop ([47] ++ (itoa d ++ [])) := stop_cons _ _ (by decide)
    have r := read_num n _ st
    have q := read_itoa (v := n) ⟨n1, n2⟩ st
    have r2 := read_num d [] stop_nil
    have q2 := read_itoa (v := d) ⟨by omega, d2⟩ stop_nil
    have p := prefix_of [47] (itoa d ++ [])
    rw [e]
    unfold goR
    rw [q, r.2, if_pos rfl, if_neg (by simp), if_pos p.1, p.2, q2, if_pos rfl, r2.2, if_pos ⟨⟨h, h1⟩, rfl⟩]
/-- The reader's answer is the model's. -/
theorem goR_parR (s : List UInt8) : parR s = match goR s with | some r => (r, true) | none => ((0, 0), false) := by
  cases hg : goR s with
  | some r =>
    obtain ⟨h1, h2⟩ := goR_says (n := r.1) (d := r.2) hg
    rw [← h2]
    exact parR_text h1
  | none =>
    refine parR_no fun n d h1 h2 => ?_
    rw [← h2, goR_text h1] at hg
    cases hg
end Go.Proofs.YtihgcccdahmmmaaDoor
