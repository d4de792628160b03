/-
  Chapter 4's mathematics: ratios and matrices are read back from their texts, and nothing else is read.
-/
import Derived.Test.YtihgcccdahmmmaaDoorParR
import Derived.Test.YtihgcccdahmmmaaDoorParM
namespace Go.Proofs.YtihgcccdahmmmaaDoor
open Go.RowKit
open Go.Lib (decDigits itoa nDigits)

theorem itoa_byte (n : Int) : ∀ c ∈ itoa n, c.toNat = 45 ∨ (48 ≤ c.toNat ∧ c.toNat ≤ 57) := by
  intro c hc
  rcases Int.lt_or_le n 0 with h | h
  · obtain ⟨m, rfl⟩ : ∃ m : Nat, n = -(m : Int) := ⟨n.natAbs, by omega⟩
    rw [Lib.itoa_neg m (by omega)] at hc
    rcases List.mem_cons.mp hc with rfl | hc
    · exact .inl rfl
    · exact .inr (dec_digit m c hc)
  · obtain ⟨m, rfl⟩ := Int.eq_ofNat_of_zero_le h
    rw [Lib.itoa_nonneg] at hc
    exact .inr (dec_digit m c hc)
theorem numT_itoa (v : Int) (h : -400000000 ≤ v ∧ v ≤ 400000000) : numT (itoa v) = (v, true) := by
  have := numT_yes (l := itoa v) ⟨v, h, rfl⟩
  exact Prod.ext (itoa_inj _ _ this.2.1).symm this.2.2
theorem itoa_ne_nil (v : Int) : itoa v ≠ [] := by
  rcases Int.lt_or_le v 0 with h | h
  · obtain ⟨m, rfl⟩ : ∃ m : Nat, v = -(m : Int) := ⟨v.natAbs, by omega⟩
    rw [Lib.itoa_neg m (by omega)]; exact List.cons_ne_nil _ _
  · obtain ⟨m, rfl⟩ := Int.eq_ofNat_of_zero_le h
    rw [Lib.itoa_nonneg]; exact dec_ne m
theorem numT_nil : numT [] = (0, false) := numT_no fun ⟨v, _, h⟩ => itoa_ne_nil v h.symm
theorem itoa_len10 (n : Int) (h0 : -400000000 ≤ n) (h1 : n ≤ 400000000) : (itoa n).length ≤ 10 := by
  rcases Int.lt_or_le n 0 with h | h
  · obtain ⟨m, rfl⟩ : ∃ m : Nat, n = -(m : Int) := ⟨n.natAbs, by omega⟩
    rw [Lib.itoa_neg m (by omega), List.length_cons, dec_len]
    have := nDigits_le 8 m (by omega)
    omega
  · obtain ⟨m, rfl⟩ := Int.eq_ofNat_of_zero_le h
    rw [Lib.itoa_nonneg, dec_len]
    have := nDigits_le 8 m (by omega)
    omega

theorem fold_plain (ms t : List UInt8) (ht : ∀ c ∈ t, ms.contains c = false) (o : List (List UInt8)) (c : List UInt8) : t.foldl (spStep ms) (o, c) = (o, c ++ t) := by
  induction t generalizing c with
  | nil => simp
  | cons b t ih =>
    rw [List.foldl_cons]
    have e : spStep ms (o, c) b = (o, c ++ [b]) := by unfold spStep; rw [if_neg (by rw [ht b (by simp)]; decide)]
    rw [e, ih (fun x hx => ht x (by simp [hx]))]
    simp
theorem fold_mark (ms : List UInt8) (m : UInt8) (hm : ms.contains m = true) (t : List UInt8) (o : List (List UInt8)) (c : List UInt8) : (m :: t).foldl (spStep ms) (o, c) = t.foldl (spStep ms) (o ++ [c], []) := by
  rw [List.foldl_cons]
  have e : spStep ms (o, c) m = (o ++ [c], []) := by unfold spStep; rw [if_pos hm]
  rw [e]
theorem split_fold (ms s : List UInt8) : split ms s = (s.foldl (spStep ms) ([], [])).1 ++ [(s.foldl (spStep ms) ([], [])).2] := by
  unfold split spl
  rw [List.take_length]
theorem byte_of (c : UInt8) (k : Nat) (h : c.toNat = k) (hk : k < 256) : c = UInt8.ofNat k := by
  apply UInt8.toNat_inj.mp
  rw [UInt8.toNat_ofNat', h]; omega
theorem plain_slash (n : Int) : ∀ c ∈ itoa n, ([47] : List UInt8).contains c = false := by
  intro c hc
  have := itoa_byte n c hc
  rw [List.contains_eq_any_beq]
  simp only [List.any_cons, List.any_nil, Bool.or_false, beq_eq_false_iff_ne]
  rintro rfl
  revert this; decide
theorem plain_mat (n : Int) : ∀ c ∈ itoa n, ([120, 91, 93, 59, 32] : List UInt8).contains c = false := by
  intro c hc
  have := itoa_byte n c hc
  rw [List.contains_eq_any_beq]
  simp only [List.any_cons, List.any_nil, Bool.or_false, Bool.or_eq_false_iff, beq_eq_false_iff_ne]
  refine ⟨?_, ?_, ?_, ?_, ?_⟩ <;> (rintro rfl; revert this; decide)

/-! ### Ratios -/
theorem parR_text {n d : Int} (h : isRat n d = true) : parR (ratText n d) = ((n, d), true) := by
  obtain ⟨d1, d2, n1, n2, hg⟩ : IsRatP n d := of_decide_eq_true h
  have mk : mkRat n d = (n, d) := by
    have := isRat_mk n d (by omega)
    rw [h] at this
    exact of_decide_eq_true this.symm
  have key : ratT (ratText n d) = (n, d) := by
    unfold ratT denT
    by_cases h1 : d = 1
    · have e : ratText n d = itoa n := by unfold ratText; rw [if_pos h, if_pos h1]
      have sp : split [47] (ratText n d) = [itoa n] := by
        rw [e, split_fold, fold_plain [47] _ (plain_slash n)]; rfl
      rw [sp]
      show mkRat (numT (itoa n)).1 (if 1 < 1 then _ else 1) = _
      rw [numT_itoa n ⟨n1, n2⟩, if_neg (by omega), ← h1]
      exact mk
    · have e : ratText n d = itoa n ++ ([47] ++ itoa d) := by unfold ratText; rw [if_pos h, if_neg h1, List.append_assoc]
      have sp : split [47] (ratText n d) = [itoa n, itoa d] := by
        rw [e, split_fold, List.foldl_append, fold_plain [47] _ (plain_slash n), List.cons_append, List.nil_append, fold_mark [47] 47 rfl]
        simp only [List.nil_append]
        rw [fold_plain [47] _ (plain_slash d)]
        rfl
      rw [sp]
      show mkRat (numT (itoa n)).1 (if 1 < 2 then (numT (itoa d)).1 else 1) = _
      rw [numT_itoa n ⟨n1, n2⟩, if_pos (by omega), numT_itoa d ⟨by omega, d2⟩]
      exact mk
  unfold parR
  rw [key, if_pos ⟨h, rfl⟩]
theorem parR_says {s : List UInt8} {r : Int × Int} (h : parR s = (r, true)) : isRat r.1 r.2 = true ∧ ratText r.1 r.2 = s := by
  unfold parR at h
  split at h
  · rename_i hh
    injection h with h1 h2
    rw [← h1]; exact hh
  · injection h with h1 h2
    cases h2
theorem parR_no {s : List UInt8} (h : ∀ n d, isRat n d = true → ratText n d ≠ s) : parR s = ((0, 0), false) := by
  unfold parR
  rw [if_neg (fun hh => h _ _ hh.1 hh.2)]

/-! ### Matrices -/
/-- The marks of a matrix's text. -/
def mks : List UInt8 := [120, 91, 93, 59, 32]
def numPcs (xs : List Int) (i : Nat) : List (List UInt8) := (List.range i).map fun j => itoa (xs.getD j 0)
theorem numPcs_succ (xs : List Int) (i : Nat) : numPcs xs (i + 1) = numPcs xs i ++ [itoa (xs.getD i 0)] := by simp [numPcs, List.range_succ]
theorem numPcs_len (xs : List Int) (i : Nat) : (numPcs xs i).length = i := by simp [numPcs]
theorem fold_head (R C : Nat) : (mhead R C).foldl (spStep mks) ([], []) = ([itoa R, itoa C], []) := by
  unfold mhead
  rw [List.append_assoc, List.append_assoc, List.foldl_append, fold_plain mks _ (plain_mat R), List.cons_append, List.nil_append, fold_mark mks 120 rfl, List.foldl_append]
  simp only [List.nil_append]
  rw [List.foldl_nil, List.foldl_append, fold_plain mks _ (plain_mat C), fold_mark mks 91 rfl]
  rfl
theorem fold_mtx (R C : Nat) (xs : List Int) (i : Nat) : (mtx (mhead R C) C xs (i + 1)).foldl (spStep mks) ([], []) = ([itoa R, itoa C] ++ numPcs xs i, itoa (xs.getD i 0)) := by
  induction i with
  | zero =>
    have e : mtx (mhead R C) C xs (0 + 1) = mhead R C ++ itoa (xs.getD 0 0) := by
      show (if 0 < 0 ∧ 0 % C = 0 then _ else if 0 < 0 then _ else mhead R C) ++ _ = _
      rw [if_neg (by omega), if_neg (by omega)]
    rw [e, List.foldl_append, fold_head, fold_plain mks _ (plain_mat _)]
    rfl
  | succ i ih =>
    have e : mtx (mhead R C) C xs (i + 1 + 1) = (if 0 < i + 1 ∧ (i + 1) % C = 0 then mtx (mhead R C) C xs (i + 1) ++ [59] else if 0 < i + 1 then mtx (mhead R C) C xs (i + 1) ++ [32] else mtx (mhead R C) C xs (i + 1)) ++ itoa (xs.getD (i + 1) 0) := rfl
    have step : ∀ m : UInt8, mks.contains m = true → (mtx (mhead R C) C xs (i + 1) ++ [m]).foldl (spStep mks) ([], []) = ([itoa R, itoa C] ++ numPcs xs (i + 1), []) := by
      intro m hm
      rw [List.foldl_append, ih, fold_mark mks m hm, numPcs_succ, List.append_assoc]
      rfl
    rw [e, List.foldl_append]
    by_cases h : (i + 1) % C = 0
    · rw [if_pos ⟨by omega, h⟩, step 59 rfl, fold_plain mks _ (plain_mat _)]
      rfl
    · rw [if_neg (fun hh => h hh.2), if_pos (by omega), step 32 rfl, fold_plain mks _ (plain_mat _)]
      rfl
theorem pcsM_text (R C : Nat) (xs : List Int) : pcsM (matText R C xs) = [itoa R, itoa C] ++ (if xs.length = 0 then [[]] else numPcs xs xs.length) ++ [[]] := by
  show split mks (mtx (mhead R C) C xs xs.length ++ [93]) = _
  rw [split_fold, List.foldl_append]
  rcases Nat.eq_zero_or_pos xs.length with h | h
  · rw [h, if_pos rfl]
    show ((([93] : List UInt8).foldl (spStep mks) ((mhead R C).foldl (spStep mks) ([], []))).1 ++ _) = _
    rw [show mtx (mhead R C) C xs 0 = mhead R C from rfl, fold_head]
    rfl
  · obtain ⟨n, hn⟩ : ∃ n, xs.length = n + 1 := ⟨xs.length - 1, by omega⟩
    rw [hn, if_neg (by omega), fold_mtx, fold_mark mks 93 rfl, numPcs_succ, List.foldl_nil]
    simp
theorem getD_two {a b : List UInt8} {l : List (List UInt8)} (k : Nat) : (([a, b] ++ l) ++ [[]]).getD (k + 2) [] = (l ++ [[]]).getD k [] := by
  simp [List.getD]
theorem cellsT_text (R C : Nat) (xs : List Int) (hx : nums xs = true) : allT (matText R C xs) = xs := by
  unfold allT
  rw [pcsM_text]
  rcases Nat.eq_zero_or_pos xs.length with h | h
  · rw [if_pos h]
    obtain rfl := List.eq_nil_of_length_eq_zero h
    show (if (numT []).2 = true then _ else []) = []
    rw [numT_nil]; rfl
  · rw [if_neg (by omega)]
    have key : ∀ k, k ≤ xs.length → cellsT ([itoa R, itoa C] ++ numPcs xs xs.length ++ [[]]) k = xs.take k := by
      intro k
      induction k with
      | zero => intro _; rfl
      | succ k ih =>
        intro hk
        have e : ([itoa R, itoa C] ++ numPcs xs xs.length ++ [[]]).getD (k + 2) [] = itoa (xs.getD k 0) := by
          rw [getD_two, List.getD, List.getElem?_append_left (by rw [numPcs_len]; omega)]
          simp [numPcs, show k < xs.length by omega]
        have nk := nums_at hx (show k < xs.length by omega)
        unfold cellsT
        rw [e, numT_itoa _ nk, if_pos rfl, ih (by omega), List.take_add_one, List.getElem?_eq_getElem (by omega)]
        simp [List.getD, show k < xs.length by omega]
    have el : ([itoa (R : Int), itoa C] ++ numPcs xs xs.length ++ [[]]).length - 3 = xs.length := by
      rw [List.length_append, List.length_append, numPcs_len]
      show 2 + xs.length + 1 - 3 = _
      omega
    rw [el, key _ (Nat.le_refl _), List.take_length]
theorem mtx_len10 {t : List UInt8} {C : Nat} {xs : List Int} (h : nums xs = true) (i : Nat) (hi : i ≤ xs.length) : (mtx t C xs i).length ≤ t.length + 11 * i := by
  induction i with
  | zero => exact Nat.le_refl _
  | succ i ih =>
    have nk := nums_at h (show i < xs.length by omega)
    have := itoa_len10 _ nk.1 nk.2
    have := ih (by omega)
    unfold mtx
    split
    · simp only [List.length_append, List.length_cons, List.length_nil]; omega
    · split <;> simp only [List.length_append, List.length_cons, List.length_nil] <;> omega
theorem matText_len {R C : Nat} {xs : List Int} (h : isMat R C xs = true) : (matText R C xs).length ≤ 8000 := by
  obtain ⟨⟨r1, r2⟩, ⟨c1, c2⟩, l1, hx⟩ := isMat_says h
  have hn : xs.length ≤ 576 := by have := (mul_size R C ⟨r1, r2⟩ ⟨c1, c2⟩).2; omega
  have l2 := itoa_len10 R (by omega) (by omega)
  have l3 := itoa_len10 C (by omega) (by omega)
  have l4 := mtx_len10 (t := mhead R C) (C := C) hx xs.length (Nat.le_refl _)
  have l5 : (mhead R C).length ≤ 22 := by unfold mhead; simp only [List.length_append, List.length_cons, List.length_nil]; omega
  show (mtx (mhead R C) C xs xs.length ++ [93]).length ≤ _
  rw [List.length_append]
  simp only [List.length_cons, List.length_nil]
  omega
theorem parM_text {R C : Nat} {xs : List Int} (h : isMat R C xs = true) : parM (matText R C xs) = ⟨true, R, C, xs⟩ := by
  obtain ⟨⟨r1, r2⟩, ⟨c1, c2⟩, l1, hx⟩ := isMat_says h
  have e0 : rowsT (matText R C xs) = R := by
    unfold rowsT
    rw [pcsM_text]
    show (numT (itoa R)).1 = _
    rw [numT_itoa R ⟨by omega, by omega⟩]
  have e1 : colsT (matText R C xs) = C := by
    unfold colsT
    rw [pcsM_text]
    show (numT (itoa C)).1 = _
    rw [numT_itoa C ⟨by omega, by omega⟩]
  have e2 := cellsT_text R C xs hx
  have sy : SaysM (matText R C xs) := by
    refine ⟨?_, matText_len h, ?_⟩
    · rw [pcsM_text]
      split
      · exact Nat.le_refl _
      · rw [List.length_append, List.length_append, numPcs_len]
        show 4 ≤ 2 + xs.length + 1
        omega
    · rw [e0, e1, e2]
      unfold fmtM
      rw [if_pos h]
      rfl
  rw [parM_yes sy, e0, e1, e2]
theorem pcsM_nil : pcsM [] = [[]] := rfl
theorem parM_says {s : List UInt8} (h : SaysM s) : isMat (rowsT s) (colsT s) (allT s) = true ∧ matText (rowsT s).toNat (colsT s).toNat (allT s) = s := by
  obtain ⟨h1, h2, h3⟩ := h
  unfold fmtM at h3
  split at h3
  · rename_i hm
    exact ⟨hm, h3⟩
  · rw [← h3, pcsM_nil] at h1
    exact absurd h1 (by decide)
theorem says_iff (s : List UInt8) : SaysM s ↔ ∃ (R C : Nat) (xs : List Int), isMat R C xs = true ∧ matText R C xs = s := by
  constructor
  · intro h
    obtain ⟨h1, h2⟩ := parM_says h
    obtain ⟨⟨r1, r2⟩, ⟨c1, c2⟩, -, -⟩ := isMat_says h1
    refine ⟨(rowsT s).toNat, (colsT s).toNat, allT s, ?_, h2⟩
    rw [Int.toNat_of_nonneg r1, Int.toNat_of_nonneg c1]
    exact h1
  · rintro ⟨R, C, xs, h1, rfl⟩
    by_cases h : SaysM (matText R C xs)
    · exact h
    · have := parM_text h1
      rw [parM_no h] at this
      cases this
end Go.Proofs.YtihgcccdahmmmaaDoor
