/-
  Chapter 4's mathematics, as the program's reader goes: a matrix.
-/
import Derived.Test.YtihgcccdahmmmaaDoorRead1
import Derived.Test.YtihgcccdahmmmaaDoorFmtMI
namespace Go.Proofs.YtihgcccdahmmmaaDoor
open Go.RowKit
open Go.Lib (decDigits itoa nDigits)

/-- One cell: what stands ahead of it, and its number. -/
noncomputable def cellStep (r c : Nat) (l : List UInt8) : Option (Int × List UInt8) :=
  if Lib.hasPrefix l (gapT r c) = true then
    if (numT (headN (Lib.trimPrefix l (gapT r c)))).2 = true then some ((numT (headN (Lib.trimPrefix l (gapT r c)))).1, tailN (Lib.trimPrefix l (gapT r c))) else none
  else none
/-- The first k cells, and what is left. -/
noncomputable def cellsAt (C : Nat) (s : List UInt8) : Nat → Option (List Int × List UInt8)
  | 0 => some ([], s)
  | k + 1 => match cellsAt C s k with
    | none => none
    | some (zs, l) => match cellStep (k / C) (k % C) l with
      | none => none
      | some (z, t) => some (zs ++ [z], t)
/-- What the reader's matrix is, and what is left of the text. -/
noncomputable def goM1 (s : List UInt8) : Option ((Int × Int × List Int) × List UInt8) :=
  if sizeOk s = true then
    if Lib.hasPrefix (tailN s) [120] = true then
      if sizeOk (Lib.trimPrefix (tailN s) [120]) = true then
        if Lib.hasPrefix (tailN (Lib.trimPrefix (tailN s) [120])) [91] = true then
          match cellsAt (numT (headN (Lib.trimPrefix (tailN s) [120]))).1.toNat (Lib.trimPrefix (tailN (Lib.trimPrefix (tailN s) [120])) [91]) ((numT (headN s)).1.toNat * (numT (headN (Lib.trimPrefix (tailN s) [120]))).1.toNat) with
          | none => none
          | some (zs, l) => if Lib.hasPrefix l [93] = true then some (((numT (headN s)).1, (numT (headN (Lib.trimPrefix (tailN s) [120]))).1, zs), Lib.trimPrefix l [93]) else none
        else none
      else none
    else none
  else none

theorem cellStep_says {r c : Nat} {l : List UInt8} {z : Int} {t : List UInt8} (h : cellStep r c l = some (z, t)) : l = gapT r c ++ itoa z ++ t ∧ -400000000 ≤ z ∧ z ≤ 400000000 := by
  unfold cellStep at h
  split at h
  · rename_i h1
    split at h
    · rename_i h2
      injection h with h
      injection h with hz ht
      obtain ⟨e, b⟩ := read_says h2
      have p := prefix_says h1
      rw [hz, ht] at e
      rw [hz] at b
      exact ⟨by conv => lhs; rw [p, e]
                rw [List.append_assoc], b⟩
    · cases h
  · cases h
theorem cellStep_text {r c : Nat} {z : Int} {t : List UInt8} (hz : -400000000 ≤ z ∧ z ≤ 400000000) (ht : Stop t) : cellStep r c (gapT r c ++ (itoa z ++ t)) = some (z, t) := by
  have p := prefix_of (gapT r c) (itoa z ++ t)
  have q := read_itoa (v := z) hz ht
  have r' := read_num z t ht
  unfold cellStep
  rw [if_pos p.1, p.2, q, if_pos rfl, r'.2]
theorem nums_more {zs : List Int} {z : Int} (h : nums zs = true) (hz : -400000000 ≤ z ∧ z ≤ 400000000) : nums (zs ++ [z]) = true := by
  unfold nums at h ⊢
  rw [List.all_append, h]
  simp [NumP, hz]
theorem cellsAt_len {C : Nat} {s : List UInt8} {k : Nat} {zs : List Int} {l : List UInt8} (h : cellsAt C s k = some (zs, l)) : zs.length = k ∧ nums zs = true ∧ l.length ≤ s.length := by
  induction k generalizing zs l with
  | zero =>
    injection h with h
    injection h with h1 h2
    rw [← h1, ← h2]
    exact ⟨rfl, rfl, Nat.le_refl _⟩
  | succ k ih =>
    unfold cellsAt at h
    split at h
    · cases h
    · rename_i zs' l' e1
      split at h
      · cases h
      · rename_i z t e2
        injection h with h
        injection h with h1 h2
        obtain ⟨i1, i2, i3⟩ := ih e1
        obtain ⟨j1, j2⟩ := cellStep_says e2
        rw [← h1, ← h2]
        refine ⟨by rw [List.length_append, i1]; rfl, nums_more i2 j2, ?_⟩
        have := congrArg List.length j1
        simp only [List.length_append] at this
        omega
theorem mtx_less (t : List UInt8) (C : Nat) (xs ys : List Int) (i : Nat) (hi : i ≤ xs.length) : mtx t C (xs ++ ys) i = mtx t C xs i := by
  induction i with
  | zero => rfl
  | succ i ih =>
    unfold mtx
    rw [ih (by omega)]
    have e : (xs ++ ys).getD i 0 = xs.getD i 0 := by
      unfold List.getD
      rw [List.getElem?_append_left (by omega)]
    rw [e]
theorem cellsAt_says {C : Nat} (hC : 0 < C) {s : List UInt8} {k : Nat} {zs : List Int} {l : List UInt8} (h : cellsAt C s k = some (zs, l)) : s = mtx [] C zs k ++ l := by
  induction k generalizing zs l with
  | zero =>
    injection h with h
    injection h with h1 h2
  | succ k ih =>
    unfold cellsAt at h
    split at h
    · cases h
    · rename_i zs' l' e1
      split at h
      · cases h
      · rename_i z t e2
        injection h with h
        injection h with h1 h2
        obtain ⟨i1, -, -⟩ := cellsAt_len e1
        obtain ⟨j1, -⟩ := cellStep_says e2
        have e := ih e1
        rw [← h1, ← h2, mtx_gap C _ k hC, mtx_less _ _ _ _ _ (by omega)]
        have eg : (zs' ++ [z]).getD k 0 = z := by
          unfold List.getD
          rw [List.getElem?_append_right (by omega), i1, Nat.sub_self]; rfl
        rw [eg]
        conv => lhs; rw [e, j1]
        try simp only [List.append_assoc]
/-- The last m cells, from cell k on, and the end. -/
def sfx (C : Nat) (xs : List Int) : Nat → Nat → List UInt8
  | _, 0 => [93]
  | k, m + 1 => gapT (k / C) (k % C) ++ (itoa (xs.getD k 0) ++ sfx C xs (k + 1) m)
theorem sfx_stop (C : Nat) (xs : List Int) (k m : Nat) (hC : 0 < C) (hk : 0 < k) : Stop (sfx C xs k m) := by
  cases m with
  | zero => exact stop_cons _ _ (by decide)
  | succ m =>
    show Stop (gapT (k / C) (k % C) ++ _)
    rcases Nat.eq_zero_or_pos (k % C) with h | h
    · have h3 : 0 < k / C := Nat.div_pos (Nat.le_of_dvd hk (Nat.dvd_of_mod_eq_zero h)) hC
      have e : gapT (k / C) (k % C) = [59] := by unfold gapT; rw [if_neg (by omega), if_pos h3]
      rw [e]
      exact stop_cons _ _ (by decide)
    · have e : gapT (k / C) (k % C) = [32] := by unfold gapT; rw [if_pos h]
      rw [e]
      exact stop_cons _ _ (by decide)
theorem sfx_all (C : Nat) (hC : 0 < C) (xs : List Int) (n k : Nat) (hk : k ≤ n) : mtx [] C xs k ++ sfx C xs k (n - k) = mtx [] C xs n ++ [93] := by
  obtain ⟨m, rfl⟩ : ∃ m, n = k + m := ⟨n - k, by omega⟩
  clear hk
  rw [Nat.add_sub_cancel_left]
  induction m generalizing k with
  | zero => rfl
  | succ m ih =>
    have := ih (k + 1)
    rw [show k + 1 + m = k + (m + 1) by omega, mtx_gap C xs k hC] at this
    rw [← this]
    show mtx [] C xs k ++ (gapT (k / C) (k % C) ++ (itoa (xs.getD k 0) ++ sfx C xs (k + 1) m)) = _
    simp only [List.append_assoc]
theorem cellsAt_text (C : Nat) (hC : 0 < C) (xs : List Int) (hx : nums xs = true) (k : Nat) (hk : k ≤ xs.length) : cellsAt C (mtx [] C xs xs.length ++ [93]) k = some (xs.take k, sfx C xs k (xs.length - k)) := by
  induction k with
  | zero =>
    have e := sfx_all C hC xs xs.length 0 (Nat.zero_le _)
    show some (_, _) = _
    rw [← e]; rfl
  | succ k ih =>
    have e := ih (by omega)
    unfold cellsAt
    rw [e]
    simp only
    obtain ⟨m, hm⟩ : ∃ m, xs.length - k = m + 1 := ⟨xs.length - k - 1, by omega⟩
    have nk := nums_at hx (show k < xs.length by omega)
    rw [hm]
    show (match cellStep (k / C) (k % C) (gapT (k / C) (k % C) ++ (itoa (xs.getD k 0) ++ sfx C xs (k + 1) m)) with | none => none | some (z, t) => some (xs.take k ++ [z], t)) = _
    rw [cellStep_text nk (sfx_stop C xs (k + 1) m hC (by omega))]
    simp only
    rw [show xs.length - (k + 1) = m by omega, List.take_add_one, List.getElem?_eq_getElem (by omega)]
    simp [List.getD, show k < xs.length by omega]
theorem goM1_says {s : List UInt8} {r c : Int} {zs : List Int} (h : goM1 s = some ((r, c, zs), [])) : isMat r c zs = true ∧ matText r.toNat c.toNat zs = s := by
  unfold goM1 at h
  split at h
  · rename_i h1
    split at h
    · rename_i h2
      split at h
      · rename_i h3
        split at h
        · rename_i h4
          split at h
          · cases h
          · rename_i zs' l e5
            split at h
            · rename_i h6
              injection h with h
              injection h with h h7
              injection h with hr h
              injection h with hc hz
              unfold sizeOk at h1 h3
              rw [Bool.and_eq_true] at h1 h3
              obtain ⟨a1, b1⟩ := read_says h1.1
              obtain ⟨a3, b3⟩ := read_says h3.1
              have s1 : SizeP r := by rw [← hr]; exact of_decide_eq_true h1.2
              have s3 : SizeP c := by rw [← hc]; exact of_decide_eq_true h3.2
              have a2 := prefix_says h2
              have a4 := prefix_says h4
              have a6 := prefix_says h6
              obtain ⟨q1, q2, q3⟩ := cellsAt_len e5
              rw [h7, List.append_nil] at a6
              rw [hz] at q1 q2 e5
              rw [hr] at a1 q1 e5
              rw [hc] at a3 q1 e5
              unfold SizeP at s1 s3
              obtain ⟨R, rfl⟩ := Int.eq_ofNat_of_zero_le s1.1
              obtain ⟨C, rfl⟩ := Int.eq_ofNat_of_zero_le s3.1
              have im : isMat R C zs = true := by
                unfold isMat
                rw [q2, decide_eq_true (show SizeP (R : Int) from s1), decide_eq_true (show SizeP (C : Int) from s3)]
                simp only [Int.toNat_natCast] at q1
                have : (zs.length : Int) = R * C := by rw [q1]; exact Int.natCast_mul _ _
                simp [this]
              refine ⟨im, ?_⟩
              have body : Lib.trimPrefix (tailN (Lib.trimPrefix (tailN s) [120])) [91] = mtx [] C zs zs.length ++ l := by
                simp only [Int.toNat_natCast] at q1 e5
                rcases Nat.eq_zero_or_pos C with h0 | h0
                · subst h0
                  obtain rfl : zs = [] := List.eq_nil_of_length_eq_zero (by rw [q1]; rfl)
                  rw [Nat.mul_zero] at e5
                  injection e5 with e5
                  injection e5 with _ e5
                · rw [← q1] at e5
                  exact cellsAt_says h0 e5
              show mtx (itoa ((R : Int).toNat : Int) ++ [120] ++ itoa ((C : Int).toNat : Int) ++ [91]) (C : Int).toNat zs zs.length ++ [93] = s
              rw [mtx_head]
              simp only [Int.toNat_natCast]
              conv => rhs; rw [a1, a2, a3, a4, body, a6]
              try simp only [List.append_assoc]
            · cases h
        · cases h
      · cases h
    · cases h
  · cases h
theorem goM1_text {R C : Nat} {xs : List Int} (h : isMat R C xs = true) : goM1 (matText R C xs) = some (((R : Int), (C : Int), xs), []) := by
  obtain ⟨⟨r1, r2⟩, ⟨c1, c2⟩, l1, hx⟩ := isMat_says h
  have e : matText R C xs = itoa R ++ ([120] ++ (itoa C ++ ([91] ++ (mtx [] C xs xs.length ++ [93])))) := by
    show mtx _ C xs xs.length ++ [93] = _
    rw [mtx_head]
    simp only [List.append_assoc]
  have st1 : Stop ([120] ++ (itoa C ++ ([91] ++ (mtx [] C xs xs.length ++ [93])))) := stop_cons _ _ (by decide)
  have st2 : Stop ([91] ++ (mtx [] C xs xs.length ++ [93])) := stop_cons _ _ (by decide)
  have n1 := read_itoa (v := R) ⟨by omega, by omega⟩ st1
  have n2 := read_itoa (v := C) ⟨by omega, by omega⟩ st2
  have t1 := (read_num R _ st1).2
  have t2 := (read_num C _ st2).2
  have p1 := prefix_of [120] (itoa C ++ ([91] ++ (mtx [] C xs xs.length ++ [93])))
  have p2 := prefix_of [91] (mtx [] C xs xs.length ++ [93])
  have hs1 : decide (SizeP (R : Int)) = true := decide_eq_true ⟨r1, r2⟩
  have hs2 : decide (SizeP (C : Int)) = true := decide_eq_true ⟨c1, c2⟩
  have hl : R * C = xs.length := by
    rw [← Int.natCast_mul] at l1; omega
  have cs : cellsAt C (mtx [] C xs xs.length ++ [93]) xs.length = some (xs, [93]) := by
    rcases Nat.eq_zero_or_pos C with h0 | h0
    · subst h0
      rw [Nat.mul_zero] at hl
      obtain rfl : xs = [] := List.eq_nil_of_length_eq_zero hl.symm
      rfl
    · have := cellsAt_text C h0 xs hx xs.length (Nat.le_refl _)
      rw [List.take_length, Nat.sub_self] at this
      exact this
  have k1 : sizeOk (itoa R ++ ([120] ++ (itoa C ++ ([91] ++ (mtx [] C xs xs.length ++ [93]))))) = true := by unfold sizeOk; rw [n1, hs1]; rfl
  have k2 : sizeOk (itoa C ++ ([91] ++ (mtx [] C xs xs.length ++ [93]))) = true := by unfold sizeOk; rw [n2, hs2]; rfl
  rw [e]
  unfold goM1
  rw [if_pos k1, t1, if_pos p1.1, p1.2, if_pos k2, t2, if_pos p2.1, p2.2, n1, n2]
  simp only [Int.toNat_natCast]
  rw [hl, cs]
  rfl
/-- The reader's answer is the model's. -/
theorem goM1_none {s : List UInt8} (h : goM1 s = none) : parM s = MR.no := by
  refine parM_no fun hh => ?_
  obtain ⟨R, C, xs, h1, h2⟩ := (says_iff s).mp hh
  rw [← h2, goM1_text h1] at h
  cases h
theorem goM1_left {s : List UInt8} {m : Int × Int × List Int} {l : List UInt8} (h : goM1 s = some (m, l)) (hl : l ≠ []) : parM s = MR.no := by
  refine parM_no fun hh => ?_
  obtain ⟨R, C, xs, h1, h2⟩ := (says_iff s).mp hh
  rw [← h2, goM1_text h1] at h
  injection h with h
  injection h with _ h
  exact hl h.symm
theorem goM1_done {s : List UInt8} {r c : Int} {zs : List Int} (h : goM1 s = some ((r, c, zs), [])) : parM s = ⟨true, r, c, zs⟩ := by
  obtain ⟨h1, h2⟩ := goM1_says h
  obtain ⟨⟨r1, r2⟩, ⟨c1, c2⟩, -, -⟩ := isMat_says h1
  obtain ⟨R, rfl⟩ := Int.eq_ofNat_of_zero_le r1
  obtain ⟨C, rfl⟩ := Int.eq_ofNat_of_zero_le c1
  rw [← h2]
  exact parM_text h1
end Go.Proofs.YtihgcccdahmmmaaDoor
