/-
  Plain mathematics of chapter 5: an operation on rows, cell by cell. Nothing of a program is used.
-/
import Derived.Test.YtpelnfenfeoeeaaRowS
namespace Go.Proofs.Ytpelnfenfeoeeaa

/-- What the cell p becomes. -/
def opAt (k : Int) (I J : Nat) (t : Int) (C : Nat) (xs : List Int) (p : Nat) : Int :=
  if k = 0 then (if p / C = I then xs.getD (J * C + p % C) 0 else if p / C = J then xs.getD (I * C + p % C) 0 else xs.getD p 0)
  else if k = 1 then (if p / C = I then mulB (xs.getD p 0) (-1) else xs.getD p 0)
  else (if p / C = I then addB (xs.getD p 0) (mulB (xs.getD (J * C + p % C) 0) t) else xs.getD p 0)
/-- The columns before q are done. -/
def opTo (k : Int) (I J : Nat) (t : Int) (C : Nat) (xs : List Int) (q : Nat) : List Int := (List.range xs.length).map fun p => if p % C < q then opAt k I J t C xs p else xs.getD p 0
def opL (k : Int) (I J : Nat) (t : Int) (C : Nat) (xs : List Int) : List Int := (List.range xs.length).map (opAt k I J t C xs)
theorem opTo_length (k : Int) (I J : Nat) (t : Int) (C : Nat) (xs : List Int) (q : Nat) : (opTo k I J t C xs q).length = xs.length := by simp [opTo]
theorem opL_length (k : Int) (I J : Nat) (t : Int) (C : Nat) (xs : List Int) : (opL k I J t C xs).length = xs.length := by simp [opL]
theorem opTo_getD (k : Int) (I J : Nat) (t : Int) (C : Nat) (xs : List Int) (q p : Nat) (hp : p < xs.length) : (opTo k I J t C xs q).getD p 0 = if p % C < q then opAt k I J t C xs p else xs.getD p 0 := by
  simp [opTo, List.getD, hp]
theorem opTo_zero (k : Int) (I J : Nat) (t : Int) (C : Nat) (xs : List Int) : opTo k I J t C xs 0 = xs := by
  refine list_getD (opTo_length _ _ _ _ _ _ _) fun p hp => ?_
  rw [opTo_length] at hp
  rw [opTo_getD _ _ _ _ _ _ _ _ hp, if_neg (by omega)]
theorem opTo_all (k : Int) (I J : Nat) (t : Int) (C : Nat) (xs : List Int) (h : xs.length = 0 ∨ 0 < C) : opTo k I J t C xs C = opL k I J t C xs := by
  unfold opTo opL
  refine List.map_congr_left fun p hp => ?_
  have hp := List.mem_range.mp hp
  rw [if_pos (Nat.mod_lt p (by omega))]
theorem opTo_at (k : Int) (I J : Nat) (t : Int) (C : Nat) (xs : List Int) (q i : Nat) (hq : q < C) (hp : i * C + q < xs.length) : (opTo k I J t C xs q).getD (i * C + q) 0 = xs.getD (i * C + q) 0 := by
  rw [opTo_getD _ _ _ _ _ _ _ _ hp, idx_mod hq, if_neg (by omega)]
theorem opTo_next {k : Int} {I J : Nat} {t : Int} {C : Nat} {xs L : List Int} {q : Nat} (hl : L.length = xs.length) (h : ∀ p : Nat, p < xs.length → L.getD p 0 = if p % C = q then opAt k I J t C xs p else (opTo k I J t C xs q).getD p 0) : L = opTo k I J t C xs (q + 1) := by
  refine list_getD (by rw [hl, opTo_length]) fun p hp => ?_
  rw [hl] at hp
  rw [h p hp, opTo_getD _ _ _ _ _ _ _ _ hp, opTo_getD _ _ _ _ _ _ _ _ hp]
  by_cases e : p % C = q
  · rw [if_pos e, if_pos (by omega)]
  · rw [if_neg e]
    by_cases e2 : p % C < q
    · rw [if_pos e2, if_pos (by omega)]
    · rw [if_neg e2, if_neg (by omega)]
theorem split_idx {C p q : Nat} (h : p % C = q) : p = p / C * C + q := by
  have := Nat.div_add_mod p C
  rw [Nat.mul_comm] at this
  omega
theorem op_swap (I J : Nat) (t : Int) (C R : Nat) (xs : List Int) (q : Nat) (hl : xs.length = R * C) (hI : I < R) (hJ : J < R) (hq : q < C) :
    ((opTo 0 I J t C xs q).set (I * C + q) (xs.getD (J * C + q) 0)).set (J * C + q) (xs.getD (I * C + q) 0) = opTo 0 I J t C xs (q + 1) ∨ I = J := by
  by_cases hIJ : I = J
  · exact .inr hIJ
  refine .inl (opTo_next (by rw [List.length_set, List.length_set, opTo_length]) fun p hp => ?_)
  have a1 : I * C + q < xs.length := by rw [hl]; exact idx_lt hI hq
  have a2 : J * C + q < xs.length := by rw [hl]; exact idx_lt hJ hq
  rw [getD_set _ _ _ _ (by rw [List.length_set, opTo_length]; exact a2), getD_set _ _ _ _ (by rw [opTo_length]; exact a1)]
  by_cases e : p % C = q
  · rw [if_pos e]
    have sp := split_idx e
    unfold opAt
    rw [if_pos rfl, e]
    by_cases e1 : p / C = I
    · have : p = I * C + q := by rw [← e1]; exact sp
      rw [if_pos e1, if_neg (fun h => hIJ (by rw [← e1, h, idx_div hq])), if_pos this]
    · rw [if_neg e1]
      by_cases e2 : p / C = J
      · have : p = J * C + q := by rw [← e2]; exact sp
        rw [if_pos e2, if_pos this]
      · rw [if_neg e2, if_neg (fun h => e2 (by rw [h, idx_div hq])), if_neg (fun h => e1 (by rw [h, idx_div hq])), opTo_getD _ _ _ _ _ _ _ _ hp, if_neg (by omega)]
  · rw [if_neg e, if_neg (fun h => e (by rw [h, idx_mod hq])), if_neg (fun h => e (by rw [h, idx_mod hq]))]
theorem op_one (k : Int) (I J : Nat) (t : Int) (C R : Nat) (xs : List Int) (q : Nat) (z : Int) (hl : xs.length = R * C) (hI : I < R) (hq : q < C) (hk : k = 1 ∨ k = 2) (hz : z = opAt k I J t C xs (I * C + q)) :
    (opTo k I J t C xs q).set (I * C + q) z = opTo k I J t C xs (q + 1) := by
  refine opTo_next (by rw [List.length_set, opTo_length]) fun p hp => ?_
  have a1 : I * C + q < xs.length := by rw [hl]; exact idx_lt hI hq
  rw [getD_set _ _ _ _ (by rw [opTo_length]; exact a1)]
  by_cases e : p % C = q
  · rw [if_pos e]
    have sp := split_idx e
    by_cases e1 : p / C = I
    · have : p = I * C + q := by rw [← e1]; exact sp
      rw [if_pos this, hz, this]
    · rw [if_neg (fun h => e1 (by rw [h, idx_div hq])), opTo_getD _ _ _ _ _ _ _ _ hp, if_neg (by omega)]
      unfold opAt
      rcases hk with rfl | rfl
      · rw [if_neg (by decide), if_pos rfl, if_neg e1]
      · rw [if_neg (by decide), if_neg (by decide), if_neg e1]
  · rw [if_neg e, if_neg (fun h => e (by rw [h, idx_mod hq]))]
theorem opAt_one (I J : Nat) (t : Int) (C : Nat) (xs : List Int) {q : Nat} (hq : q < C) : opAt 1 I J t C xs (I * C + q) = mulB (xs.getD (I * C + q) 0) (-1) := by
  unfold opAt
  rw [if_neg (by decide), if_pos rfl, idx_div hq, if_pos rfl]
theorem opAt_two (I J : Nat) (t : Int) (C : Nat) (xs : List Int) {q : Nat} (hq : q < C) : opAt 2 I J t C xs (I * C + q) = addB (xs.getD (I * C + q) 0) (mulB (xs.getD (J * C + q) 0) t) := by
  unfold opAt
  rw [if_neg (by decide), if_neg (by decide), idx_div hq, if_pos rfl, idx_mod hq]
end Go.Proofs.Ytpelnfenfeoeeaa
