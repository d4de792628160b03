/-
  Texts of this seat, joined: ZAEchT · ZARkS · ZAIvxL · ZASvL · ZASolF · ZASlM · ZASvM · ZAMatI · ZARwI · ZACpI · ZAPrI · ZAPrI2 · ZARgX · ZABlk1 · ZAPrI3 · ZANumIDiv · ZACopyI · ZAEchB · ZASgMath · ZALdI · ZAPmI
-/
import Derived.BigQuiet
import Derived.Deep.QuietTactic
import Derived.Deep.DeepCutAuto
import Derived.IntWalk
import Derived.Laws.CopyOwn
import Derived.RangeFuncNested
import Derived.RangeFuncBound
import Derived.RangeFuncCalls
import Derived.RangeFuncLeaves
import Derived.Shelf.Abstract
import Derived.WalkKit
import Derived.OwnWalkIn
import Derived.TacticsInMore
import Derived.LoopNIn
import Derived.LoopIn
import Derived.Test.YtcapddcmnjeloaaGreatDoorProg
import Derived.Maps.AppendAt
import Derived.Test.YtcapddcmnjeloaaGreatDoorRows
import Derived.Lib.Hide
import Derived.Deep.RegionHeld3
import Derived.StillTailTactics
import Derived.Test.YtcapddcmnjeloaaGreatDoorPk1
import Derived.Test.YtcapddcmnjeloaaGreatDoorPk3

section
/-
  Chapter 7, in the model: EchelonOf, RankOf.
-/
namespace Go.Proofs.YtcapddcmnjeloaaGreatDoor
set_option maxRecDepth 100000
open Go.RowKit
end Go.Proofs.YtcapddcmnjeloaaGreatDoor
end

section
/-
  Chapter 8, in the model: RankMod, DeterminantMod.
-/
namespace Go.Proofs.YtcapddcmnjeloaaGreatDoor
set_option maxRecDepth 100000
open Go.RowKit
def rkM (r c p : Int) (xs : List Int) : Int × Bool := if (isMat r c xs && prmB p) = true then (((elM p r.toNat c.toNat xs).2.1.length : Int), true) else (0, false)
def dtM (r c p : Int) (xs : List Int) : Int × Bool := if (isMat r c xs && prmB p && decide (r = c)) = true then (if (elM p r.toNat c.toNat xs).2.1.length < r.toNat then 0 else (elM p r.toNat c.toNat xs).2.2, true) else (0, false)
theorem rkM_no {r c p : Int} {xs : List Int} (h : (isMat r c xs && prmB p) = false) : rkM r c p xs = (0, false) ∧ redM r c p xs = MR.no ∧ dtM r c p xs = (0, false) := by
  unfold rkM redM dtM
  rw [h]
  exact ⟨rfl, rfl, rfl⟩
theorem rkM_yes {r c p : Int} {xs : List Int} (h : (isMat r c xs && prmB p) = true) : ∃ (R C N : Nat), r = R ∧ c = C ∧ N = R * C ∧ R ≤ 24 ∧ C ≤ 24 ∧ xs.length = N ∧ (resL p xs).length = N ∧ prmB p = true ∧ CanL p (resL p xs) ∧ redM r c p xs = ⟨true, R, C, resL p xs⟩ ∧ rkM r c p xs = (((elM p R C xs).2.1.length : Int), true) ∧ dtM r c p xs = (if R = C then (if (elM p R C xs).2.1.length < R then 0 else (elM p R C xs).2.2, true) else (0, false)) := by
  have h0 := h
  rw [Bool.and_eq_true] at h
  obtain ⟨hm, hp⟩ := h
  obtain ⟨⟨r0, r1⟩, ⟨c0, c1⟩, hl, nx⟩ := isMat_says hm
  obtain ⟨R, rfl⟩ := Int.eq_ofNat_of_zero_le r0
  obtain ⟨C, rfl⟩ := Int.eq_ofNat_of_zero_le c0
  have hx : xs.length = R * C := by rw [← Int.natCast_mul] at hl; omega
  refine ⟨R, C, R * C, rfl, rfl, rfl, by omega, by omega, hx, by rw [resL_length, hx], hp, resL_can (by have := (prmB_says hp).1.1; omega) xs, ?_, ?_, ?_⟩
  · unfold redM; rw [if_pos h0]
  · unfold rkM; rw [if_pos h0]; rfl
  · unfold dtM
    rw [h0, Bool.true_and]
    by_cases e : R = C
    · rw [if_pos e, if_pos (by simp [e])]; rfl
    · rw [if_neg e, if_neg (by simp; omega)]
theorem Own.elim {B N cap : Nat} {w : World} {q : Option Addr} {zs : List Int} (h : Own B w (.slice q N cap) zs) : Rd w q zs ∧ Spot q := by
  rcases h with ⟨hv, rfl⟩ | ⟨g, cap, hv, _, hi, _⟩
  · injection hv with e
    exact ⟨Rd.nil _ _, .inl e⟩
  · injection hv with e
    exact ⟨by rw [e]; exact hi.rd, .inr ⟨g, 0, e⟩⟩
end Go.Proofs.YtcapddcmnjeloaaGreatDoor
end

section
/-
  Plain mathematics of chapter 8: the matrix beside the unit matrix, made cell by cell; what InverseMod gives.
-/
namespace Go.Proofs.YtcapddcmnjeloaaGreatDoor
def wdF (p : Int) (n : Nat) (xs : List Int) (i j : Nat) : Int := if j < n then (resL p xs).getD (i * n + j) 0 else if j = n + i then 1 else 0
def wdTo (p : Int) (n : Nat) (xs : List Int) (i j : Nat) : List Int := tab n (2 * n) fun a b => if a < i ∨ (a = i ∧ b < j) then wdF p n xs a b else 0
theorem wdTo_length (p : Int) (n : Nat) (xs : List Int) (i j : Nat) : (wdTo p n xs i j).length = n * (2 * n) := tab_length _ _ _
theorem wdTo_zero (p : Int) (n : Nat) (xs : List Int) : wdTo p n xs 0 0 = List.replicate (n * (2 * n)) 0 := by
  symm
  refine tab_ext (by simp) fun a b ha hb => ?_
  rw [if_neg (by omega)]
  have := idx_lt (c := 2 * n) ha hb
  simp [List.getD, this]
theorem wdTo_all (p : Int) (n : Nat) (xs : List Int) : wdTo p n xs n 0 = wideL p n xs := by
  refine tab_ext (tab_length _ _ _) fun a b ha hb => ?_
  unfold wdTo
  rw [tab_at n (2 * n) _ ha hb, if_pos (.inl ha)]
  rfl
theorem set_tab {r c i j : Nat} {f g : Nat → Nat → Int} {x : Int} (hi : i < r) (hj : j < c) (hx : g i j = x) (h : ∀ a b, a < r → b < c → ¬ (a = i ∧ b = j) → f a b = g a b) : (tab r c f).set (i * c + j) x = tab r c g := by
  refine tab_ext (by rw [List.length_set, tab_length]) fun a b ha hb => ?_
  by_cases e : a = i ∧ b = j
  · obtain ⟨rfl, rfl⟩ := e
    rw [hx]
    have := idx_lt (c := c) ha hb
    simp [List.getD, tab_length, this]
  · rw [← h a b ha hb e, ← tab_at r c f ha hb]
    have hne : a * c + b ≠ i * c + j := fun h2 => by
      have h3 := congrArg (· / c) h2
      have h4 := congrArg (· % c) h2
      simp only [idx_div hb, idx_div hj, idx_mod hb, idx_mod hj] at h3 h4
      exact e ⟨h3, h4⟩
    simp [List.getD, Ne.symm hne]
theorem wdTo_row {p : Int} {n : Nat} {xs : List Int} {i : Nat} (hi : i < n) : (wdTo p n xs i n).set (i * (2 * n) + (n + i)) 1 = wdTo p n xs (i + 1) 0 := by
  refine set_tab hi (by omega) ?_ fun a b ha hb h => ?_
  · rw [if_pos (by omega)]
    unfold wdF
    rw [if_neg (by omega), if_pos rfl]
  · by_cases h1 : a < i ∨ (a = i ∧ b < n)
    · rw [if_pos h1, if_pos (by omega)]
    · rw [if_neg h1]
      by_cases h2 : a < i + 1 ∨ (a = i + 1 ∧ b < 0)
      · rw [if_pos h2]
        unfold wdF
        rw [if_neg (by omega), if_neg (by omega)]
      · rw [if_neg h2]
def hfTo (n : Nat) (ys : List Int) (i j : Nat) : List Int := tab n n fun a b => if a < i ∨ (a = i ∧ b < j) then ys.getD (a * (2 * n) + (n + b)) 0 else 0
theorem hfTo_length (n : Nat) (ys : List Int) (i j : Nat) : (hfTo n ys i j).length = n * n := tab_length _ _ _
theorem hfTo_zero (n : Nat) (ys : List Int) : hfTo n ys 0 0 = List.replicate (n * n) 0 := by
  symm
  refine tab_ext (by simp) fun a b ha hb => ?_
  rw [if_neg (by omega)]
  have := idx_lt (c := n) ha hb
  simp [List.getD, this]
theorem hfTo_all (n : Nat) (p : Int) (xs : List Int) : hfTo n (elW p n xs).1 n 0 = ivL p n xs := by
  refine tab_ext (tab_length _ _ _) fun a b ha hb => ?_
  unfold hfTo
  rw [tab_at n n _ ha hb, if_pos (.inl ha)]
theorem clP_len {p : Int} {r c t j : Nat} : ∀ (k i : Nat) (xs : List Int), xs.length = r * c → (clP p r c t j k i xs).length = r * c := by
  intro k
  induction k with
  | zero => intro i xs h; exact h
  | succ k ih =>
    intro i xs h
    by_cases hs : i = t ∨ mxC c xs i j = 0
    · rw [clP_skip hs]; exact ih _ _ h
    · rw [clP_on hs]; exact ih _ _ (rowL_length _ _ _ _ _)
theorem elP_len {p : Int} {r c : Nat} : ∀ (k j : Nat) (xs : List Int) (pv : List Nat) (d : Int), xs.length = r * c → (elP p r c k j xs pv d).1.length = r * c := by
  intro k
  induction k with
  | zero => intro j xs pv d h; exact h
  | succ k ih =>
    intro j xs pv d h
    by_cases ht : pv.length < r
    · by_cases hf : fstR c j xs (r - pv.length) pv.length = r
      · rw [elP_skip ht hf]; exact ih _ _ _ _ h
      · rw [elP_on ht rfl hf]
        exact ih _ _ _ _ (clP_len _ _ _ (rowL_length _ _ _ _ _))
    · rw [elP_end ht]; exact h
theorem elW_len (p : Int) (n : Nat) (xs : List Int) : (elW p n xs).1.length = n * (2 * n) := elP_len _ _ _ _ _ (tab_length _ _ _)
def ivX (r c p : Int) (xs : List Int) : MR := if (isMat r c xs && prmB p && decide (r = c) && decide (r ≤ 12)) = true then (if (elW p r.toNat xs).2.1.length < r.toNat then MR.no else ⟨true, r, r, ivL p r.toNat xs⟩) else MR.no
theorem ivX_no1 {r c p : Int} {xs : List Int} (h : (isMat r c xs && prmB p) = false) : ivX r c p xs = MR.no := by
  unfold ivX; rw [h]; rfl
theorem ivX_no2 {r c p : Int} {xs : List Int} (h : r ≠ c) : ivX r c p xs = MR.no := by
  unfold ivX; rw [decide_eq_false h, Bool.and_false, Bool.false_and]; rfl
theorem ivX_no3 {r c p : Int} {xs : List Int} (h : ¬ r ≤ 12) : ivX r c p xs = MR.no := by
  unfold ivX; rw [decide_eq_false h, Bool.and_false]; rfl
theorem ivX_at {n : Nat} {p : Int} {xs : List Int} (h : (isMat n n xs && prmB p) = true) (hn : n ≤ 12) : ivX n n p xs = if (elW p n xs).2.1.length < n then MR.no else ⟨true, n, n, ivL p n xs⟩ := by
  unfold ivX; rw [h, decide_eq_true rfl, decide_eq_true (by omega)]; rfl
end Go.Proofs.YtcapddcmnjeloaaGreatDoor
end

section
/-
  Plain mathematics of chapter 8: what SolveMod gives, and how it is made cell by cell.
-/
namespace Go.Proofs.YtcapddcmnjeloaaGreatDoor
theorem ivX_says {r c p : Int} {xs : List Int} (h : (ivX r c p xs).ok = true) : ∃ n : Nat, r = n ∧ c = n ∧ n ≤ 12 ∧ prmB p = true ∧ xs.length = n * n ∧ (isMat r c xs && prmB p) = true ∧ (elW p n xs).2.1.length ≥ n ∧ ivX r c p xs = ⟨true, n, n, ivL p n xs⟩ ∧ (ivL p n xs).length = n * n ∧ CanL p (ivL p n xs) := by
  rcases Bool.eq_false_or_eq_true (isMat r c xs && prmB p) with hh | hh
  · by_cases h1 : r = c
    · by_cases h2 : r ≤ 12
      · obtain ⟨R, C, N, rfl, rfl, hN, hR, hC, hx, -, hp, -, -, -, -⟩ := rkM_yes hh
        have e : R = C := by omega
        subst e
        have hx2 : xs.length = R * R := by rw [hx, hN]
        have e1 := ivX_at (p := p) hh (by omega : R ≤ 12)
        obtain ⟨-, -, hc, hl⟩ := elW_inv (prmB_says hp).1 hx2
        by_cases h3 : (elW p R xs).2.1.length < R
        · rw [e1, if_pos h3] at h; cases h
        · rw [if_neg h3] at e1
          exact ⟨R, rfl, rfl, by omega, hp, hx2, hh, by omega, e1, hl, hc⟩
      · rw [ivX_no3 h2] at h; cases h
    · rw [ivX_no2 h1] at h; cases h
  · rw [ivX_no1 hh] at h; cases h
def svF (p : Int) (n : Nat) (vs bs : List Int) (i j : Nat) : Int := slF p (fun k => vs.getD (i * n + k) 0) (fun k => bs.getD k 0) j
theorem svF_zero (p : Int) (n : Nat) (vs bs : List Int) (i : Nat) : svF p n vs bs i 0 = 0 := rfl
theorem svF_step (p : Int) (n : Nat) (vs bs : List Int) (i j : Nat) : svF p n vs bs i (j + 1) = (svF p n vs bs i j + vs.getD (i * n + j) 0 * (bs.getD j 0 % p)) % p := rfl
theorem svF_can {p : Int} (hp : 0 < p) (n : Nat) (vs bs : List Int) (i j : Nat) : 0 ≤ svF p n vs bs i j ∧ svF p n vs bs i j < p := slF_can hp _ _ _
def svTo (p : Int) (n : Nat) (vs bs : List Int) (i j : Nat) : List Int := (List.range n).map fun a => if a < i then svF p n vs bs a n else if a = i then svF p n vs bs i j else 0
theorem svTo_length (p : Int) (n : Nat) (vs bs : List Int) (i j : Nat) : (svTo p n vs bs i j).length = n := by simp [svTo]
theorem svTo_zero (p : Int) (n : Nat) (vs bs : List Int) : svTo p n vs bs 0 0 = List.replicate n 0 := by
  apply List.ext_getElem (by simp [svTo])
  intro k h1 h2
  simp [svTo, svF_zero]
theorem svTo_at {p : Int} {n : Nat} {vs bs : List Int} {i j : Nat} (hi : i < n) : (svTo p n vs bs i j).getD i 0 = svF p n vs bs i j := by
  unfold svTo
  simp [List.getD, hi]
theorem svTo_set {p : Int} {n : Nat} {vs bs : List Int} {i j : Nat} : (svTo p n vs bs i j).set i (svF p n vs bs i (j + 1)) = svTo p n vs bs i (j + 1) := by
  apply List.ext_getElem (by simp [svTo])
  intro k h1 h2
  rw [List.getElem_set]
  by_cases e : i = k
  · subst e; simp [svTo]
  · rw [if_neg e]
    simp [svTo, show ¬ k = i from fun h => e h.symm]
theorem svTo_row {p : Int} {n : Nat} {vs bs : List Int} {i : Nat} : svTo p n vs bs i n = svTo p n vs bs (i + 1) 0 := by
  apply List.ext_getElem (by simp [svTo])
  intro k h1 h2
  simp only [svTo, List.getElem_map, List.getElem_range]
  by_cases h3 : k < i
  · rw [if_pos h3, if_pos (by omega)]
  · rw [if_neg h3]
    by_cases h4 : k = i
    · rw [if_pos h4, if_pos (by omega), h4]
    · rw [if_neg h4, if_neg (by omega)]
      split
      · rfl
      · rfl
theorem svTo_all (p : Int) (n : Nat) (vs bs : List Int) : svTo p n vs bs n 0 = solL p n vs bs := by
  apply List.ext_getElem (by simp [svTo, solL])
  intro k h1 h2
  have : k < n := by simpa [svTo] using h1
  simp [svTo, solL, svF, this]
end Go.Proofs.YtcapddcmnjeloaaGreatDoor
end

section
/-
  Plain mathematics of chapter 11: what SolveByLifting answers, step by step.
-/
namespace Go.Proofs.YtcapddcmnjeloaaGreatDoor
structure LfP (r c : Int) (xs : List Int) (p : Int) : Prop where
  low : 101 ≤ p
  up : p ≤ 199
  inv : (ivX r c p xs).ok = true
  first : ∀ q, 101 ≤ q → q < p → (ivX r c q xs).ok = false
theorem LfP.uniq {r c p q : Int} {xs : List Int} (h : LfP r c xs p) (h' : LfP r c xs q) : p = q := by
  rcases Int.lt_trichotomy p q with h1 | h1 | h1
  · have := h'.first p h.low h1
    rw [h.inv] at this; cases this
  · exact h1
  · have := h.first q h'.low h1
    rw [h'.inv] at this; cases this
def nxX (n : Nat) (P : Int) (dg us : List Int) : List Int := (List.range n).map fun i => us.getD i 0 + P * dg.getD i 0
def nxR (p : Int) (n : Nat) (xs dg rs : List Int) : List Int := (List.range n).map fun i => (rs.getD i 0 - sumN n fun j => mxC n xs i j * dg.getD j 0) / p
theorem nxX_length (n : Nat) (P : Int) (dg us : List Int) : (nxX n P dg us).length = n := by simp [nxX]
theorem nxR_length (p : Int) (n : Nat) (xs dg rs : List Int) : (nxR p n xs dg rs).length = n := by simp [nxR]
theorem nxX_at {n i : Nat} {P : Int} {dg us : List Int} (hi : i < n) : (nxX n P dg us).getD i 0 = us.getD i 0 + P * dg.getD i 0 := by simp [nxX, List.getD, hi]
theorem nxR_at {p : Int} {n i : Nat} {xs dg rs : List Int} (hi : i < n) : (nxR p n xs dg rs).getD i 0 = (rs.getD i 0 - sumN n fun j => mxC n xs i j * dg.getD j 0) / p := by simp [nxR, List.getD, hi]
def lfS (p : Int) (n : Nat) (xs vs bs : List Int) : Nat → List Int × List Int
  | 0 => (List.replicate n 0, bs)
  | k + 1 => (nxX n (p ^ k) (solL p n vs (lfS p n xs vs bs k).2) (lfS p n xs vs bs k).1, nxR p n xs (solL p n vs (lfS p n xs vs bs k).2) (lfS p n xs vs bs k).2)
section
variable {p : Int} {n : Nat} {xs vs bs : List Int}
theorem lfS_x (k : Nat) : (lfS p n xs vs bs (k + 1)).1 = nxX n (p ^ k) (solL p n vs (lfS p n xs vs bs k).2) (lfS p n xs vs bs k).1 := rfl
theorem lfS_r (k : Nat) : (lfS p n xs vs bs (k + 1)).2 = nxR p n xs (solL p n vs (lfS p n xs vs bs k).2) (lfS p n xs vs bs k).2 := rfl
theorem lfS_xl (k : Nat) : (lfS p n xs vs bs k).1.length = n := by
  cases k with
  | zero => exact List.length_replicate ..
  | succ k => exact nxX_length _ _ _ _
theorem lfS_rl (hb : bs.length = n) (k : Nat) : (lfS p n xs vs bs k).2.length = n := by
  cases k with
  | zero => exact hb
  | succ k => exact nxR_length _ _ _ _ _
theorem lf_dvd (h : InvX p n (mxC n xs) (mxC n vs)) (rs : List Int) {i : Nat} (hi : i < n) : p ∣ rs.getD i 0 - sumN n fun j => mxC n xs i j * (solL p n vs rs).getD j 0 :=
  dig_dvd (rest := fun i => rs.getD i 0) (dg := fun j => (solL p n vs rs).getD j 0) h (fun j hj => by
    show Cg p ((solL p n vs rs).getD j 0) _
    rw [solL_at hj]; exact slF_cg _ _ _) hi
theorem lf_tdiv (h : InvX p n (mxC n xs) (mxC n vs)) (rs : List Int) {i : Nat} (hi : i < n) : (rs.getD i 0 - sumN n fun j => mxC n xs i j * (solL p n vs rs).getD j 0).tdiv p = (nxR p n xs (solL p n vs rs) rs).getD i 0 := by
  rw [nxR_at hi]; exact Int.tdiv_eq_ediv_of_dvd (lf_dvd h rs hi)
theorem lf_inv (hp : 0 < p) (h : InvX p n (mxC n xs) (mxC n vs)) : ∀ k, LInv n (mxC n xs) (fun i => bs.getD i 0) (fun j => (lfS p n xs vs bs k).1.getD j 0) (fun i => (lfS p n xs vs bs k).2.getD i 0) (p ^ k)
  | 0 => by
    have e : (fun j => (lfS p n xs vs bs 0).1.getD j 0) = fun _ => 0 := by
      funext j
      show (List.replicate n (0 : Int)).getD j 0 = 0
      rcases Nat.lt_or_ge j n with hj | hj
      · simp [List.getD, hj]
      · simp [List.getD, hj]
    rw [e, Int.pow_zero]
    exact LInv.start
  | k + 1 => by
    have I := (lf_inv hp h k).step (Int.pow_pos hp) (dg := fun j => (solL p n vs (lfS p n xs vs bs k).2).getD j 0) (r' := fun i => (lfS p n xs vs bs (k + 1)).2.getD i 0) (p := p) (fun j hj => solL_can hp hj) fun i hi => by
      show _ = p * (lfS p n xs vs bs (k + 1)).2.getD i 0
      rw [lfS_r, nxR_at hi]
      exact (Int.mul_ediv_cancel' (lf_dvd h _ hi)).symm
    rw [← Int.pow_succ] at I
    refine ⟨fun i hi => ?_, fun j hj => ?_⟩
    · rw [← I.sum i hi]
      refine congrArg (· + _) (sumN_congr fun j hj => ?_)
      show mxC n xs i j * (lfS p n xs vs bs (k + 1)).1.getD j 0 = _
      rw [lfS_x, nxX_at hj]
    · show 0 ≤ (lfS p n xs vs bs (k + 1)).1.getD j 0 ∧ (lfS p n xs vs bs (k + 1)).1.getD j 0 < _
      rw [lfS_x, nxX_at hj]
      exact I.can j hj
theorem lf_can (hp : 0 < p) (h : InvX p n (mxC n xs) (mxC n vs)) (k : Nat) {j : Nat} (hj : j < n) : 0 ≤ (lfS p n xs vs bs k).1.getD j 0 ∧ (lfS p n xs vs bs k).1.getD j 0 < p ^ k := (lf_inv hp h k).can j hj
theorem sum_bd {f : Nat → Int} {K : Int} : ∀ {m : Nat}, (∀ j, j < m → -K ≤ f j ∧ f j ≤ K) → -((m : Int) * K) ≤ sumN m f ∧ sumN m f ≤ (m : Int) * K
  | 0, _ => by show -(((0 : Nat) : Int) * K) ≤ 0 ∧ 0 ≤ ((0 : Nat) : Int) * K; simp
  | m + 1, h => by
    have h1 := sum_bd (m := m) fun j hj => h j (by omega)
    have h2 := h m (by omega)
    have e : ((m + 1 : Nat) : Int) * K = (m : Int) * K + K := by rw [Int.natCast_add, Int.add_mul]; simp
    rw [e]
    show _ ≤ sumN m f + f m ∧ sumN m f + f m ≤ _
    omega
theorem lf_sum (hp : 1 < p) (hx : xs.length = n * n) (hn : nums xs = true) (rs : List Int) {i m : Nat} (hi : i < n) (hm : m ≤ n) : -((m : Int) * (400000000 * (p - 1))) ≤ (sumN m fun j => mxC n xs i j * (solL p n vs rs).getD j 0) ∧ (sumN m fun j => mxC n xs i j * (solL p n vs rs).getD j 0) ≤ (m : Int) * (400000000 * (p - 1)) := sum_bd fun j hj => by
  have h1 := mx_nums hx hn hi (show j < n by omega)
  have h2 := solL_can (p := p) (by omega) (n := n) (vs := vs) (bs := rs) (show j < n by omega)
  exact mul_abs (A := 400000000) (B := p - 1) h1 ⟨by omega, by omega⟩
theorem lf_small (hp : 1 < p) (h6 : n ≤ 6) (hx : xs.length = n * n) (hn : nums xs = true) (hb : bs.length = n) (hm : nums bs = true) (h : InvX p n (mxC n xs) (mxC n vs)) : ∀ k, ∀ i, i < n → -2400000000 ≤ (lfS p n xs vs bs k).2.getD i 0 ∧ (lfS p n xs vs bs k).2.getD i 0 ≤ 2400000000
  | 0, i, hi => by
    have := nums_at hm (j := i) (by omega)
    unfold NumP at this
    show -2400000000 ≤ bs.getD i 0 ∧ bs.getD i 0 ≤ 2400000000
    omega
  | k + 1, i, hi => by
    have h1 := lf_small hp h6 hx hn hb hm h k i hi
    have h2 := lf_sum (vs := vs) hp hx hn (lfS p n xs vs bs k).2 hi (Nat.le_refl n)
    have h3 := lf_dvd h (lfS p n xs vs bs k).2 hi
    rw [lfS_r, nxR_at hi]
    obtain ⟨q, hq⟩ := h3
    rw [hq, Int.mul_ediv_cancel_left q (by omega)]
    have h4 : (n : Int) * (400000000 * (p - 1)) ≤ 6 * (400000000 * (p - 1)) := Int.mul_le_mul_of_nonneg_right (by omega) (by omega)
    generalize (n : Int) * (400000000 * (p - 1)) = N at h2 h4
    have h5 : -(p * 2400000000) ≤ p * q ∧ p * q ≤ p * 2400000000 := by omega
    constructor
    · refine Int.le_of_mul_le_mul_left (a := p) ?_ (by omega)
      have : p * -2400000000 = -(p * 2400000000) := by omega
      omega
    · exact Int.le_of_mul_le_mul_left h5.2 (by omega)
end
def lfK (p : Int) : Nat := if p ≤ 141 then 4 else 3
def LfGo (p P : Int) : Prop := P ≤ 200000000 ∧ P ≤ 400000000 / p
instance (p P : Int) : Decidable (LfGo p P) := by unfold LfGo; exact inferInstance
theorem lfK_go {p : Int} (h1 : 101 ≤ p) (h2 : p ≤ 199) : (∀ k, k < lfK p → LfGo p (p ^ k)) ∧ ¬ LfGo p (p ^ lfK p) ∧ 1000000 ≤ p ^ lfK p ∧ p ^ lfK p ≤ 400000000 := by
  have key : (List.range 99).all (fun i => decide ((∀ k, k < lfK (((101 + i : Nat)) : Int) → LfGo ((101 + i : Nat) : Int) (((101 + i : Nat) : Int) ^ k)) ∧ ¬ LfGo ((101 + i : Nat) : Int) (((101 + i : Nat) : Int) ^ lfK ((101 + i : Nat) : Int)) ∧ 1000000 ≤ ((101 + i : Nat) : Int) ^ lfK ((101 + i : Nat) : Int) ∧ ((101 + i : Nat) : Int) ^ lfK ((101 + i : Nat) : Int) ≤ 400000000)) = true := by decide +kernel
  obtain ⟨q, rfl⟩ := Int.eq_ofNat_of_zero_le (show 0 ≤ p by omega)
  have := List.all_eq_true.mp key (q - 101) (List.mem_range.mpr (by omega))
  rw [show 101 + (q - 101) = q by omega] at this
  exact of_decide_eq_true this
theorem lfK_more {p : Int} {k : Nat} (h1 : 101 ≤ p) (h2 : p ≤ 199) (hk : k ≤ lfK p) (hg : LfGo p (p ^ k)) : k < lfK p := by
  rcases Nat.lt_or_ge k (lfK p) with h | h
  · exact h
  · obtain rfl : k = lfK p := by omega
    exact absurd hg (lfK_go h1 h2).2.1
theorem lfK_end {p : Int} {k : Nat} (h1 : 101 ≤ p) (h2 : p ≤ 199) (hk : k ≤ lfK p) (hg : ¬ LfGo p (p ^ k)) : k = lfK p := by
  rcases Nat.lt_or_ge k (lfK p) with h | h
  · exact absurd ((lfK_go h1 h2).1 k h) hg
  · omega
theorem lfK_num {p : Int} {k : Nat} (h1 : 101 ≤ p) (h2 : p ≤ 199) (hk : k ≤ lfK p) : 1 ≤ p ^ k ∧ p ^ k ≤ 400000000 := by
  refine ⟨by have : 0 < p ^ k := Int.pow_pos (show 0 < p by omega); omega, ?_⟩
  rcases Nat.lt_or_ge k (lfK p) with h | h
  · have := ((lfK_go h1 h2).1 k h).1
    omega
  · obtain rfl : k = lfK p := by omega
    exact (lfK_go h1 h2).2.2.2
def lfBs (P : Int) : Nat → Nat
  | 0 => 0
  | k + 1 => if 2 * ((k + 1 : Nat) : Int) * ((k + 1 : Nat) : Int) < P then k + 1 else lfBs P k
def lfB (P : Int) : Int := lfBs P 10000
theorem lfBs_yes {P : Int} {k : Nat} (h : 2 * (k : Int) * (k : Int) < P) : lfBs P k = k := by
  cases k with
  | zero => rfl
  | succ k => exact if_pos h
theorem lfBs_no {P : Int} {k : Nat} (h : ¬ 2 * ((k + 1 : Nat) : Int) * ((k + 1 : Nat) : Int) < P) : lfBs P (k + 1) = lfBs P k := if_neg h
theorem lfBs_eq {P : Int} {B : Nat} (h1 : 2 * (B : Int) * (B : Int) < P) : ∀ {k : Nat}, B ≤ k → (B = k ∨ P ≤ 2 * ((B + 1 : Nat) : Int) * ((B + 1 : Nat) : Int)) → lfBs P k = B
  | 0, h2, _ => by
    obtain rfl : B = 0 := by omega
    rfl
  | k + 1, h2, h3 => by
    rcases Nat.lt_or_ge B (k + 1) with h4 | h4
    · have h5 : P ≤ 2 * ((B + 1 : Nat) : Int) * ((B + 1 : Nat) : Int) := by
        rcases h3 with h3 | h3
        · omega
        · exact h3
      have h6 : 2 * ((B + 1 : Nat) : Int) * ((B + 1 : Nat) : Int) ≤ 2 * ((k + 1 : Nat) : Int) * ((k + 1 : Nat) : Int) := Int.mul_le_mul (by omega) (by omega) (by omega) (by omega)
      rw [lfBs_no (by omega)]
      exact lfBs_eq h1 (by omega) (.inr h5)
    · obtain rfl : B = k + 1 := by omega
      exact lfBs_yes h1
theorem lfB_eq {P B : Int} (h0 : 0 ≤ B) (h1 : 2 * B * B < P) (h2 : B ≤ 10000) (h3 : B = 10000 ∨ P ≤ 2 * (B + 1) * (B + 1)) : lfB P = B := by
  obtain ⟨b, rfl⟩ := Int.eq_ofNat_of_zero_le h0
  unfold lfB
  rw [lfBs_eq h1 (by omega) (by
    rcases h3 with h3 | h3
    · exact .inl (by omega)
    · exact .inr h3)]
noncomputable def slR (p : Int) (n : Nat) (xs bs : List Int) (i : Nat) : Int × Int × Bool := rtX ((lfS p n xs (ivX n n p xs).zs bs (lfK p)).1.getD i 0) (p ^ lfK p) (lfB (p ^ lfK p))
noncomputable def slZ (p : Int) (n : Nat) (xs bs : List Int) (i : Nat) : List (Int × Int) := (List.range i).map fun k => ((slR p n xs bs k).1, (slR p n xs bs k).2.1)
theorem slZ_length (p : Int) (n : Nat) (xs bs : List Int) (i : Nat) : (slZ p n xs bs i).length = i := by simp [slZ]
theorem slZ_succ (p : Int) (n : Nat) (xs bs : List Int) (i : Nat) : slZ p n xs bs (i + 1) = slZ p n xs bs i ++ [((slR p n xs bs i).1, (slR p n xs bs i).2.1)] := by simp [slZ, List.range_succ]
noncomputable def slQ (p : Int) (n : Nat) (xs bs : List Int) : List (Int × Int) × Bool := if ((List.range n).all (fun i => (slR p n xs bs i).2.2) && irB n n xs bs (slZ p n xs bs n)) = true then (slZ p n xs bs n, true) else ([], false)
theorem slQ_bad {p : Int} {n i : Nat} {xs bs : List Int} (hi : i < n) (h : (slR p n xs bs i).2.2 = false) : slQ p n xs bs = ([], false) := by
  unfold slQ
  refine if_neg fun h2 => ?_
  rw [Bool.and_eq_true, List.all_eq_true] at h2
  have := h2.1 i (List.mem_range.mpr hi)
  rw [h] at this; cases this
theorem slQ_ir {p : Int} {n : Nat} {xs bs : List Int} (h : irB n n xs bs (slZ p n xs bs n) = false) : slQ p n xs bs = ([], false) := by
  unfold slQ
  rw [h, Bool.and_false]; rfl
theorem slQ_yes {p : Int} {n : Nat} {xs bs : List Int} (h : ∀ i, i < n → (slR p n xs bs i).2.2 = true) (h2 : irB n n xs bs (slZ p n xs bs n) = true) : slQ p n xs bs = (slZ p n xs bs n, true) := by
  unfold slQ
  refine if_pos ?_
  rw [h2, Bool.and_true]
  exact List.all_eq_true.mpr fun i hi => h i (List.mem_range.mp hi)
theorem slQ_says {p : Int} {n : Nat} {xs bs : List Int} (h : (slQ p n xs bs).2 = true) : irB n n xs bs (slQ p n xs bs).1 = true := by
  by_cases hh : ((List.range n).all (fun i => (slR p n xs bs i).2.2) && irB n n xs bs (slZ p n xs bs n)) = true
  · unfold slQ
    rw [if_pos hh]
    rw [Bool.and_eq_true] at hh
    exact hh.2
  · unfold slQ at h; rw [if_neg hh] at h; cases h
open Classical in
noncomputable def slX (r c : Int) (xs bs : List Int) : List (Int × Int) × Bool := if h : sysB r c xs bs = true ∧ ∃ p, LfP r c xs p then slQ h.2.choose r.toNat xs bs else ([], false)
theorem slX_sys {r c : Int} {xs bs : List Int} (h : sysB r c xs bs = false) : slX r c xs bs = ([], false) := by
  unfold slX
  exact dif_neg fun h2 => by rw [h] at h2; cases h2.1
theorem slX_none {r c : Int} {xs bs : List Int} (h : ∀ q, 101 ≤ q → q ≤ 199 → (ivX r c q xs).ok = false) : slX r c xs bs = ([], false) := by
  unfold slX
  refine dif_neg ?_
  rintro ⟨-, p, hp⟩
  have := h p hp.low hp.up
  rw [hp.inv] at this; cases this
theorem slX_at {n : Nat} {p : Int} {xs bs : List Int} (h : sysB n n xs bs = true) (hp : LfP n n xs p) : slX n n xs bs = slQ p n xs bs := by
  have hx : sysB n n xs bs = true ∧ ∃ p, LfP n n xs p := ⟨h, p, hp⟩
  unfold slX
  rw [dif_pos hx, hx.2.choose_spec.uniq hp]; rfl
theorem slX_says {r c : Int} {xs bs : List Int} (h : (slX r c xs bs).2 = true) : ∃ n : Nat, r = n ∧ c = n ∧ n ≤ 6 ∧ sysB r c xs bs = true ∧ det n (mxL n xs) ≠ 0 ∧ (slX r c xs bs).1.length = n ∧ irB r c xs bs (slX r c xs bs).1 = true := by
  cases hs : sysB r c xs bs with
  | false => rw [slX_sys hs] at h; cases h
  | true =>
    obtain ⟨n, rfl, rfl, h6, hl, hn, hb, hm⟩ := sysB_says hs
    by_cases hx : ∃ p, LfP n n xs p
    rotate_left
    · unfold slX at h
      rw [dif_neg fun h2 => hx h2.2] at h; cases h
    obtain ⟨p, hp⟩ := hx
    rw [slX_at hs hp] at h ⊢
    have hi := slQ_says h
    have hI : InvX p n (mxC n xs) (mxC n (ivL p n xs)) := by
      obtain ⟨m, hm, -, -, hpr, hl2, -, hge, -⟩ := ivX_says hp.inv
      obtain rfl : n = m := by omega
      exact (elW_inv (prmB_says hpr).1 hl2).2.1 (by omega)
    have hpr : Prm p := by
      obtain ⟨m, -, -, -, hpr, -⟩ := ivX_says hp.inv
      exact (prmB_says hpr).1
    refine ⟨n, rfl, rfl, h6, rfl, fun h0 => ?_, (irB_sol hi).1, hi⟩
    refine hI.ne hpr ?_
    show p ∣ det n (mxL n xs)
    rw [h0]; exact Int.dvd_zero p
theorem sd_sl {r c : Int} {xs bs : List Int} (h1 : (sdX r c xs bs).2 = true) (h2 : (slX r c xs bs).2 = true) : (sdX r c xs bs).1 = (slX r c xs bs).1 := by
  obtain ⟨n, -, -, -, -, -, -, h3⟩ := slX_says h2
  exact sd_ir h1 h3
end Go.Proofs.YtcapddcmnjeloaaGreatDoor
end

section
/-
  Chapter 11: what a walk of SolveByLifting needs of its steps. Nothing of a program is used.
-/
namespace Go.Proofs.YtcapddcmnjeloaaGreatDoor
def twL (n : Nat) (f g : List Int) (i : Nat) : List Int := (List.range n).map fun a => if a < i then f.getD a 0 else g.getD a 0
theorem twL_length (n : Nat) (f g : List Int) (i : Nat) : (twL n f g i).length = n := by simp [twL]
theorem twL_at {n i a : Nat} {f g : List Int} (h : a < n) : (twL n f g i).getD a 0 = if a < i then f.getD a 0 else g.getD a 0 := by simp [twL, List.getD, h]
theorem twL_zero {n : Nat} {f g : List Int} (h : g.length = n) : twL n f g 0 = g := by
  refine List.ext_getElem (by rw [twL_length, h]) fun a h1 h2 => ?_
  simp [twL, List.getD, h2]
theorem twL_all {n : Nat} {f g : List Int} (h : f.length = n) : twL n f g n = f := by
  refine List.ext_getElem (by rw [twL_length, h]) fun a h1 h2 => ?_
  rw [twL_length] at h1
  simp [twL, List.getD, h1, h2]
theorem twL_set {n i : Nat} {f g : List Int} : (twL n f g i).set i (f.getD i 0) = twL n f g (i + 1) := by
  refine List.ext_getElem (by simp [twL]) fun a h1 h2 => ?_
  rw [twL_length] at h2
  by_cases hai : i = a
  · subst hai
    simp [twL]
  · rw [List.getElem_set_ne hai]
    simp only [twL, List.getElem_map, List.getElem_range]
    by_cases h3 : a < i
    · rw [if_pos h3, if_pos (by omega)]
    · rw [if_neg h3, if_neg (by omega)]
def sF (n : Nat) (xs ds rs : List Int) (i j : Nat) : Int := rs.getD i 0 - sumN j fun k => mxC n xs i k * ds.getD k 0
theorem sF_zero (n : Nat) (xs ds rs : List Int) (i : Nat) : sF n xs ds rs i 0 = rs.getD i 0 := by
  show rs.getD i 0 - 0 = _
  omega
theorem sF_succ (n : Nat) (xs ds rs : List Int) (i j : Nat) : sF n xs ds rs i (j + 1) = sF n xs ds rs i j - xs.getD (i * n + j) 0 * ds.getD j 0 := by
  unfold sF
  show rs.getD i 0 - (sumN j _ + mxC n xs i j * ds.getD j 0) = _
  unfold mxC
  omega
structure LfH (p : Int) (n : Nat) (xs vs bs : List Int) : Prop where
  lo : 101 ≤ p
  hi : p ≤ 199
  h6 : n ≤ 6
  hx : xs.length = n * n
  nx : nums xs = true
  hb : bs.length = n
  nb : nums bs = true
  hv : vs.length = n * n
  can : CanL p vs
  inv : InvX p n (mxC n xs) (mxC n vs)
section
variable {p : Int} {n : Nat} {xs vs bs : List Int}
theorem LfH.rest (H : LfH p n xs vs bs) (k : Nat) : (lfS p n xs vs bs k).2.length = n ∧ ∀ i, i < n → -2400000000 ≤ (lfS p n xs vs bs k).2.getD i 0 ∧ (lfS p n xs vs bs k).2.getD i 0 ≤ 2400000000 :=
  ⟨lfS_rl H.hb k, fun i hi => lf_small (by have := H.lo; omega) H.h6 H.hx H.nx H.hb H.nb H.inv k i hi⟩
theorem LfH.sums (H : LfH p n xs vs bs) (k : Nat) {i j : Nat} (hi : i < n) (hj : j ≤ n) : -1000000000000 ≤ sF n xs (solL p n vs (lfS p n xs vs bs k).2) (lfS p n xs vs bs k).2 i j ∧ sF n xs (solL p n vs (lfS p n xs vs bs k).2) (lfS p n xs vs bs k).2 i j ≤ 1000000000000 := by
  have h1 := (H.rest k).2 i hi
  have h2 := lf_sum (p := p) (vs := vs) (by have := H.lo; omega) H.hx H.nx (lfS p n xs vs bs k).2 hi hj
  have h3 : (j : Int) * (400000000 * (p - 1)) ≤ 6 * (400000000 * (p - 1)) := Int.mul_le_mul_of_nonneg_right (by have := H.h6; omega) (by have := H.lo; omega)
  have := H.hi
  unfold sF
  omega
theorem LfH.prod (H : LfH p n xs vs bs) (k : Nat) {i j : Nat} (hi : i < n) (hj : j < n) : -80000000000 ≤ xs.getD (i * n + j) 0 * (solL p n vs (lfS p n xs vs bs k).2).getD j 0 ∧ xs.getD (i * n + j) 0 * (solL p n vs (lfS p n xs vs bs k).2).getD j 0 ≤ 80000000000 := by
  have h1 := mx_nums H.hx H.nx hi hj
  have h2 := solL_can (p := p) (by have := H.lo; omega) (n := n) (vs := vs) (bs := (lfS p n xs vs bs k).2) hj
  have := H.hi
  have h3 := mul_abs (A := 400000000) (B := 200) h1 (show -200 ≤ (solL p n vs (lfS p n xs vs bs k).2).getD j 0 ∧ _ ≤ 200 by omega)
  unfold mxC at h3
  omega
theorem LfH.quo (H : LfH p n xs vs bs) (k : Nat) {i : Nat} (hi : i < n) : (sF n xs (solL p n vs (lfS p n xs vs bs k).2) (lfS p n xs vs bs k).2 i n).tdiv p = (lfS p n xs vs bs (k + 1)).2.getD i 0 := by
  rw [lfS_r]
  exact lf_tdiv H.inv _ hi
theorem LfH.next (H : LfH p n xs vs bs) {k : Nat} (hk : k < lfK p) {i : Nat} (hi : i < n) : (lfS p n xs vs bs (k + 1)).1.getD i 0 = (lfS p n xs vs bs k).1.getD i 0 + p ^ k * (solL p n vs (lfS p n xs vs bs k).2).getD i 0 ∧ (0 ≤ (lfS p n xs vs bs k).1.getD i 0 ∧ (lfS p n xs vs bs k).1.getD i 0 ≤ 400000000) ∧ (0 ≤ p ^ k * (solL p n vs (lfS p n xs vs bs k).2).getD i 0 ∧ p ^ k * (solL p n vs (lfS p n xs vs bs k).2).getD i 0 ≤ 400000000) ∧ (lfS p n xs vs bs (k + 1)).1.getD i 0 ≤ 400000000 := by
  have hp : 0 < p := by have := H.lo; omega
  have c0 := lf_can (bs := bs) hp H.inv k hi
  have c1 := lf_can (bs := bs) hp H.inv (k + 1) hi
  have n0 := lfK_num H.lo H.hi (k := k) (by omega)
  have n1 := lfK_num H.lo H.hi (k := k + 1) (by omega)
  have s := solL_can (p := p) hp (n := n) (vs := vs) (bs := (lfS p n xs vs bs k).2) hi
  have e : (lfS p n xs vs bs (k + 1)).1.getD i 0 = (lfS p n xs vs bs k).1.getD i 0 + p ^ k * (solL p n vs (lfS p n xs vs bs k).2).getD i 0 := by rw [lfS_x, nxX_at hi]
  have h0 := Int.mul_nonneg (show 0 ≤ p ^ k by omega) s.1
  exact ⟨e, ⟨c0.1, by omega⟩, ⟨h0, by omega⟩, by omega⟩
theorem LfH.pow (H : LfH p n xs vs bs) {k : Nat} (hk : k < lfK p) : p ^ k * p = p ^ (k + 1) ∧ 1 ≤ p ^ (k + 1) ∧ p ^ (k + 1) ≤ 400000000 := ⟨(Int.pow_succ p k).symm, lfK_num H.lo H.hi (by omega)⟩
end
end Go.Proofs.YtcapddcmnjeloaaGreatDoor
end

section
/-
  Plain mathematics of chapter 11: a product modulo p and the steps of lifting, as the program makes them.
-/
namespace Go.Proofs.YtcapddcmnjeloaaGreatDoor
theorem svF_go {p : Int} (hp : 0 < p) (n : Nat) (vs bs : List Int) (i j : Nat) : Int.tmod (svF p n vs bs i j + Int.tmod (vs.getD (i * n + j) 0 * bs.getD j 0) p + p) p = svF p n vs bs i (j + 1) := by
  obtain ⟨h1, h2⟩ := svF_can hp n vs bs i j
  rw [svF_step]
  have e := Int.mul_tdiv_add_tmod (vs.getD (i * n + j) 0 * bs.getD j 0) p
  have l1 : -p < Int.tmod (vs.getD (i * n + j) 0 * bs.getD j 0) p ∧ Int.tmod (vs.getD (i * n + j) 0 * bs.getD j 0) p < p := ⟨Int.lt_tmod_of_pos _ hp, Int.tmod_lt_of_pos _ hp⟩
  rw [Int.tmod_eq_emod_of_nonneg (by omega)]
  refine Cg.emod_eq hp ?_
  have c1 : Cg p (Int.tmod (vs.getD (i * n + j) 0 * bs.getD j 0) p) (vs.getD (i * n + j) 0 * bs.getD j 0) := ⟨-(Int.tdiv (vs.getD (i * n + j) 0 * bs.getD j 0) p), by rw [Int.mul_neg]; omega⟩
  have c2 : Cg p (vs.getD (i * n + j) 0 * (bs.getD j 0 % p)) (vs.getD (i * n + j) 0 * bs.getD j 0) := (Cg.emod p _).mul_left _
  have c3 : Cg p (svF p n vs bs i j + Int.tmod (vs.getD (i * n + j) 0 * bs.getD j 0) p + p) (svF p n vs bs i j + Int.tmod (vs.getD (i * n + j) 0 * bs.getD j 0) p) := ⟨1, by omega⟩
  exact c3.trans ((Cg.refl p _).add (c1.trans c2.symm))
def rtL (n : Nat) (xs ds rs new : List Int) (i j : Nat) : List Int := (twL n new rs i).set i (sF n xs ds rs i j)
section
variable {n i j : Nat} {xs ds rs new : List Int}
theorem rtL_length : (rtL n xs ds rs new i j).length = n := by simp [rtL, twL_length]
theorem rtL_at (hi : i < n) : (rtL n xs ds rs new i j).getD i 0 = sF n xs ds rs i j := by
  simp [rtL, List.getD, twL_length, hi]
theorem rtL_zero : rtL n xs ds rs new i 0 = twL n new rs i := by
  unfold rtL
  rw [sF_zero]
  refine List.ext_getElem (by simp) fun a h1 h2 => ?_
  by_cases e : i = a
  · subst e
    rw [List.getElem_set_self]
    simp [twL]
  · rw [List.getElem_set_ne e]
theorem rtL_set : (rtL n xs ds rs new i j).set i (sF n xs ds rs i (j + 1)) = rtL n xs ds rs new i (j + 1) := by
  unfold rtL
  rw [List.set_set]
theorem rtL_end : (rtL n xs ds rs new i j).set i (new.getD i 0) = twL n new rs (i + 1) := by
  unfold rtL
  rw [List.set_set]
  exact twL_set
end
theorem lf_goP {p P : Int} (h1 : 101 ≤ p) (h2 : p ≤ 199) : P ≤ Int.tdiv 400000000 p ↔ LfGo p P := by
  have e : Int.tdiv 400000000 p = 400000000 / p := Int.tdiv_eq_ediv_of_nonneg (by decide)
  have b : 400000000 / p ≤ 200000000 := by
    have : 400000000 / p < 200000001 := Int.ediv_lt_of_lt_mul (by omega) (by omega)
    omega
  rw [e]
  unfold LfGo
  constructor
  · intro h; exact ⟨by omega, h⟩
  · intro h; exact h.2
end Go.Proofs.YtcapddcmnjeloaaGreatDoor
end

section
/-
  Chapter 3, in the program: IsMatrix.
-/
namespace Go.Proofs.YtcapddcmnjeloaaGreatDoor
open Go.RowKit
theorem iSize_t (n : Int) (w : World) (h1 : 0 ≤ n) (h2 : n ≤ 24) :
    Calls Tryz.prog 87 #[.int .i64 n] w fun e w' => e = .returned (.bool true) ∧ w = w' := by
  go_enter Tryz.func87, Tryz.ntmps87
  go_wp2
  go_ret
  exact ⟨rfl, rfl⟩
theorem iSize_f (n : Int) (w : World) (h : n < 0 ∨ 24 < n) :
    Calls Tryz.prog 87 #[.int .i64 n] w fun e w' => e = .returned (.bool false) ∧ w = w' := by
  by_cases h1 : 0 ≤ n
  · have h2 : decide (n ≤ 24) = false := by simp; omega
    go_enter Tryz.func87, Tryz.ntmps87
    go_wp2
    go_ret
    exact ⟨rfl, rfl⟩
  · go_enter Tryz.func87, Tryz.ntmps87
    go_wp2
    go_ret
    exact ⟨rfl, rfl⟩
theorem iSize (n : Int) (w : World) :
    Calls Tryz.prog 87 #[.int .i64 n] w fun e w' => e = .returned (.bool (decide (SizeP n))) ∧ w = w' := by
  by_cases h : SizeP n
  · rw [decide_eq_true h]; exact iSize_t n w h.1 h.2
  · rw [decide_eq_false h]; exact iSize_f n w (by unfold SizeP at h; omega)
theorem iIsNum (n : Int) (w : World) :
    Calls Tryz.prog 90 #[.int .i64 n] w fun e w' => e = .returned (.bool (decide (NumP n))) ∧ w = w' := by
  by_cases h : NumP n
  · rw [decide_eq_true h]; exact iIsNum_t n w h.1 h.2
  · rw [decide_eq_false h]; exact iIsNum_f n w (by unfold NumP at h; omega)
theorem iStep (b : Bool) (i j z : Int) (w : World) :
    Calls Tryz.prog 89 #[.bool b, .int .i64 i, .int .i64 j, .int .i64 z] w fun e w' => e = .returned (.bool (b && decide (NumP z))) ∧ w = w' := by
  cases b
  · go_enter Tryz.func89, Tryz.ntmps89
    go_wp2_with fail
    go_ret
    exact ⟨rfl, rfl⟩
  · go_enter Tryz.func89, Tryz.ntmps89
    go_wp2_with fail
    refine (iIsNum z _).mono ?_
    rintro e w' ⟨rfl, rfl⟩
    go_wp2_with fail
    go_ret
    exact ⟨rfl, rfl⟩
theorem take_nums (zs : List Int) (k : Nat) (hk : k < zs.length) : nums (zs.take (k + 1)) = (nums (zs.take k) && decide (NumP (zs.getD k 0))) := by
  unfold nums
  rw [List.take_succ_eq_append_getElem hk, List.all_append]
  simp only [List.all_cons, List.all_nil, Bool.and_true, List.getD, List.getElem?_eq_getElem hk, Option.getD_some]
set_option maxHeartbeats 400000 in
theorem iFoldB (r c : Int) (a : Option Addr) (cap : Nat) (zs : List Int) (w : World) (h : Rd w a zs) (hn : zs.length ≤ 16777216) (hc : zs.length = 0 ∨ 0 < c) :
    Calls Tryz.prog 88 #[.agg #[.int .i64 r, .int .i64 c, .slice a zs.length cap], .bool true, .func (.func 89) #[] #[]] w (Gives (.bool (nums zs)) w) := by
  have B0 : ∀ o, Below w.heap.size w (w.alloc o) := fun o => (Below.refl _ _).alloc (Nat.le_refl _) o
  have BH := Lib.hid B0
  have H := Lib.hid h
  obtain ⟨n, hnn⟩ : ∃ n, zs.length = n := ⟨_, rfl⟩
  have HN := Lib.hid hnn
  rw [hnn] at hn hc ⊢
  clear h B0 hnn
  go_enter Tryz.func88, Tryz.ntmps88
  go_wp2_with fail
  go_loopw [7, 8, 9, 14] (fun b _ _ i wr => ∃ k : Nat, i = .int .i64 k ∧ k ≤ n ∧ b = .bool (nums (zs.take k)) ∧ ∃ q, wr = (w.alloc (.cells #[.int .i64 r, .int .i64 c, .slice a n cap] 26)).drewN q) (fun _ _ _ i _ => n - (intOf i).toNat)
  case atStart => exact ⟨0, rfl, by omega, rfl, 0, rfl⟩
  case round =>
    obtain ⟨k, rfl, hk, rfl, q, rfl⟩ := hrel
    by_cases hlt : k < n
    · have c0 : (c == 0) = false := by simp; omega
      obtain ⟨b, o, rfl, hcell⟩ := (H.out.below (BH.out (.cells #[.int .i64 r, .int .i64 c, .slice a n cap] 26))) k (by rw [HN.out]; exact hlt)
      obtain ⟨z, hz⟩ : ∃ z, zs.getD k 0 = z := ⟨_, rfl⟩
      obtain ⟨bb, hbb⟩ : ∃ bb, nums (zs.take k) = bb := ⟨_, rfl⟩
      rw [hz] at hcell
      have Z := Lib.hid hz
      have BB := Lib.hid hbb
      rw [hbb]
      clear hz hbb
      go_wp2_with fail
      go_quiet ((refine (iStep _ _ _ _ _).mono ?_; rintro e w' ⟨rfl, rfl⟩; exact ⟨rfl, _, rfl⟩))
      go_wp2_with fail
      go_roundw
      case rel => exact ⟨k + 1, by go_num, by omega, by rw [take_nums zs k (by rw [HN.out]; exact hlt), BB.out, Z.out], _, rfl⟩
      case measure => simp [intOf]; omega
    · have hkn : k = n := by omega
      subst hkn
      have E : Hid (nums (zs.take k) = nums zs) := by show nums (zs.take k) = nums zs; rw [← HN.out, List.take_length]
      go_wp2_with fail
      go_ret
      exact ⟨by rw [E.out]; rfl, below_drewN (BH.out _) q⟩
set_option maxHeartbeats 400000 in
theorem iIsMat (r c : Int) (a : Option Addr) (cap : Nat) (zs : List Int) (w : World) (h : Rd w a zs) (hn : zs.length ≤ 16777216) :
    Calls Tryz.prog 43 #[.agg #[.int .i64 r, .int .i64 c, .slice a zs.length cap]] w (Gives (.bool (isMat r c zs)) w) := by
  have B0 : ∀ o, Below w.heap.size w (w.alloc o) := fun o => (Below.refl _ _).alloc (Nat.le_refl _) o
  have BH := Lib.hid B0
  have H := Lib.hid h
  clear h B0
  obtain ⟨n, hnn⟩ : ∃ n, zs.length = n := ⟨_, rfl⟩
  have HN := Lib.hid hnn
  have ED : isMat r c zs = (decide (SizeP r) && decide (SizeP c) && decide ((n : Int) = r * c) && nums zs) := by unfold isMat; rw [hnn]
  have E := Lib.hid ED
  rw [hnn] at hn ⊢
  clear hnn ED
  by_cases hr : 0 ≤ r ∧ r ≤ 24
  · by_cases hc : 0 ≤ c ∧ c ≤ 24
    · obtain ⟨m1, m2⟩ := mul_size r c hr hc
      by_cases hl : (n : Int) = r * c
      · have l1 : ((n : Int) != r * c) = false := by simpa using hl
        have l2 : ((n : Int) == r * c) = true := by simpa using hl
        have E2 : Hid (isMat r c zs = nums zs) := by
          show isMat r c zs = nums zs
          rw [E.out, show decide (SizeP r) = true from decide_eq_true hr, show decide (SizeP c) = true from decide_eq_true hc, show decide ((n : Int) = r * c) = true from decide_eq_true hl]; rfl
        have hz : zs.length = 0 ∨ 0 < c := by
          rw [HN.out]
          rcases Nat.eq_zero_or_pos n with e | e
          · exact .inl e
          · right
            rcases Int.lt_or_lt_of_ne (a := c) (b := 0) (fun e0 => by rw [e0, Int.mul_zero] at hl; omega) with h | h <;> omega
        have HZ := Lib.hid hz
        clear hl hz
        obtain ⟨r1, r2⟩ := hr
        obtain ⟨c1, c2⟩ := hc
        go_enter Tryz.func43, Tryz.ntmps43
        go_wp2_with (go_at_call 87; refine (iSize_t _ _ (by omega) (by omega)).mono ?_; rintro e w' ⟨rfl, rfl⟩)
        have ST := iFoldB r c a cap zs _ (H.out.below (BH.out (.cells #[.int .i64 r, .int .i64 c, .slice a n cap] 26))) (by rw [HN.out]; exact hn) HZ.out
        rw [HN.out] at ST
        refine ST.mono ?_
        clear ST
        rintro e w' ⟨rfl, hb⟩
        have HB := Lib.hid ((BH.out _).trans (hb.mono (BH.out (.cells #[.int .i64 r, .int .i64 c, .slice a n cap] 26)).size))
        clear hb
        go_wp2_with fail
        go_ret
        exact ⟨by rw [E2.out]; rfl, HB.out⟩
      · have l1 : ((n : Int) != r * c) = true := by simpa using hl
        have l2 : ((n : Int) == r * c) = false := by simpa using hl
        have E2 : Hid (isMat r c zs = false) := by
          show isMat r c zs = false
          rw [E.out, show decide ((n : Int) = r * c) = false from decide_eq_false hl]; simp
        clear hl
        obtain ⟨r1, r2⟩ := hr
        obtain ⟨c1, c2⟩ := hc
        go_enter Tryz.func43, Tryz.ntmps43
        go_wp2_with (go_at_call 87; refine (iSize_t _ _ (by omega) (by omega)).mono ?_; rintro e w' ⟨rfl, rfl⟩)
        go_ret
        exact ⟨by rw [E2.out]; rfl, BH.out _⟩
    · have E2 : Hid (isMat r c zs = false) := by
        show isMat r c zs = false
        rw [E.out, show decide (SizeP c) = false from decide_eq_false hc]; simp
      have hc' : c < 0 ∨ 24 < c := by omega
      clear hc
      go_enter Tryz.func43, Tryz.ntmps43
      go_wp2_with fail
      refine (iSize_t r _ hr.1 hr.2).mono ?_
      rintro e w' ⟨rfl, rfl⟩
      go_wp2_with fail
      refine (iSize_f c _ hc').mono ?_
      rintro e w' ⟨rfl, rfl⟩
      go_wp2_with fail
      go_ret
      exact ⟨by rw [E2.out]; rfl, BH.out _⟩
  · have E2 : Hid (isMat r c zs = false) := by
      show isMat r c zs = false
      rw [E.out, show decide (SizeP r) = false from decide_eq_false hr]; simp
    have hr' : r < 0 ∨ 24 < r := by omega
    clear hr
    go_enter Tryz.func43, Tryz.ntmps43
    go_wp2_with fail
    refine (iSize_f r _ hr').mono ?_
    rintro e w' ⟨rfl, rfl⟩
    go_wp2_with fail
    go_ret
    exact ⟨by rw [E2.out]; rfl, BH.out _⟩
end Go.Proofs.YtcapddcmnjeloaaGreatDoor
end

section
/-
  Chapter 3, in the program: a row that shares its memory with the matrix.
-/
namespace Go.Proofs.YtcapddcmnjeloaaGreatDoor
set_option maxRecDepth 100000
open Go.RowKit
def rwL (c : Nat) (v : Nat → Int) : List Int := (List.range c).map v
theorem rwL_length (c : Nat) (v : Nat → Int) : (rwL c v).length = c := by simp [rwL]
theorem rwL_at {c : Nat} {v : Nat → Int} {j : Nat} (hj : j < c) : (rwL c v).getD j 0 = v j := by simp [rwL, List.getD, hj]
def RowAt (q : Option Addr) (D c : Nat) (w : World) (e : Ending) (w' : World) : Prop :=
  ∃ (q' : Option Addr) (m' : Nat), e = .returned (.slice q' c m') ∧ c ≤ m' ∧ (∀ g o : Nat, q = some ⟨g, o, none⟩ → 0 < c → q' = some ⟨g, o + D, none⟩) ∧ (q = none → q' = none) ∧ Below w.heap.size w w'
theorem Rd.row {w : World} {q q' : Option Addr} {xs : List Int} {r c i : Nat} (h : Rd w q xs) (hx : xs.length = r * c) (hi : i < r) (hq : ∀ g o : Nat, q = some ⟨g, o, none⟩ → 0 < c → q' = some ⟨g, o + i * c, none⟩) : Rd w q' (rwL c (mxC c xs i)) := fun j hj => by
  rw [rwL_length] at hj
  obtain ⟨b, o, ha, hc⟩ := h (i * c + j) (by rw [hx]; exact idx_lt hi hj)
  refine ⟨b, o + i * c, hq b o ha (by omega), ?_⟩
  rw [rwL_at hj, Nat.add_assoc]
  exact hc
set_option maxHeartbeats 1000000 in
theorem iRowIn (r c i D N cap : Nat) (q : Option Addr) (w : World) (hq : Spot q) (hD : i * c = D) (hN : D + c ≤ N) (hc : N ≤ cap) (hn : q = none → cap = 0) (h1 : N ≤ 600) (hi : i ≤ 600) :
    Calls Tryz.prog 44 #[.agg #[.int .i64 r, .int .i64 c, .slice q N cap], .int .i64 i] w (RowAt q D c w) := by
  have u1 : (i : Int) * (c : Int) = (D : Int) := by rw [← hD]; exact (Int.natCast_mul _ _).symm
  have u2 : ((i : Int) + 1) * (c : Int) = ((D + c : Nat) : Int) := by rw [Int.add_mul, Int.one_mul, u1]; rfl
  have v1 : IntKind.i64.wrap ((i : Int) * (c : Int)) = (D : Int) := by rw [u1]; exact IntWalk.i64_in _ (by omega)
  have v2 : IntKind.i64.wrap ((i : Int) + 1) = (i : Int) + 1 := IntWalk.i64_in _ (by omega)
  have v3 : IntKind.i64.wrap (((i : Int) + 1) * (c : Int)) = ((D + c : Nat) : Int) := by rw [u2]; exact IntWalk.i64_in _ (by omega)
  have Z : Hid (c = 0 → D = 0) := fun h => by rw [← hD, h, Nat.mul_zero]
  have Dm : D + c ≤ cap := by omega
  have K0 : Hid (Blk3 (w.alloc (.cells #[.int .i64 r, .int .i64 c, .slice q N cap] 26)) w.heap.size 26 (.int .i64 r) (.int .i64 c) (.slice q N cap)) := Blk3.at_ _ _ _ _ rfl
  have B : Hid (Below w.heap.size w (w.alloc (.cells #[.int .i64 r, .int .i64 c, .slice q N cap] 26))) := (Below.refl _ _).alloc (Nat.le_refl _) _
  clear hD u1 u2
  rcases hq with rfl | ⟨g, o, rfl⟩
  · obtain rfl : cap = 0 := hn rfl
    obtain rfl : c = 0 := by omega
    obtain rfl : D = 0 := by omega
    obtain rfl : N = 0 := by omega
    go_enter Tryz.func44, Tryz.ntmps44
    go_wp2_with fail
    exact bodyPost_ret (v := .slice none 0 0) (by simp [results, Tryz.results44, go_sem]) rfl ⟨none, 0, rfl, Nat.le_refl _, (fun g o h => by cases h), (fun _ => rfl), B.out⟩
  · rcases Nat.lt_or_ge D cap with hlt | hge
    · go_enter Tryz.func44, Tryz.ntmps44
      go_wp2_with fail
      rw [show D + c - D = c by omega]
      exact bodyPost_ret (v := .slice (some ⟨g, o + D, none⟩) c (cap - D)) (by simp [results, Tryz.results44, go_sem]) rfl ⟨_, _, rfl, by omega, (fun g' o' h _ => by injection h with h; injection h with h1 h2; rw [h1, h2]), (fun h => by cases h), B.out⟩
    · obtain rfl : c = 0 := by omega
      obtain rfl : D = 0 := Z.out rfl
      obtain rfl : cap = 0 := by omega
      obtain rfl : N = 0 := by omega
      go_enter Tryz.func44, Tryz.ntmps44
      go_wp2_with fail
      exact bodyPost_ret (v := .slice (some ⟨g, o, none⟩) 0 0) (by simp [results, Tryz.results44, go_sem]) rfl ⟨_, _, rfl, Nat.le_refl _, (fun g' o' h h0 => by omega), (fun h => by cases h), B.out⟩
end Go.Proofs.YtcapddcmnjeloaaGreatDoor
end

section
/-
  The builtin copy over ints in memory; rows laid over rows. No function of the program is named.
-/
namespace Go.Proofs.YtcapddcmnjeloaaGreatDoor
set_option maxRecDepth 100000
open Go.RowKit
theorem getD_three {A B C : List Int} {s m k : Nat} (ha : A.length = s) (hb : B.length = m) : (A ++ B ++ C).getD k 0 = if k < s then A.getD k 0 else if k < s + m then B.getD (k - s) 0 else C.getD (k - s - m) 0 := by
  subst ha hb
  simp only [List.getD, List.getElem?_append, List.length_append]
  by_cases h1 : k < A.length
  · rw [if_pos h1, if_pos (by omega), if_pos h1]
  · rw [if_neg h1]
    by_cases h2 : k < A.length + B.length
    · rw [if_pos h2, if_pos h2, if_neg h1]
    · rw [if_neg h2, if_neg h2, if_neg h1]; try rw [Nat.sub_add_eq]
theorem splice_tab {r c i o m : Nat} {f g : Nat → Nat → Int} {ys : List Int} (hi : i < r) (ho : o + m ≤ c) (hy : ys.length = m) (h1 : ∀ b, o ≤ b → b < o + m → g i b = ys.getD (b - o) 0) (h2 : ∀ a b, a < r → b < c → ¬ (a = i ∧ o ≤ b ∧ b < o + m) → g a b = f a b) :
    (tab r c f).take (i * c + o) ++ ys ++ (tab r c f).drop (i * c + o + m) = tab r c g := by
  have hic : i * c + c ≤ r * c := by rw [← Nat.succ_mul]; exact Nat.mul_le_mul_right _ hi
  have lt : ((tab r c f).take (i * c + o)).length = i * c + o := by rw [List.length_take, tab_length]; omega
  refine tab_ext (by rw [List.length_append, List.length_append, lt, hy, List.length_drop, tab_length]; omega) fun a b ha hb => ?_
  rw [getD_three lt hy]
  have hk := idx_lt (r := r) ha hb
  by_cases e : a = i
  · subst e
    by_cases hb1 : b < o
    · rw [if_pos (by omega), h2 a b ha hb (by omega), ← tab_at r c f ha hb]
      simp only [List.getD]
      rw [List.getElem?_take, if_pos (by omega)]
    · by_cases hb2 : b < o + m
      · rw [if_neg (by omega), if_pos (by omega), h1 b (by omega) hb2]
        congr 1; omega
      · rw [if_neg (by omega), if_neg (by omega), h2 a b ha hb (by omega), ← tab_at r c f ha hb]
        simp only [List.getD]
        rw [List.getElem?_drop]
        congr 2; omega
  · rw [h2 a b ha hb (by omega), ← tab_at r c f ha hb]
    rcases Nat.lt_or_ge a i with h3 | h3
    · have : a * c + c ≤ i * c := by rw [← Nat.succ_mul]; exact Nat.mul_le_mul_right _ h3
      rw [if_pos (by omega)]
      simp only [List.getD]
      rw [List.getElem?_take, if_pos (by omega)]
    · have : i * c + c ≤ a * c := by rw [← Nat.succ_mul]; exact Nat.mul_le_mul_right _ (by omega)
      rw [if_neg (by omega), if_neg (by omega)]
      simp only [List.getD]
      rw [List.getElem?_drop]
      congr 2; omega
theorem wdTo_lay {p : Int} {n : Nat} {xs ys : List Int} {i : Nat} (hi : i < n) (hy : ys.length = n) (h : ∀ b, b < n → ys.getD b 0 = (resL p xs).getD (i * n + b) 0) : (wdTo p n xs i 0).take (i * (2 * n)) ++ ys ++ (wdTo p n xs i 0).drop (i * (2 * n) + n) = wdTo p n xs i n := by
  refine splice_tab (o := 0) hi (by omega) hy (fun b _ hb => ?_) fun a b ha hb hn => ?_
  · rw [if_pos (by omega), h (b - 0) (by omega)]
    unfold wdF
    rw [if_pos (by omega)]; rfl
  · by_cases h1 : a < i ∨ (a = i ∧ b < 0)
    · rw [if_pos h1, if_pos (by omega)]
    · rw [if_neg h1, if_neg (by omega)]
theorem hfTo_lay {n : Nat} {zs ys : List Int} {i : Nat} (hi : i < n) (hy : ys.length = n) (h : ∀ b, b < n → ys.getD b 0 = zs.getD (i * (2 * n) + (n + b)) 0) : (hfTo n zs i 0).take (i * n) ++ ys ++ (hfTo n zs i 0).drop (i * n + n) = hfTo n zs (i + 1) 0 := by
  refine splice_tab (o := 0) hi (by omega) hy (fun b _ hb => ?_) fun a b ha hb hn => ?_
  · rw [if_pos (by omega), h (b - 0) (by omega)]; rfl
  · by_cases h1 : a < i ∨ (a = i ∧ b < 0)
    · rw [if_pos h1, if_pos (by omega)]
    · rw [if_neg h1, if_neg (by omega)]
theorem copyInts (w : World) (g off dLen dCap m sCap : Nat) (sp : Option Addr) (zs ys : List Int) (hi : Ints w g zs) (h : Rd w sp ys) (hy : ys.length = m) (hm : 0 < m) (hd : m ≤ dLen) (hfit : off + m ≤ zs.length) (ty : TypeId) :
    ∃ w', (Builtin.copy_ #[24, 24] ty #[.slice (some ⟨g, off, none⟩) dLen dCap, .slice sp m sCap]).run Tryz.prog w = .ok (goInt m) w' ∧ Ints w' g (zs.take off ++ ys ++ zs.drop (off + m)) ∧ w.grownBy w' (some g) := by
  obtain ⟨gs, os, rfl⟩ := h.addr (by omega)
  obtain ⟨rest, hg⟩ := hi
  obtain ⟨fi, hfi, hz0, hz1, hz2⟩ := facts_int
  have hsz : (Tryz.prog.info? 3).map (·.size) = some 1 := by rw [hfi]; simp [hz1]
  have hl : (ys.map (Value.int .i64)).length = m := by rw [List.length_map, hy]
  have news : ∀ (j : Nat) v, (ys.map (Value.int .i64))[j]? = some v → w.cell? ((⟨gs, os, none⟩ : Addr).add j) = some v := by
    intro j u hu
    rw [List.getElem?_map] at hu
    obtain ⟨z, hz, rfl⟩ := Option.map_eq_some_iff.mp hu
    obtain ⟨h1, h2⟩ := List.getElem?_eq_some_iff.mp hz
    obtain ⟨b', o', e, hc⟩ := h j h1
    injection e with e
    injection e with e1 e2
    subst e1 e2
    rw [show (⟨gs, os, none⟩ : Addr).add j = ⟨gs, os + j, none⟩ by simp only [Addr.add]; split <;> simp_all, hc]
    simp [List.getD, hz]
  have hrun := run_copy_row (P := Tryz.prog) w 24 24 ty 3 g off dLen dCap ⟨gs, os, none⟩ m sCap _ 3 (ys.map (Value.int .i64)) Tryz.underlying24 hsz hg (by rw [hl]; show m = min m dLen; omega) news (by rw [hl]; simp; omega) (fun v hv => by
    obtain ⟨z, -, rfl⟩ := List.mem_map.mp hv
    rfl)
  rw [hl] at hrun
  refine ⟨_, hrun, ⟨rest, ?_⟩, ⟨rfl, rfl, rfl, by simp [World.setRow], fun k hk hne => setRow_other w g k _ (fun e => hne (by rw [e]))⟩⟩
  rw [setRow_heap w g _ _ 3 _ hg]
  congr 2
  simp only [List.map_append, List.map_take, List.map_drop, List.append_assoc]
  rw [List.take_append_of_le_length (by rw [List.length_map]; omega), List.drop_append_of_le_length (by rw [List.length_map]; omega)]
theorem step_copy {P : Program} {ops : Array Oper} {o : Oper} {a : Act} {w : World} {K : Act → World → Prop} {Q : Exit → Act → World → Prop} {E : Prop}
    (hg : o.guard = none) (s x : Operand) (t : TypeId) (hop : o.op = Op.call { callee := Callee.builtin Builtin.copy, args := #[s, x], argTypes := #[t, t] }) (v1 v2 : Value) (hs : a.eval s = v1) (hx : a.eval x = v2) (v' : Value) (w' : World)
    (hr : (Builtin.copy_ #[t, t] o.type #[v1, v2]).run P w = .ok v' w') (hK : K (a.put o.dst v') w') : if Region.wanted o (yielded ops a.tmps) = true then Oper.wp P o a w K Q else E := by
  have hw : Region.wanted o (yielded ops a.tmps) = true := by simp [Region.wanted, hg]
  rw [if_pos hw]
  unfold Oper.wp
  simp [execOp, hop, resolve, invoke, builtin, hs, hx, hr, Result.andThen]
  exact hK
theorem wpList_copyR {P : Program} {w : World} {ops : Array Oper} {rest : List Oper} {o : Oper} {a : Act} {Q : Exit → Act → World → Prop} (hgd : o.guard = none) (d s : Operand) (t : TypeId)
    (ho : o.op = .call { callee := .builtin .copy, args := #[d, s], argTypes := #[t, t] }) (v1 v2 : Value) (hd : a.eval d = v1) (hs : a.eval s = v2) (v' : Value) (w' : World) (hr : (Builtin.copy_ #[t, t] o.type #[v1, v2]).run P w = .ok v' w')
    (h : wpList P ops Q rest (a.put o.dst v') w') : wpList P ops Q (o :: rest) a w := by
  refine wpList_plain hgd fun K hK => ?_
  unfold Oper.wp
  simp [execOp, ho, resolve, invoke, builtin, hd, hs, hr, Result.andThen]
  exact hK _ _ h
end Go.Proofs.YtcapddcmnjeloaaGreatDoor
end

section
/-
  Chapter 8, in the program: the iterator over primes; IsPrime.
-/
namespace Go.Proofs.YtcapddcmnjeloaaGreatDoor
set_option maxRecDepth 100000
open Go.RowKit Go.Shelf
def prmTo (n : Nat) : List Int := ((List.range n).filter fun (q : Nat) => prmB (q : Int)).map fun (q : Nat) => (q : Int)
theorem prmTo_succ (n : Nat) : prmTo (n + 1) = if prmB (n : Int) = true then prmTo n ++ [(n : Int)] else prmTo n := by
  unfold prmTo
  rw [List.range_succ, List.filter_append, List.map_append]
  by_cases h : prmB (n : Int) = true
  · rw [if_pos h]; simp [h]
  · rw [if_neg h]; simp [h]
theorem prmTo_mem {n : Nat} {x : Int} : x ∈ prmTo n ↔ ∃ q : Nat, x = q ∧ q < n ∧ prmB (q : Int) = true := by
  unfold prmTo
  simp only [List.mem_map, List.mem_filter, List.mem_range]
  exact ⟨fun ⟨q, ⟨h1, h2⟩, e⟩ => ⟨q, e.symm, h1, h2⟩, fun ⟨q, e, h1, h2⟩ => ⟨q, ⟨h1, h2⟩, e.symm⟩⟩
theorem prmTo_two : prmTo 2 = [] := by decide
theorem prmTo_length (n : Nat) : (prmTo n).length ≤ n := by
  unfold prmTo
  rw [List.length_map]
  exact Nat.le_trans (List.length_filter_le _ _) (by simp)
theorem least_div : ∀ n d : Nat, 2 ≤ d → d ∣ n → 0 < n → ∃ q : Nat, 2 ≤ q ∧ q ≤ d ∧ q ∣ n ∧ ∀ e : Nat, 2 ≤ e → e < q → ¬ e ∣ n := by
  intro n d
  induction d using Nat.strongRecOn with
  | ind d ih =>
    intro hd hdv hn
    by_cases h : ∃ e, 2 ≤ e ∧ e < d ∧ e ∣ n
    · obtain ⟨e, e1, e2, e3⟩ := h
      obtain ⟨q, q1, q2, q3⟩ := ih e e2 e1 e3 hn
      exact ⟨q, q1, by omega, q3⟩
    · exact ⟨d, hd, Nat.le_refl _, hdv, fun e e1 e2 e3 => h ⟨e, e1, e2, e3⟩⟩
theorem prm_of_least {n q : Nat} (h1 : 2 ≤ q) (h2 : q ≤ 10000) (h3 : q ∣ n) (h4 : ∀ e : Nat, 2 ≤ e → e < q → ¬ e ∣ n) : prmB (q : Int) = true := by
  refine prmB_true ⟨by omega, by omega⟩ fun d hd hdd hdv => ?_
  have e1 : d ∣ q := Int.natCast_dvd_natCast.mp hdv
  have e2 : d * d ≤ q := by rw [← Int.natCast_mul] at hdd; omega
  have e3 : d < q := by
    have : 2 * d ≤ d * d := Nat.mul_le_mul_right d hd
    omega
  exact h4 d hd e3 (Nat.dvd_trans e1 h3)
theorem prm_iff {n : Nat} (h1 : 2 ≤ n) (h2 : n ≤ 10000) : prmB (n : Int) = true ↔ ∀ x ∈ prmTo n, (n : Int) % x ≠ 0 := by
  constructor
  · intro hp x hx he
    obtain ⟨q, rfl, hq, hqp⟩ := prmTo_mem.mp hx
    have hq2 := (prmB_says hqp).1.1
    have hdv : q ∣ n := Int.natCast_dvd_natCast.mp (Int.dvd_of_emod_eq_zero he)
    obtain ⟨m, hm⟩ := hdv
    obtain ⟨pp, -⟩ := prmB_says hp
    have hm2 : 2 ≤ m := by
      rcases Nat.lt_or_ge m 2 with h | h
      · have : m = 0 ∨ m = 1 := by omega
        rcases this with rfl | rfl
        · omega
        · omega
      · exact h
    rcases Nat.le_total q m with h | h
    · refine pp.2 q (by omega) ?_ ⟨m, by rw [hm, Int.natCast_mul]⟩
      rw [hm, ← Int.natCast_mul]
      exact Int.ofNat_le.mpr (Nat.mul_le_mul_left q h)
    · refine pp.2 m (by omega) ?_ ⟨q, by rw [hm, Int.natCast_mul, Int.mul_comm]⟩
      rw [hm, ← Int.natCast_mul]
      exact Int.ofNat_le.mpr (Nat.mul_le_mul_right m h)
  · intro h
    obtain ⟨q, q1, q2, q3, q4⟩ := least_div n n h1 (Nat.dvd_refl n) (by omega)
    have hq := prm_of_least q1 (by omega) q3 q4
    rcases Nat.lt_or_ge q n with h3 | h3
    · exact absurd (Int.emod_eq_zero_of_dvd (Int.natCast_dvd_natCast.mpr q3)) (h q (prmTo_mem.mpr ⟨q, rfl, h3, hq⟩))
    · obtain rfl : q = n := by omega
      exact hq
theorem not_prm {p : Int} (h1 : 2 ≤ p) (h2 : p ≤ 10000) (h : prmB p = false) : ∃ q : Nat, q < 10001 ∧ prmB (q : Int) = true ∧ (q : Int) * (q : Int) ≤ p ∧ p % (q : Int) = 0 := by
  obtain ⟨n, rfl⟩ := Int.eq_ofNat_of_zero_le (show 0 ≤ p by omega)
  have hx : ¬ ∀ d : Nat, 2 ≤ d → (d : Int) * (d : Int) ≤ (n : Int) → ¬ (d : Int) ∣ (n : Int) := fun h3 => by
    rw [prmB_true ⟨h1, h2⟩ h3] at h; cases h
  have : ∃ d : Nat, 2 ≤ d ∧ (d : Int) * (d : Int) ≤ (n : Int) ∧ (d : Int) ∣ (n : Int) := Classical.byContradiction fun hn => hx fun d e1 e2 e3 => hn ⟨d, e1, e2, e3⟩
  obtain ⟨d, d1, d2, d3⟩ := this
  obtain ⟨q, q1, q2, q3, q4⟩ := least_div n d d1 (Int.natCast_dvd_natCast.mp d3) (by omega)
  have hqd : q * q ≤ d * d := Nat.mul_le_mul q2 q2
  rw [← Int.natCast_mul] at d2
  have h5 : q ≤ q * q := Nat.le_mul_of_pos_left q (by omega)
  refine ⟨q, by omega, prm_of_least q1 (by omega) q3 q4, by rw [← Int.natCast_mul]; omega, Int.emod_eq_zero_of_dvd (Int.natCast_dvd_natCast.mpr q3)⟩
end Go.Proofs.YtcapddcmnjeloaaGreatDoor
end

section
/-
  Chapter 8, in the program: slices.ContainsFunc with the iterator's test.
-/
namespace Go.Proofs.YtcapddcmnjeloaaGreatDoor
set_option maxRecDepth 100000
open Go.RowKit Go.Shelf
theorem iDivides (n x : Int) (b : Nat) (w : World) (hb : w.cell? ⟨b, 0, none⟩ = some (.int .i64 n)) (hn : 0 ≤ n) (hx : 2 ≤ x) :
    Calls Tryz.prog 105 #[.int .i64 x, .pointer (some ⟨b, 0, none⟩)] w fun e w' => e = .returned (.bool (n % x == 0)) ∧ w = w' := by
  have h0 : (x == 0) = false := by simp; omega
  go_enter Tryz.func105, Tryz.ntmps105
  go_wp2_with fail
  go_ret
  exact ⟨rfl, rfl⟩
set_option maxHeartbeats 1000000 in
theorem iIdx (n : Int) (b m L : Nat) (q : Option Addr) (xs : List Int) (w : World) (h : Rd w q xs) (hL : xs.length = L) (hb : w.cell? ⟨b, 0, none⟩ = some (.int .i64 n)) (hn : 0 ≤ n) (hx : ∀ k, k < L → 2 ≤ xs.getD k 0) (hl : L ≤ 16777216) :
    Calls Tryz.prog 149 #[.slice q L m, .func (.func 105) #[] #[.pointer (some ⟨b, 0, none⟩)]] w fun e w' => ((∃ k : Nat, e = .returned (.int .i64 k) ∧ k < L ∧ n % xs.getD k 0 = 0) ∨ (e = .returned (.int .i64 (-1)) ∧ ∀ k, k < L → n % xs.getD k 0 ≠ 0)) ∧ w = w' := by
  have H := Lib.hid h
  have HX := Lib.hid hx
  have HL := Lib.hid hL
  have HB := Lib.hid hb
  clear h hx hL hb
  go_enter Tryz.func149, Tryz.ntmps149
  go_wp2_with fail
  go_loopw [5, 8] (fun _ v8 wr => ∃ k : Nat, v8 = .int .i64 k ∧ k ≤ L ∧ (∀ i, i < k → n % xs.getD i 0 ≠ 0) ∧ wr = w) (fun _ v8 _ => L - (intOf v8).toNat)
  case atStart => exact ⟨0, rfl, by omega, fun i hi => by omega, rfl⟩
  case round =>
    obtain ⟨k, rfl, hk, hi, rfl⟩ := hrel
    have HI := Lib.hid hi
    clear hi
    by_cases hlt : k < L
    · obtain ⟨g, o, rfl, hc⟩ := H.out k (by rw [HL.out]; exact hlt)
      have hx := HX.out k hlt
      obtain ⟨x, hxx⟩ : ∃ x, xs.getD k 0 = x := ⟨_, rfl⟩
      have X := Lib.hid hxx
      rw [hxx] at hc hx
      clear hxx
      by_cases hz : n % x = 0
      · have hcall := iDivides n x b wr HB.out hn hx
        rw [show (n % x == 0) = true by simp [hz]] at hcall
        go_wp2_with fail
        refine hcall.mono ?_
        rintro e w' ⟨rfl, rfl⟩
        go_wp2_with fail
        go_ret
        exact ⟨.inl ⟨k, rfl, hlt, by rw [X.out]; exact hz⟩, rfl⟩
      · have hcall := iDivides n x b wr HB.out hn hx
        rw [show (n % x == 0) = false by simpa using hz] at hcall
        go_wp2_with fail
        refine hcall.mono ?_
        rintro e w' ⟨rfl, rfl⟩
        go_wp2_with fail
        go_roundw
        case rel => exact ⟨k + 1, by go_num, by omega, fun i hi2 => by
          rcases Nat.lt_or_ge i k with h3 | h3
          · exact HI.out i h3
          · obtain rfl : i = k := by omega
            rw [X.out]; exact hz, trivial⟩
        case measure => simp [intOf]; omega
    · obtain rfl : k = L := by omega
      go_wp2_with fail
      go_ret
      exact ⟨.inr ⟨rfl, HI.out⟩, rfl⟩
theorem iContains (n : Int) (b m L : Nat) (q : Option Addr) (xs : List Int) (w : World) (h : Rd w q xs) (hL : xs.length = L) (hb : w.cell? ⟨b, 0, none⟩ = some (.int .i64 n)) (hn : 0 ≤ n) (hx : ∀ k, k < L → 2 ≤ xs.getD k 0) (hl : L ≤ 16777216) (t : Bool) (ht : t = true ↔ ∃ k, k < L ∧ n % xs.getD k 0 = 0) :
    Calls Tryz.prog 104 #[.slice q L m, .func (.func 105) #[] #[.pointer (some ⟨b, 0, none⟩)]] w fun e w' => e = .returned (.bool t) ∧ w = w' := by
  have hi := Lib.hid (iIdx n b m L q xs w h hL hb hn hx hl)
  clear h hL hb hx
  go_enter Tryz.func104, Tryz.ntmps104
  go_wp2_with fail
  refine hi.out.mono ?_
  rintro e w' ⟨⟨k, rfl, h1, h2⟩ | ⟨rfl, h1⟩, rfl⟩
  · obtain rfl : t = true := ht.mpr ⟨k, h1, h2⟩
    clear ht
    go_wp2_with fail
    go_ret
    exact ⟨rfl, rfl⟩
  · obtain rfl : t = false := by
      cases t with
      | false => rfl
      | true => obtain ⟨k, h2, h3⟩ := ht.mp rfl; exact absurd h3 (h1 k h2)
    clear ht
    go_wp2_with fail
    go_ret
    exact ⟨rfl, rfl⟩
end Go.Proofs.YtcapddcmnjeloaaGreatDoor
end

section
/-
  A range over an iterator that keeps what it knows in cells of its own: the loop's invariant abides whatever happens to blocks that were laid since the loop began. No function of the program is named.
-/
namespace Go.Proofs.YtcapddcmnjeloaaGreatDoor
open Go.RowKit
def AbX {β : Type} (B : Nat) (J : β → World → Prop) : Prop := ∀ s W W' row, J s W → W.grownBy W' row → (∀ r, row = some r → B ≤ r) → J s W'
def KpX (B : Nat) (W W' : World) : Prop := W.heap.size ≤ W'.heap.size ∧ ∀ k, B ≤ k → k < W.heap.size → W'.heap[k]? = W.heap[k]?
theorem KpX.refl (B : Nat) (W : World) : KpX B W W := ⟨Nat.le_refl _, fun _ _ _ => rfl⟩
theorem KpX.trans {B : Nat} {U V W : World} (h : KpX B U V) (h' : KpX B V W) : KpX B U W := ⟨Nat.le_trans h.1 h'.1, fun k hk hl => (h'.2 k hk (Nat.lt_of_lt_of_le hl h.1)).trans (h.2 k hk hl)⟩
theorem KpX.put {B l : Nat} (W : World) (hl : l < B) (o : Obj) : KpX B W (W.putObj l o) := ⟨by simp, fun k hk _ => World.putObj_heap_other (by omega)⟩
theorem KpX.set {B : Nat} (W : World) {a : Addr} (ha : a.block < B) (v : Value) : KpX B W (W.setCell a v) := ⟨by simp [World.setCell], fun k hk _ => Below.heap_setCell W a v k (by omega)⟩
theorem KpX.at_ {B k : Nat} {W W' : World} {o : Obj} (h : KpX B W W') (hk : B ≤ k) (e : W.heap[k]? = some o) : W'.heap[k]? = some o := (h.2 k hk (Array.getElem?_eq_some_iff.mp e).1).trans e
def SeqX {α : Type} (F : Fence) (n : Nat) (P : Program) (g : Nat) (encs : α → Array Value) (S Sp : List α → Prop) (N : Nat) : Prop :=
  ∀ (l : Nat) (J Jx : List α → World → Prop) (W : World), AbX W.heap.size J → AbX W.heap.size Jx →
    (∀ pre x W1, J pre W1 → pre.length < N → YieldAt F (n - 1) P l (encs x) W1 fun e W' => (e = .returned (.bool true) ∧ J (pre ++ [x]) W' ∧ KpX W.heap.size W1 W') ∨ (e = .returned (.bool false) ∧ Jx (pre ++ [x]) W')) →
    J [] W → CallsIn F n P g #[.func (.yield l) #[] #[]] W fun e W' => (∃ v, e = .returned v) ∧ ((∃ xs, S xs ∧ J xs W') ∨ (∃ pre, Sp pre ∧ Jx pre W'))
def bodyX {α : Type} (B : Nat) (I : List α → World → Prop) (Ix : Code → List α → World → Prop) (xs : List α) (W : World) : Exit → Act → World → Prop
  | .normal, _, W' => KpX B W W' ∧ I xs W'
  | .ret, _, W' => KpX B W W' ∧ Ix .ret xs W'
  | .exit id, _, W' => KpX B W W' ∧ Ix (.exit id) xs W'
  | .goto t, _, W' => KpX B W W' ∧ Ix (.goto t) xs W'
  | _, _, _ => False
theorem AbX.put {β : Type} {B l : Nat} {J : β → World → Prop} (h : AbX B J) {s : β} {W : World} (hs : J s W) (hl : B ≤ l) (o : Obj) : J s (W.putObj l o) :=
  h s W _ (some l) hs (grownBy_putObj' W l o) (fun r e => by cases e; exact hl)
theorem AbX.old {β : Type} {B : Nat} {J : β → World → Prop} (h : AbX B J) {s : β} {W : World} (hs : J s W) (o : Obj) : J s (W.alloc o) :=
  h s W _ none hs (World.grownBy_alloc W o none) (fun r e => by cases e)
def recX (fn : Nat) (a : Act) (ps : Array Tmp) (assign body : Code) (D : Nat) (st : LoopState) (pe : Option Code) : Loop := { state := st, pending := pe, fn, tmps := a.tmps, params := ps, assign, body, defers := D }
def betX {α : Type} (D : Nat) (R : Loop) (I : List α → World → Prop) (pre : List α) (W : World) : Prop := I pre W ∧ W.heap[D + 1]? = some (.loop R) ∧ W.heap[D]? = some (.deferred (some []))
theorem betX.ab {α : Type} {D : Nat} {R : Loop} {I : List α → World → Prop} (h : AbX D I) : AbX (D + 2) (betX D R I) := fun s A B row hs hg hr => by
  obtain ⟨h1, h2, h3⟩ := hs
  exact ⟨h s A B row h1 hg (fun r e => by have := hr r e; omega), (hg.block _ (Array.getElem?_eq_some_iff.mp h2).1 (fun e => by have := hr _ e.symm; omega)).trans h2, (hg.block _ (Array.getElem?_eq_some_iff.mp h3).1 (fun e => by have := hr _ e.symm; omega)).trans h3⟩
theorem betX.put {α : Type} {D : Nat} {R R' : Loop} {I I' : List α → World → Prop} {xs ys : List α} {W : World} (hI : AbX D I') (h : betX D R I ys W) (h' : I' xs W) : betX D R' I' xs (W.putObj (D + 1) (.loop R')) :=
  ⟨hI.put h' (by omega) _, World.putObj_heap_same (Array.getElem?_eq_some_iff.mp h.2.1).1, (World.putObj_heap_other (by omega)).trans h.2.2⟩
theorem wpIn_rangeX {F : Fence} {n : Nat} {P : Program} {α : Type} {g : Operand} {ps : Array Tmp} {assign body : Code} {Q : Exit → Act → World → Prop} {a : Act} {w : World}
    (hro : F.round = none) (h1 : 1 ≤ n) {gf : Nat} (hg : a.eval g = .func (.func gf) #[] #[]) (hFg : F.fn gf) (eg : ∀ args w, (callFunc gf args).run P w = .ok (.enter gf args) w)
    {encs : α → Array Value} {S Sp : List α → Prop} {N : Nat} (hseq : SeqX F (n - 1) P gf encs S Sp N) (hps : ∀ x, (encs x).size = ps.size)
    (I : List α → World → Prop) (Ix : Code → List α → World → Prop) (hI : AbX w.heap.size I) (hIx : ∀ c, AbX w.heap.size (Ix c)) (h0 : I [] w) (a₁ : α → Act)
    (hassign : ∀ (l : Nat) (x : α) (W : World) (K : Act → World → Prop), K (a₁ x) W →
      assign.wpIn (F.inRound l) (n - 1 - 1) P (Exit.then K (fun _ _ _ => False)) { tmps := (ps.zip (encs x)).foldl (fun t (p, v) => t.setIfInBounds p v) a.tmps, defers := [] } W)
    (hbody : ∀ (l : Nat) (pre : List α) (x : α) (W : World), I pre W → pre.length < N → body.wpIn (F.inRound l) (n - 1 - 1) P (bodyX w.heap.size I Ix (pre ++ [x]) W) (a₁ x) W)
    (hdone : ∀ (xs : List α) (W : World), S xs → I xs W → W.heap[w.heap.size]? = some (.deferred (some [])) → Q .normal { a with defers := { target := .collected w.heap.size, args := #[] } :: a.defers } W)
    (hstop : ∀ (c : Code) (pre : List α) (W : World), Sp pre → Ix c pre W → W.heap[w.heap.size]? = some (.deferred (some [])) → c.wpIn F n P Q { a with defers := { target := .collected w.heap.size, args := #[] } :: a.defers } W) :
    (Code.rangeFunc g ps assign body).wpIn F n P Q a w := by
  refine wpIn_rangeFunc fun fn hfn => ?_
  rw [hro]
  generalize hD : w.heap.size = D at hI hIx hbody hdone hstop
  obtain ⟨R, hR⟩ : ∃ R : LoopState → Option Code → Loop, R = recX fn a ps assign body D := ⟨_, rfl⟩
  have sz : ((w.alloc (.deferred (some []))).alloc (.loop (R .ready none))).heap.size = D + 2 := by simp [hD]
  have st : betX D (R .ready none) I [] ((w.alloc (.deferred (some []))).alloc (.loop (R .ready none))) := by
    refine ⟨hI.old (hI.old h0 _) _, ?_, ?_⟩
    · have := World.alloc_heap_new (w.alloc (.deferred (some []))) (.loop (R .ready none))
      rwa [World.size_alloc, hD] at this
    · rw [← hD]
      exact (Below.heap_alloc _ _ _ (by simp)).trans (World.alloc_heap_new w _)
  refine ⟨D + 1, [{ target := .collected D, args := #[] }], (w.alloc (.deferred (some []))).alloc (.loop (R .ready none)), { target := .fn (.func gf) #[], args := #[.func (.yield (D + 1)) #[] #[]] }, (w.alloc (.deferred (some []))).alloc (.loop (R .ready none)), gf, #[.func (.yield (D + 1)) #[] #[]], (w.alloc (.deferred (some []))).alloc (.loop (R .ready none)), ?_, ?_, ?_, ?_, fun _ => h1, ?_⟩
  · rw [hR, ← hD]; exact run_enterLoop_outer _ _ _ _ _
  · simp only [resolve, hg]
    simp [go_sem]
  · intro f' hf'
    simp [Target.leads] at hf'
    subst hf'
    exact hFg
  · simp [invoke, go_sem, eg]
  · have ab2 : ∀ {I' : List α → World → Prop} {R' : Loop}, AbX D I' → AbX ((w.alloc (.deferred (some []))).alloc (.loop (R .ready none))).heap.size (betX D R' I') := fun h => by rw [sz]; exact betX.ab h
    refine (hseq (D + 1) (betX D (R .ready none) I) (fun pre W => ∃ c, betX D (R .done (some c)) (Ix c) pre W) _ (ab2 hI) (fun s A B row hs hg' hr => by
      obtain ⟨c, hc⟩ := hs
      exact ⟨c, ab2 (hIx c) s A B row hc hg' hr⟩) ?_ st).mono ?_
    · intro pre x W hJ hlen
      have hy := run_yield (P := P) (args := encs x) hJ.2.1 (by rw [hR]; exact hps x)
      rw [hR] at hy
      refine ⟨fn, _, assign, body, hy, roundIn_of_wpIn hfn (hassign _ x W _ ⟨_, run_beginRound hJ.2.1 (by rw [hR]; rfl), ?_⟩)⟩
      have hB : betX D { R .ready none with state := .busy } I pre (W.putObj (D + 1) (.loop { R .ready none with state := .busy })) := hJ.put hI hJ.1
      have k1 : KpX (D + 2) W (W.putObj (D + 1) (.loop { R .ready none with state := .busy })) := KpX.put W (by omega) _
      refine wpIn_mono (hbody _ pre x _ hB.1 hlen) ?_
      have fin : ∀ (jump : Option Code) (I' : List α → World → Prop) (W3 : World), AbX D I' → KpX D (W.putObj (D + 1) (.loop { R .ready none with state := .busy })) W3 → I' (pre ++ [x]) W3 →
          (Instr.endRound (D + 1) jump).run P W3 = .ok (.bool jump.isNone) (W3.putObj (D + 1) (.loop (R (if jump.isNone then .ready else .done) jump))) ∧ betX D (R (if jump.isNone then .ready else .done) jump) I' (pre ++ [x]) (W3.putObj (D + 1) (.loop (R (if jump.isNone then .ready else .done) jump))) ∧
          KpX (D + 2) W (W3.putObj (D + 1) (.loop (R (if jump.isNone then .ready else .done) jump))) := fun jump I' W3 hab hk hi => by
        have b3 : betX D { R .ready none with state := .busy } I' (pre ++ [x]) W3 := ⟨hi, hk.at_ (by omega) hB.2.1, hk.at_ (Nat.le_refl _) hB.2.2⟩
        have hr := run_endRound (P := P) jump b3.2.1
        rw [hR] at hr
        refine ⟨by rw [hR]; exact hr, b3.put hab hi, (k1.trans ⟨hk.1, fun k h1 h2 => hk.2 k (by omega) h2⟩).trans (KpX.put W3 (by omega) _)⟩
      rintro e a3 W3 hp
      have jumped : ∀ c : Code, KpX D (W.putObj (D + 1) (.loop { R .ready none with state := .busy })) W3 → Ix c (pre ++ [x]) W3 → ∃ v W4, (Instr.endRound (D + 1) (some c)).run P W3 = .ok v W4 ∧ ((Ending.returned v = .returned (.bool true) ∧ betX D (R .ready none) I (pre ++ [x]) W4 ∧ KpX ((w.alloc (.deferred (some []))).alloc (.loop (R .ready none))).heap.size W W4) ∨ (Ending.returned v = .returned (.bool false) ∧ ∃ c, betX D (R .done (some c)) (Ix c) (pre ++ [x]) W4)) := fun c hk hi => by
        obtain ⟨e1, e2, -⟩ := fin (some c) (Ix c) W3 (hIx c) hk hi
        exact ⟨_, _, e1, .inr ⟨rfl, c, e2⟩⟩
      cases e with
      | normal =>
        obtain ⟨e1, e2, e3⟩ := fin none I W3 hI hp.1 hp.2
        exact ⟨_, _, e1, .inl ⟨rfl, e2, by rw [sz]; exact e3⟩⟩
      | ret => exact jumped _ hp.1 hp.2
      | exit id => exact jumped _ hp.1 hp.2
      | goto t => exact jumped _ hp.1 hp.2
      | panic ch => exact hp.elim
      | outgrown => exact hp.elim
    · rintro e W2 ⟨⟨v, rfl⟩, ⟨xs, hS, hJ⟩ | ⟨pre, hSp, c, hJ⟩⟩
      · have hr := run_endLoop (P := P) hJ.2.1 (by rw [hR]; simp [recX])
        rw [hR] at hr
        exact ⟨none, _, hr, hdone xs _ hS (hI.put hJ.1 (by omega) _) ((World.putObj_heap_other (by omega)).trans hJ.2.2)⟩
      · have hr := run_endLoop (P := P) hJ.2.1 (by rw [hR]; simp [recX])
        rw [hR] at hr
        exact ⟨some c, _, hr, hstop c pre _ hSp ((hIx c).put hJ.1 (by omega) _) ((World.putObj_heap_other (by omega)).trans hJ.2.2)⟩
end Go.Proofs.YtcapddcmnjeloaaGreatDoor
end

section
/-
  A block of one cell. No function of the program is named.
-/
namespace Go.Proofs.YtcapddcmnjeloaaGreatDoor
open Go.RowKit
def Blk1 (w : World) (b : Nat) (t : TypeId) (p : Value) : Prop := w.heap[b]? = some (.cells #[p] t (0, 0))
theorem Blk1.cell0 {w : World} {b : Nat} {t : TypeId} {p : Value} (h : Blk1 w b t p) : w.cell? ⟨b, 0, none⟩ = some p := by unfold Blk1 at h; simp [World.cell?, h]
theorem Blk1.free {w : World} {b : Nat} {t : TypeId} {p : Value} (h : Blk1 w b t p) (o : Nat) : w.frozen? ⟨b, o, none⟩ = false := by unfold Blk1 at h; simp [World.frozen?, h]
theorem Blk1.lt {w : World} {b : Nat} {t : TypeId} {p : Value} (h : Blk1 w b t p) : b < w.heap.size := lt_of_block h
theorem Blk1.set0 {w : World} {b : Nat} {t : TypeId} {p : Value} (h : Blk1 w b t p) (u : Value) : Blk1 (w.setCell ⟨b, 0, none⟩ u) b t u := by
  have hlt := h.lt
  unfold Blk1 at h ⊢
  have h' : w.heap[b] = .cells #[p] t (0, 0) := by simpa [Array.getElem?_eq_getElem hlt] using h
  show (w.heap.modify b _)[b]? = _
  rw [Array.getElem?_eq_getElem (by simpa using hlt), Array.getElem_modify_self, h']
  rfl
theorem Blk1.far {w : World} {b : Nat} {t : TypeId} {p : Value} (h : Blk1 w b t p) {a : Addr} (ha : b ≠ a.block) (u : Value) : Blk1 (w.setCell a u) b t p := (Below.heap_setCell w a u b ha).trans h
theorem Blk1.keep {w w' : World} {b B : Nat} {t : TypeId} {p : Value} (h : Blk1 w b t p) (hb : Below B w w') (hB : b < B) : Blk1 w' b t p := (hb.block b hB).trans h
theorem Blk1.drew {w : World} {b : Nat} {t : TypeId} {p : Value} (h : Blk1 w b t p) : Blk1 w.drew b t p := h
theorem Blk1.at_ {w : World} {b : Nat} (t : TypeId) (p : Value) (hb : b = w.heap.size) : Blk1 (w.alloc (.cells #[p] t)) b t p := by
  subst hb; unfold Blk1; show (w.heap.push _)[w.heap.size]? = _
  rw [Array.getElem?_push, if_pos rfl]
theorem Blk1.old {w : World} {b : Nat} {t : TypeId} {p : Value} (h : Blk1 w b t p) (o : Obj) : Blk1 (w.alloc o) b t p := (Below.heap_alloc w o b h.lt).trans h
end Go.Proofs.YtcapddcmnjeloaaGreatDoor
end

section
/-
  Chapter 8, in the program: the iterator over primes; IsPrime.
-/
namespace Go.Proofs.YtcapddcmnjeloaaGreatDoor
set_option maxRecDepth 100000
open Go.RowKit Go.Shelf
attribute [local go_sem] Oper.semAt_some
abbrev PrmQ := { q : Nat // q < 10001 ∧ prmB (q : Int) = true }
def prmV (ys : List PrmQ) : List Int := ys.map fun x => (x.1 : Int)
theorem prmV_snoc (ys : List PrmQ) (x : PrmQ) : prmV (ys ++ [x]) = prmV ys ++ [(x.1 : Int)] := by simp [prmV]
theorem prmV_length (ys : List PrmQ) : (prmV ys).length = ys.length := List.length_map ..
def leftX (w : World) (v : Value) : Nat := match v with
  | .pointer (some a) => match w.cell? a with
    | some (.int _ z) => 10001 - z.toNat
    | _ => 0
  | _ => 0
theorem leftX_at {w : World} {b m : Nat} (h : w.cell? ⟨b, 0, none⟩ = some (.int .i64 (m : Int))) : leftX w (.pointer (some ⟨b, 0, none⟩)) = 10001 - m := by
  unfold leftX
  simp [h]
theorem prmTo_get {m k : Nat} (hk : k < (prmTo m).length) : (prmTo m).getD k 0 ∈ prmTo m := by
  have : (prmTo m).getD k 0 = (prmTo m)[k] := by simp [List.getD, hk]
  rw [this]
  exact List.getElem_mem hk
theorem prmTo_two_le {m k : Nat} (hk : k < (prmTo m).length) : 2 ≤ (prmTo m).getD k 0 := by
  obtain ⟨q, e, -, h⟩ := prmTo_mem.mp (prmTo_get hk)
  have := (prmB_says h).1.1
  omega
theorem prm_test {m : Nat} (h1 : 2 ≤ m) (h2 : m ≤ 10000) : (!prmB (m : Int)) = true ↔ ∃ k, k < (prmTo m).length ∧ (m : Int) % (prmTo m).getD k 0 = 0 := by
  constructor
  · intro h
    refine Classical.byContradiction fun hn => ?_
    have : prmB (m : Int) = true := (prm_iff h1 h2).mpr fun x hx he => by
      obtain ⟨k, hk, e⟩ := List.getElem_of_mem hx
      exact hn ⟨k, hk, by rw [show (prmTo m).getD k 0 = x by simp [List.getD, hk, e]]; exact he⟩
    rw [this] at h
    cases h
  · rintro ⟨k, hk, he⟩
    cases hp : prmB (m : Int) with
    | false => rfl
    | true => exact absurd he ((prm_iff h1 h2).mp hp _ (prmTo_get hk))
structure ItSt (J : List PrmQ → World → Prop) (B m b : Nat) (q : Option Addr) (qc : Nat) (pre : List PrmQ) (wr : World) : Prop where
  own : OwnQ B wr (.slice q (prmTo m).length qc) (prmTo m)
  box : Blk1 wr b 3 (.int .i64 m)
  ge : B ≤ b
  ne : (Value.slice q (prmTo m).length qc).ownBlock ≠ some b
  pre_ : prmV pre = prmTo m
  j : J pre wr
  sz : B ≤ wr.heap.size
theorem ItSt.kept {J : List PrmQ → World → Prop} {B m b : Nat} {q : Option Addr} {qc : Nat} {pre : List PrmQ} {wr w' : World} (h : ItSt J B m b q qc pre wr) (hk : KpX B wr w') :
    OwnQ B w' (.slice q (prmTo m).length qc) (prmTo m) ∧ Blk1 w' b 3 (.int .i64 m) ∧ B ≤ w'.heap.size :=
  ⟨h.own.move fun k e => hk.2 k (h.own.le e) (h.own.lt e), hk.at_ h.ge h.box, Nat.le_trans h.sz hk.1⟩
theorem ItSt.next {J : List PrmQ → World → Prop} {B m : Nat} {v : Value} {q : Option Addr} {qc : Nat} {pre : List PrmQ} {wr : World} (hab : AbX B J) (hv : v = .slice q (prmTo (m + 1)).length qc) (ho : OwnQ B wr v (prmTo (m + 1))) (hp : prmV pre = prmTo (m + 1)) (hj : J pre wr) (hs : B ≤ wr.heap.size) (z : Int) (hz : z = ((m + 1 : Nat) : Int)) :
    ItSt J B (m + 1) wr.heap.size q qc pre (wr.alloc (.cells #[.int .i64 z] 3)) := by
  subst hv hz
  exact ⟨ho.move fun k e => Below.heap_alloc wr _ k (ho.lt e), Blk1.at_ _ _ rfl, hs, fun e => by have := ho.lt e; omega, hp, hab.old hj _, by simp; omega⟩
set_option maxHeartbeats 4000000 in
theorem seqPrimes (n : Nat) (hn : 1 ≤ n) : SeqX Fence.wide n Tryz.prog 103 (fun x : PrmQ => #[Value.int .i64 (x.1 : Int)]) (fun ys => prmV ys = prmTo 10001) (fun pre => ∃ (ini : List PrmQ) (x : PrmQ), pre = ini ++ [x] ∧ prmV ini = prmTo x.1) 10001 := by
  intro l J Jx W hJ hJx hY h0
  have AJ := Lib.hid hJ
  have YY := Lib.hid hY
  clear hJ hJx hY
  have o0 : OwnQ W.heap.size (W.alloc (.cells #[] 3)) (.slice (some ⟨W.heap.size, 0, none⟩) 0 0) [] := OwnQ.none_ (Nat.le_refl _) ⟨Nat.zero_le _, [], rfl, heap_alloc_new W _⟩
  have S0 : Hid (ItSt J W.heap.size 2 (W.heap.size + 1) (some ⟨W.heap.size, 0, none⟩) 0 [] ((W.alloc (.cells #[] 3)).alloc (.cells #[.int .i64 2] 3))) := by
    refine ⟨?_, Blk1.at_ _ _ (by simp), by omega, by rw [prmTo_two]; simp [Value.ownBlock], by rw [prmTo_two]; rfl, AJ.out.old (AJ.out.old h0 _) _, by simp; omega⟩
    rw [prmTo_two]
    exact o0.move fun k e => Below.heap_alloc _ _ k (o0.lt e)
  clear o0
  refine callsIn_of_wp Tryz.func103 rfl trivial ?_ rfl
  simp only [Tryz.ntmps103, List.size_toArray, List.length_cons, List.length_nil, Nat.reduceAdd, Nat.reduceSub, Array.replicate_succ, Array.replicate_zero, List.push_toArray, List.append_toArray, List.nil_append, List.cons_append]
  gi_wp2
  gi_loopw [2, 3] (fun v2 v3 wr => ∃ (m b : Nat) (q : Option Addr) (qc : Nat) (pre : List PrmQ), v2 = .slice q (prmTo m).length qc ∧ v3 = .pointer (some ⟨b, 0, none⟩) ∧ 2 ≤ m ∧ m ≤ 10001 ∧ ItSt J W.heap.size m b q qc pre wr) (fun _ v3 wr => leftX wr v3)
  case atStart => exact ⟨2, _, _, _, [], by rw [prmTo_two]; rfl, rfl, by omega, by omega, S0.out⟩
  case round =>
    clear S0 h0
    obtain ⟨m, b, q, qc, pre, rfl, rfl, hm1, hm2, hS⟩ := hrel
    have S := Lib.hid hS
    have hc := hS.box.cell0
    have hLX := Lib.hid (leftX_at hc)
    have hL := prmTo_length m
    clear hS
    by_cases hlt : m ≤ 10000
    · have hcon := Lib.hid (iContains m b qc (prmTo m).length q (prmTo m) wr (S.out.own.own (by omega)).rdq rfl hc (by omega) (fun k hk => prmTo_two_le hk) (by omega) (!prmB (m : Int)) (prm_test hm1 hlt))
      have NX : Hid (∀ (v : Value) (q' : Option Addr) (qc' : Nat) (pre' : List PrmQ) (w' : World), v = .slice q' (prmTo (m + 1)).length qc' → OwnQ W.heap.size w' v (prmTo (m + 1)) → prmV pre' = prmTo (m + 1) → J pre' w' → W.heap.size ≤ w'.heap.size → ∀ z : Int, z = ((m + 1 : Nat) : Int) → ItSt J W.heap.size (m + 1) w'.heap.size q' qc' pre' (w'.alloc (.cells #[.int .i64 z] 3))) := fun v q' qc' pre' w' hv ho hp hj hs z hz => ItSt.next AJ.out hv ho hp hj hs z hz
      have LM : Hid (10001 - (m + 1) < 10001 - m) := by show _ < _; omega
      rcases Bool.eq_false_or_eq_true (prmB (m : Int)) with hp | hp
      · have PS : Hid (prmTo (m + 1) = prmTo m ++ [(m : Int)]) := by show _ = _; rw [prmTo_succ, if_pos hp]
        have PP : Hid (m < 10001 ∧ prmB (m : Int) = true) := ⟨by omega, hp⟩
        rw [hp] at hcon
        clear hp
        have PL : Hid (pre.length = (prmTo m).length) := by
          show _ = _
          rw [← prmV_length, S.out.pre_]
        obtain ⟨fn, tmps, assign, body, hy, hR⟩ := YY.out pre ⟨m, PP.out⟩ wr S.out.j (by rw [PL.out]; omega)
        dsimp only at hy
        gi_wp2_with (refine ⟨trivial, ?_⟩; gi_at_call 104; refine (callsIn_wide.2 hcon.out).mono ?_; rintro e w' ⟨rfl, rfl⟩)
        refine hR.mono ?_
        rintro e W3 (⟨rfl, hJ3, hk3⟩ | ⟨rfl, hJx3⟩)
        · obtain ⟨o3, b3, s3⟩ := S.out.kept hk3
          have O3 := Lib.hid o3
          have N3 := Lib.hid S.out.ne
          have B3 := Lib.hid b3
          have J3 := Lib.hid hJ3
          have hc3 := b3.cell0
          have PV : Hid (prmV (pre ++ [⟨m, PP.out⟩]) = prmTo (m + 1)) := by
            show _ = _
            rw [prmV_snoc, S.out.pre_, PS.out]
          clear hk3 o3 b3 hJ3 hR hy
          obtain ⟨fi, hfi, hz0, hz1, hz2⟩ := facts_int
          have HO : Hid ((W3.alloc (.cells #[.int .i64 m] 3)).ownsRow W.heap.size 3 1 (.slice q (prmTo m).length qc) (prmTo m).length ((prmTo m).map (Value.int .i64))) := by
            have h1 := O3.out.keep ((Below.refl _ _).alloc (Nat.le_refl _) (.cells #[.int .i64 m] 3))
            unfold OwnQ at h1
            exact h1
          gi_wp2_with (gi_at_builtin; refine wpListIn_append_own _ rfl _ _ 24 rfl W.heap.size 3 fi (.int .i64 0) 1 8 underlying_ints hfi hz0 hz1 hz2 rfl (by decide) _ _ _ rfl HO.out ⟨W3.heap.size, 0, none⟩ 1 1 [.int .i64 m] ?hx ?hl ?hnews ?h1 ?h63 ?hbytes ?hbase ?hnext)
          case hx => rfl
          case hl => rfl
          case hnews => exact cell_one_new _ _ _
          case h1 => intro v hv; simp at hv; subst hv; rfl
          case h63 => unfold maxLen; omega
          case hbytes => omega
          case hbase => simp; omega
          case hnext =>
            rintro v' w7 ho hg7 -
            have O7 : OwnQ W.heap.size w7 v' (prmTo (m + 1)) := by
              unfold OwnQ
              rw [PS.out, List.map_append, List.length_append]
              exact ho
            have b7 : Blk1 w7 b 3 (.int .i64 m) := (hg7.block b (by have := B3.out.lt; simp; omega) (fun e => N3.out e.symm)).trans ((Below.heap_alloc _ _ b B3.out.lt).trans B3.out)
            have s7 := hg7.size
            simp at s7
            have j7 : J (pre ++ [⟨m, PP.out⟩]) w7 := AJ.out _ _ _ _ (AJ.out.old J3.out _) hg7 (fun r e => O3.out.le e)
            obtain ⟨q', qc', hv'⟩ := O7.form
            have hc7 := b7.cell0
            have N7 := Lib.hid (NX.out v' q' qc' _ w7 hv' O7 PV.out j7 (by omega))
            subst hv'
            clear O7 ho hg7 b7 j7
            have ez : (m : Int) + 1 = ((m + 1 : Nat) : Int) := by omega
            have N8 := Lib.hid (N7.out ((m : Int) + 1) ez)
            clear ez
            gi_wp2
            go_roundw
            case rel => exact ⟨m + 1, _, q', qc', _, rfl, rfl, by omega, by omega, N8.out⟩
            case measure =>
              rw [hLX.out, leftX_at N8.out.box.cell0]
              exact LM.out
        · gi_wp2
          refine bodyPost_ret (results_none rfl _ _ _) rfl ?_
          exact ⟨⟨_, rfl⟩, .inr ⟨_, ⟨pre, ⟨m, PP.out⟩, rfl, S.out.pre_⟩, hJx3⟩⟩
      · have PS : Hid (prmTo (m + 1) = prmTo m) := by show _ = _; rw [prmTo_succ, if_neg (by rw [hp]; decide)]
        rw [hp] at hcon
        clear hp
        gi_wp2_with (refine ⟨trivial, ?_⟩; gi_at_call 104; refine (callsIn_wide.2 hcon.out).mono ?_; rintro e w' ⟨rfl, rfl⟩)
        have ez : (m : Int) + 1 = ((m + 1 : Nat) : Int) := by omega
        have N8 := Lib.hid (NX.out (.slice q (prmTo m).length qc) q qc pre wr (by rw [PS.out]) (by rw [PS.out]; exact S.out.own) (by rw [PS.out]; exact S.out.pre_) S.out.j S.out.sz ((m : Int) + 1) ez)
        clear ez
        go_roundw
        case rel => exact ⟨m + 1, _, q, qc, pre, by rw [PS.out], rfl, by omega, by omega, N8.out⟩
        case measure =>
          rw [hLX.out, leftX_at N8.out.box.cell0]
          exact LM.out
    · obtain rfl : m = 10001 := by omega
      gi_wp2
      go_end0
      exact ⟨⟨_, rfl⟩, .inl ⟨pre, S.out.pre_, S.out.j⟩⟩
theorem iPrimes (w : World) : Calls Tryz.prog 61 #[] w fun e w' => e = .returned (.func (.func 103) #[] #[]) ∧ w = w' := by
  go_enter Tryz.func61, Tryz.ntmps61
  go_wp2_with fail
  go_ret
  exact ⟨rfl, rfl⟩
def prI (w : World) (p : Int) (pre : List PrmQ) (W : World) : Prop := (∀ x ∈ pre, (x.1 : Int) * (x.1 : Int) ≤ p ∧ p % (x.1 : Int) ≠ 0) ∧ Blk1 W w.heap.size 3 (.int .i64 p) ∧ Blk1 W (w.heap.size + 1) 4 (.bool false) ∧ Below w.heap.size w W
def prX (w : World) (p : Int) (c : Code) (pre : List PrmQ) (W : World) : Prop :=
  (∃ (ini : List PrmQ) (x : PrmQ), pre = ini ++ [x] ∧ (∀ y ∈ ini, p % (y.1 : Int) ≠ 0) ∧ ((c = .exit 0 ∧ p < (x.1 : Int) * (x.1 : Int)) ∨ (c = .ret ∧ (x.1 : Int) * (x.1 : Int) ≤ p ∧ p % (x.1 : Int) = 0))) ∧ Blk1 W (w.heap.size + 1) 4 (.bool false) ∧ Below w.heap.size w W
theorem prI.ab (w : World) (p : Int) : AbX (w.heap.size + 2) (prI w p) := fun s A B row hs hg hr => by
  obtain ⟨h1, h2, h3, h4⟩ := hs
  exact ⟨h1, (hg.block _ h2.lt (fun e => by have := hr _ e.symm; omega)).trans h2, (hg.block _ h3.lt (fun e => by have := hr _ e.symm; omega)).trans h3, h4.grown hg h4.size (fun k e => by have := hr _ e; omega)⟩
theorem prX.ab (w : World) (p : Int) (c : Code) : AbX (w.heap.size + 2) (prX w p c) := fun s A B row hs hg hr => by
  obtain ⟨h1, h3, h4⟩ := hs
  exact ⟨h1, (hg.block _ h3.lt (fun e => by have := hr _ e.symm; omega)).trans h3, h4.grown hg h4.size (fun k e => by have := hr _ e; omega)⟩
theorem prm_done {p : Int} {ys : List PrmQ} (h1 : 2 ≤ p) (h2 : p ≤ 10000) (hS : prmV ys = prmTo 10001) (h : ∀ x ∈ ys, (x.1 : Int) * (x.1 : Int) ≤ p ∧ p % (x.1 : Int) ≠ 0) : prmB p = true := by
  cases hp : prmB p with
  | true => rfl
  | false =>
    obtain ⟨q, hq, hqp, -, he⟩ := not_prm h1 h2 hp
    have : (q : Int) ∈ prmV ys := by rw [hS]; exact prmTo_mem.mpr ⟨q, rfl, hq, hqp⟩
    obtain ⟨x, hx, e⟩ := List.mem_map.mp this
    rw [← e] at he
    exact absurd he (h x hx).2
theorem prm_broke {p : Int} {ini : List PrmQ} {x : PrmQ} (h1 : 2 ≤ p) (h2 : p ≤ 10000) (hS : prmV ini = prmTo x.1) (h : ∀ y ∈ ini, p % (y.1 : Int) ≠ 0) (hx : p < (x.1 : Int) * (x.1 : Int)) : prmB p = true := by
  cases hp : prmB p with
  | true => rfl
  | false =>
    obtain ⟨q, hq, hqp, hqq, he⟩ := not_prm h1 h2 hp
    rcases Nat.lt_or_ge q x.1 with h3 | h3
    · have : (q : Int) ∈ prmV ini := by rw [hS]; exact prmTo_mem.mpr ⟨q, rfl, h3, hqp⟩
      obtain ⟨y, hy, e⟩ := List.mem_map.mp this
      rw [← e] at he
      exact absurd he (h y hy)
    · have h4 : x.1 * x.1 ≤ q * q := Nat.mul_le_mul h3 h3
      have h5 : ((x.1 * x.1 : Nat) : Int) ≤ ((q * q : Nat) : Int) := Int.ofNat_le.mpr h4
      rw [Int.natCast_mul, Int.natCast_mul] at h5
      omega
theorem prm_hit {p : Int} {x : PrmQ} (hx : (x.1 : Int) * (x.1 : Int) ≤ p) (he : p % (x.1 : Int) = 0) : prmB p = false :=
  prmB_div (d := x.1) (by have := (prmB_says x.2.2).1.1; omega) hx (Int.dvd_of_emod_eq_zero he)
theorem put_blk {W : World} {b D : Nat} {t : TypeId} {v : Value} (h : Blk1 W b t v) (hne : b ≠ D) (o : Obj) : Blk1 (W.putObj D o) b t v := (World.putObj_heap_other hne).trans h
set_option maxHeartbeats 2000000 in
theorem iPrime_in (p : Int) (w : World) (h1 : 2 ≤ p) (h2 : p ≤ 10000) : Calls Tryz.prog 150 #[.int .i64 p] w fun e w' => e = .returned (.bool (prmB p)) ∧ Below w.heap.size w w' := by
  have HT := Lib.hid (fun ys (hS : prmV ys = prmTo 10001) (h : ∀ x ∈ ys, (x.1 : Int) * (x.1 : Int) ≤ p ∧ p % (x.1 : Int) ≠ 0) => prm_done h1 h2 hS h)
  have HB := Lib.hid (fun (ini : List PrmQ) (x : PrmQ) (hS : prmV ini = prmTo x.1) (h : ∀ y ∈ ini, p % (y.1 : Int) ≠ 0) (hx : p < (x.1 : Int) * (x.1 : Int)) => prm_broke h1 h2 hS h hx)
  have HF := Lib.hid (fun (x : PrmQ) (hx : (x.1 : Int) * (x.1 : Int) ≤ p) (he : p % (x.1 : Int) = 0) => prm_hit hx he)
  generalize prmB p = bp at HT HB HF ⊢
  refine (callsIn_wide (n := 4)).1 ?_
  refine callsIn_of_wp_marks Tryz.func150 rfl trivial ?_ rfl
  simp only [Tryz.ntmps150, List.size_toArray, List.length_cons, List.length_nil, Nat.reduceAdd, Nat.reduceSub, Array.replicate_succ, Array.replicate_zero, List.push_toArray, List.append_toArray, List.nil_append, List.cons_append]
  gi_wp2_with (refine ⟨trivial, ?_⟩; gi_at_call 61; refine (callsIn_wide.2 (iPrimes _)).mono ?_; rintro e w' ⟨rfl, rfl⟩)
  have k0 : Blk1 ((w.alloc (.cells #[.int .i64 p] 3)).alloc (.cells #[.bool false] 4)) w.heap.size 3 (.int .i64 p) := (Blk1.at_ _ _ rfl).old _
  have k1 : Blk1 ((w.alloc (.cells #[.int .i64 p] 3)).alloc (.cells #[.bool false] 4)) (w.heap.size + 1) 4 (.bool false) := Blk1.at_ _ _ (by simp)
  have B0 : Below w.heap.size w ((w.alloc (.cells #[.int .i64 p] 3)).alloc (.cells #[.bool false] 4)) := ((Below.refl _ w).alloc (Nat.le_refl _) _).alloc (by simp) _
  have SZ : ((w.alloc (.cells #[.int .i64 p] 3)).alloc (.cells #[.bool false] 4)).heap.size = w.heap.size + 2 := by simp
  generalize (w.alloc (.cells #[.int .i64 p] 3)).alloc (.cells #[.bool false] 4) = W0 at k0 k1 B0 SZ ⊢
  refine wpIn_rangeX (F := Fence.wide) rfl (by omega) (gf := 103) rfl trivial (enters_of Tryz.func103 (by kernel_rfl) rfl) (seqPrimes 3 (by omega)) (fun _ => rfl) (prI w p) (prX w p) (by rw [SZ]; exact prI.ab w p) (fun c => by rw [SZ]; exact prX.ab w p c) ⟨by simp, k0, k1, B0⟩
    (fun x => { tmps := #[.int .i64 p, .pointer (some ⟨w.heap.size, 0, none⟩), .pointer (some ⟨w.heap.size + 1, 0, none⟩), .int .i64 (x.1 : Int), .int .i64 p, .bool (decide (p < 2)), .bool (decide (p < 2)), .int .i64 p, .bool (decide (10000 < p)), .bool (decide (p < 2) || decide (10000 < p)), .func (.func 103) #[] #[], .int .i64 (x.1 : Int), undef, undef, undef, undef, undef, undef, undef, undef, undef], defers := [] }) ?assign ?body ?done ?stop
  case assign =>
    intro l x W K hK
    gi_wp2
    exact hK
  case body =>
    rintro l pre x W ⟨hp, hb1, hb2, hB⟩ _
    have HP := Lib.hid hp
    have B2 := Lib.hid hb2
    have BB := Lib.hid hB
    have hc := hb1.cell0
    have hc2 := hb2.cell0
    have hf2 := hb2.free 0
    have x1 := (prmB_says x.2.2).1.1
    have x2 := x.2.1
    obtain ⟨d, hd⟩ : ∃ d : Nat, x.1 = d := ⟨_, rfl⟩
    have D := Lib.hid hd
    rw [hd] at x1 x2
    clear hp hB
    have q0 : (d : Int) * (d : Int) = ((d * d : Nat) : Int) := (Int.natCast_mul _ _).symm
    have q1 : d * d ≤ 10001 * 10001 := Nat.mul_le_mul (by omega) (by omega)
    have w1 : IntKind.i64.wrap ((d : Int) * (d : Int)) = (d : Int) * (d : Int) := IntWalk.i64_in _ (by rw [q0]; omega)
    obtain ⟨q, hq⟩ : ∃ q : Int, (d : Int) * (d : Int) = q := ⟨_, rfl⟩
    have HQ := Lib.hid hq
    rw [hq] at w1
    have w1 : IntKind.i64.wrap ((d : Int) * (d : Int)) = q := by rw [hq]; exact w1
    have n0 : ((d : Int) == 0) = false := by simp; omega
    rw [hd]
    clear q0 q1 hq hd
    by_cases h3 : p < q
    · have X : Hid (p < (x.1 : Int) * (x.1 : Int)) := by show _ < _; rw [D.out, HQ.out]; exact h3
      gi_wp2
      exact ⟨KpX.refl _ _, ⟨pre, x, rfl, fun y hy => (HP.out y hy).2, .inl ⟨rfl, X.out⟩⟩, B2.out, BB.out⟩
    · have X : Hid ((x.1 : Int) * (x.1 : Int) ≤ p) := by show _ ≤ _; rw [D.out, HQ.out]; omega
      by_cases h4 : p % (d : Int) = 0
      · have n1 : (p % (d : Int) == 0) = true := by simp [h4]
        have Y : Hid (p % (x.1 : Int) = 0) := by show _ = _; rw [D.out]; exact h4
        clear h4
        gi_wp2
        exact ⟨KpX.set W (by show w.heap.size + 1 < w.heap.size + 2; omega) _, ⟨pre, x, rfl, fun y hy => (HP.out y hy).2, .inr ⟨rfl, X.out, Y.out⟩⟩, B2.out.set0 _, BB.out.setCell (by simp) _⟩
      · have n1 : (p % (d : Int) == 0) = false := by simpa using h4
        have Y : Hid (p % (x.1 : Int) ≠ 0) := by show _ ≠ _; rw [D.out]; exact h4
        clear h4
        gi_wp2
        exact ⟨KpX.refl _ _, fun y hy => (List.mem_append.1 hy).elim (HP.out y) (fun e => by simp at e; subst e; exact ⟨X.out, Y.out⟩), hb1, B2.out, BB.out⟩
  case done =>
    rintro ys W hS ⟨hp, hb1, hb2, hB⟩ hK
    have HR : Hid (bp = true) := HT.out ys hS hp
    have b3 := hb2.set0 (.bool true)
    have hK' : (W.setCell ⟨w.heap.size + 1, 0, none⟩ (.bool true)).heap[W0.heap.size]? = some (.deferred (some [])) := (Below.heap_setCell W ⟨w.heap.size + 1, 0, none⟩ (.bool true) _ (by show W0.heap.size ≠ w.heap.size + 1; omega)).trans hK
    have hc := hb2.cell0
    have hf := hb2.free 0
    clear hp HT HB HF
    gi_wp2
    refine ⟨by simp, .inl ⟨_, _, rfl, run_takeDeferred hK', ?_⟩⟩
    have hc5 := (put_blk b3 (D := W0.heap.size) (by omega) (.deferred none)).cell0
    refine ⟨.bool true, by simp [results, Tryz.f150, go_sem, hc5], by rw [HR.out], ?_⟩
    exact (hB.setCell (p := ⟨w.heap.size + 1, 0, none⟩) (by simp) _).grown (grownBy_putObj' _ _ _) (by have := hB.size; simp [World.setCell]; omega) (fun k e => by cases e; omega)
  case stop =>
    rintro c pre W ⟨ini, x, e, hS⟩ ⟨⟨ini', x', e', hi, hx⟩, hb2, hB⟩ hK
    rw [e] at e'
    obtain ⟨rfl, e5⟩ := List.append_inj' e' rfl
    obtain rfl : x = x' := by simpa using e5
    have hc := hb2.cell0
    have hf := hb2.free 0
    rcases hx with ⟨rfl, hx⟩ | ⟨rfl, hx1, hx2⟩
    · have HR : Hid (bp = true) := HB.out _ x hS hi hx
      have b3 := hb2.set0 (.bool true)
      have hK' : (W.setCell ⟨w.heap.size + 1, 0, none⟩ (.bool true)).heap[W0.heap.size]? = some (.deferred (some [])) := (Below.heap_setCell W ⟨w.heap.size + 1, 0, none⟩ (.bool true) _ (by show W0.heap.size ≠ w.heap.size + 1; omega)).trans hK
      clear hi hx HT HB HF e5 e' e
      gi_wp2
      refine ⟨by simp, .inl ⟨_, _, rfl, run_takeDeferred hK', ?_⟩⟩
      have hc5 := (put_blk b3 (D := W0.heap.size) (by omega) (.deferred none)).cell0
      refine ⟨.bool true, by simp [results, Tryz.f150, go_sem, hc5], by rw [HR.out], ?_⟩
      exact (hB.setCell (p := ⟨w.heap.size + 1, 0, none⟩) (by simp) _).grown (grownBy_putObj' _ _ _) (by have := hB.size; simp [World.setCell]; omega) (fun k e => by cases e; omega)
    · have HR : Hid (bp = false) := HF.out x hx1 hx2
      clear hi hx1 hx2 HT HB HF e5 e' e
      gi_wp2
      refine ⟨by simp, .inl ⟨_, _, rfl, run_takeDeferred hK, ?_⟩⟩
      have hc5 := (put_blk hb2 (D := W0.heap.size) (by omega) (.deferred none)).cell0
      refine ⟨.bool false, by simp [results, Tryz.f150, go_sem, hc5], by rw [HR.out], ?_⟩
      exact hB.grown (grownBy_putObj' _ _ _) hB.size (fun k e => by cases e; omega)
theorem iPrime (p : Int) (w : World) : Calls Tryz.prog 150 #[.int .i64 p] w fun e w' => e = .returned (.bool (prmB p)) ∧ Below w.heap.size w w' := by
  by_cases h : 2 ≤ p ∧ p ≤ 10000
  · exact iPrime_in p w h.1 h.2
  · have E : Hid (prmB p = false) := prmB_out (by omega)
    have h' : p < 2 ∨ 10000 < p := by omega
    have B0 : Hid (Below w.heap.size w ((w.alloc (.cells #[.int .i64 p] 3)).alloc (.cells #[.bool false] 4))) := ((Below.refl _ w).alloc (Nat.le_refl _) _).alloc (by simp) _
    clear h
    rw [E.out]
    go_enter Tryz.func150, Tryz.ntmps150
    have hc : Hid (((w.alloc (.cells #[.int .i64 p] 3)).alloc (.cells #[.bool false] 4)).cell? ⟨w.heap.size + 1, 0, none⟩ = some (.bool false)) := (Blk1.at_ (w := w.alloc (.cells #[.int .i64 p] 3)) (b := w.heap.size + 1) 4 (.bool false) (by simp)).cell0
    rcases h' with h1 | h1
    · go_wp2_with fail
      have hc := hc.out
      exact bodyPost_ret (v := .bool false) (by simp [results, Tryz.results150, go_sem, hc]) rfl ⟨rfl, B0.out⟩
    · by_cases h2 : p < 2
      · omega
      · go_wp2_with fail
        have hc := hc.out
        exact bodyPost_ret (v := .bool false) (by simp [results, Tryz.results150, go_sem, hc]) rfl ⟨rfl, B0.out⟩
end Go.Proofs.YtcapddcmnjeloaaGreatDoor
end

section
/-
  Chapter 1, in the program: DivideFloor.
-/
namespace Go.Proofs.YtcapddcmnjeloaaGreatDoor
open Go.RowKit
set_option maxHeartbeats 400000 in
theorem iDiv (n d : Int) (w : World) (hn1 : -400000000 ≤ n) (hn2 : n ≤ 400000000) (hd1 : -400000000 ≤ d) (hd2 : d ≤ 400000000) (hd0 : d ≠ 0) :
    Calls Tryz.prog 110 #[.int .i64 n, .int .i64 d] w fun e w' => e = .returned (.tuple #[.int .i64 (n / d), .int .i64 (n % d), .bool true]) ∧ ∃ n, w' = w.drewN n := by
  have hz : (d == 0) = false := by simpa using hd0
  obtain ⟨b1, b2⟩ := tdiv_bd n d hn1 hn2
  have l := tmod_small n d hd0
  have l1 : -400000000 ≤ n.tmod d := by omega
  have l2 : n.tmod d ≤ 400000000 := by omega
  clear l
  by_cases h : n.tmod d < 0
  · have hn : n < 0 := by
      rcases Int.lt_or_le n 0 with h' | h'
      · exact h'
      · have := Int.tmod_nonneg d h'; omega
    by_cases hd : 0 < d
    · have E := Lib.hid (tdiv_down n d hd h)
      go_enter Tryz.func110, Tryz.ntmps110
      go_wp2_with (first | (go_at_call 90; refine (iIsNum_t _ _ (by omega) (by omega)).mono ?_; rintro e w' ⟨rfl, rfl⟩) | go_quiet (fail))
      go_ret3
      exact ⟨by rw [E.out.1, E.out.2]; rfl, _, rfl⟩
    · have E : Hid (n / d = n.tdiv d + 1 ∧ n % d = n.tmod d - d) := by
        obtain ⟨c, rfl⟩ : ∃ c, d = -c := ⟨-d, by omega⟩
        exact iDiv_neg n c (by omega) h
      have hd' : decide (0 < d) = false := by simpa using hd
      go_enter Tryz.func110, Tryz.ntmps110
      go_wp2_with (first | (go_at_call 90; refine (iIsNum_t _ _ (by omega) (by omega)).mono ?_; rintro e w' ⟨rfl, rfl⟩) | go_quiet (fail))
      go_ret3
      exact ⟨by rw [E.out.1, E.out.2]; rfl, _, rfl⟩
  · have E := Lib.hid (iDiv_pos n d hd0 (by omega))
    have h' : decide (n.tmod d < 0) = false := by simpa using h
    have hp : 0 ≤ n % d := Int.emod_nonneg n hd0
    have hp' : decide (n % d < 0) = false := by simpa using hp
    go_enter Tryz.func110, Tryz.ntmps110
    go_wp2_with (first | (go_at_call 90; refine (iIsNum_t _ _ (by omega) (by omega)).mono ?_; rintro e w' ⟨rfl, rfl⟩) | go_quiet (fail))
    go_ret3
    exact ⟨by rw [E.out.1, E.out.2]; rfl, _, rfl⟩
theorem iDiv_f (n d : Int) (w : World) (h : ¬ ((-400000000 ≤ n ∧ n ≤ 400000000) ∧ (-400000000 ≤ d ∧ d ≤ 400000000) ∧ d ≠ 0)) :
    Calls Tryz.prog 110 #[.int .i64 n, .int .i64 d] w fun e w' => e = .returned (.tuple #[.int .i64 0, .int .i64 0, .bool false]) ∧ w = w' := by
  by_cases hn : -400000000 ≤ n ∧ n ≤ 400000000
  · by_cases hd : -400000000 ≤ d ∧ d ≤ 400000000
    · have h0 : d = 0 := by omega
      subst h0
      clear h hd
      go_enter Tryz.func110, Tryz.ntmps110
      go_wp2_with fail
      refine (iIsNum_t _ _ hn.1 hn.2).mono ?_
      rintro e w' ⟨rfl, rfl⟩
      go_wp2_with fail
      refine (iIsNum_t _ _ (by omega) (by omega)).mono ?_
      rintro e w' ⟨rfl, rfl⟩
      go_wp2_with fail
      go_ret3
      exact ⟨rfl, rfl⟩
    · have hd' : d < -400000000 ∨ 400000000 < d := by omega
      clear h hd
      go_enter Tryz.func110, Tryz.ntmps110
      go_wp2_with fail
      refine (iIsNum_t _ _ hn.1 hn.2).mono ?_
      rintro e w' ⟨rfl, rfl⟩
      go_wp2_with fail
      refine (iIsNum_f _ _ hd').mono ?_
      rintro e w' ⟨rfl, rfl⟩
      go_wp2_with fail
      go_ret3
      exact ⟨rfl, rfl⟩
  · have hn' : n < -400000000 ∨ 400000000 < n := by omega
    clear h hn
    go_enter Tryz.func110, Tryz.ntmps110
    go_wp2_with fail
    refine (iIsNum_f _ _ hn').mono ?_
    rintro e w' ⟨rfl, rfl⟩
    go_wp2_with fail
    go_ret3
    exact ⟨rfl, rfl⟩
end Go.Proofs.YtcapddcmnjeloaaGreatDoor
end

section
/-
  Chapter 3, in the program: a matrix copied.
-/
namespace Go.Proofs.YtcapddcmnjeloaaGreatDoor
set_option maxRecDepth 100000
open Go.RowKit
def CopyM (r c : Int) (n : Nat) (zs : List Int) (w : World) (e : Ending) (w' : World) : Prop := ∃ q qc, e = .returned (.agg #[.int .i64 r, .int .i64 c, .slice q n qc]) ∧ Own w.heap.size w' (.slice q n qc) zs ∧ Below w.heap.size w w'
set_option maxHeartbeats 400000 in
theorem iCopyOf (r c : Int) (a : Option Addr) (cap n : Nat) (zs : List Int) (hz : zs.length = n) (w : World) (h : Rd w a zs) (hn : n ≤ 16777216) :
    Calls Tryz.prog 124 #[.agg #[.int .i64 r, .int .i64 c, .slice a n cap]] w (CopyM r c n zs w) := by
  have H := Lib.hid h
  have HZ := Lib.hid hz
  have K0 : Hid (Blk3 ((w.alloc (.cells #[.int .i64 r, .int .i64 c, .slice a n cap] 26)).alloc (.cells #[.int .i64 0, .int .i64 0, .slice none 0 0] 26)) w.heap.size 26 (.int .i64 r) (.int .i64 c) (.slice a n cap)) := (Blk3.at_ _ _ _ _ rfl).old _
  have K1 : Hid (Blk3 ((w.alloc (.cells #[.int .i64 r, .int .i64 c, .slice a n cap] 26)).alloc (.cells #[.int .i64 0, .int .i64 0, .slice none 0 0] 26)) (w.heap.size + 1) 26 (.int .i64 0) (.int .i64 0) (.slice none 0 0)) := Blk3.at_ _ _ _ _ (by simp)
  have B : Hid (Below w.heap.size w ((w.alloc (.cells #[.int .i64 r, .int .i64 c, .slice a n cap] 26)).alloc (.cells #[.int .i64 0, .int .i64 0, .slice none 0 0] 26))) := ((Below.refl _ _).alloc (Nat.le_refl _) _).alloc (by simp) _
  clear h hz
  go_enter Tryz.func124, Tryz.ntmps124
  go_wp2_with fail
  refine wp_region_held_drew (S := fun w' => Blk3 w' w.heap.size 26 (.int .i64 r) (.int .i64 c) (.slice a n cap) ∧ (∃ p q r, Blk3 w' (w.heap.size + 1) 26 p q r) ∧ Below w.heap.size w w') (by kernel_rfl) ⟨K0.out.drew, ⟨_, _, _, K1.out.drew⟩, B.out.drew⟩ (fun hH => ?_)
  refine wpAnyH_take (i := 0) (v := ?_) (by simp only [List.getElem?_toArray, List.getElem?_cons_zero]; rfl) (by kernel_rfl) (by kernel_rfl) (by kernel_rfl) (by exact fun _ _ _ h => h) (Or.inl ⟨by rfl, ?_⟩) hH ?_
  rotate_left
  · (intro wS hS; (try dsimp only at hS); obtain ⟨hS, -, -⟩ := hS; obtain ⟨k1, k2, k3, -, -, -⟩ := hS.all; go_simp; try rfl)
  try simp only [Act.put, List.setIfInBounds_toArray, List.set_cons_zero, List.set_cons_succ]
  refine wpAnyH_take (i := 1) (v := ?_) (by simp only [List.getElem?_toArray, List.getElem?_cons_succ, List.getElem?_cons_zero]; rfl) (by kernel_rfl) (by kernel_rfl) (by kernel_rfl) (by exact fun _ _ _ h => h) (Or.inl ⟨by rfl, ?_⟩) hH ?_
  rotate_left
  · (intro wS hS; (try dsimp only at hS); obtain ⟨hS, -, -⟩ := hS; obtain ⟨k1, k2, k3, -, -, -⟩ := hS.all; go_simp; try rfl)
  try simp only [Act.put, List.setIfInBounds_toArray, List.set_cons_zero, List.set_cons_succ]
  refine wpAnyH_take (i := 2) (v := ?_) (by simp only [List.getElem?_toArray, List.getElem?_cons_succ, List.getElem?_cons_zero]; rfl) (by kernel_rfl) (by kernel_rfl) (by kernel_rfl) (by exact fun _ _ _ h => h) (Or.inl ⟨by rfl, ?_⟩) hH ?_
  rotate_left
  · (intro wS hS; (try dsimp only at hS); obtain ⟨hS, -, -⟩ := hS; obtain ⟨k1, k2, k3, -, -, -⟩ := hS.all; go_simp; try rfl)
  try simp only [Act.put, List.setIfInBounds_toArray, List.set_cons_zero, List.set_cons_succ]
  refine wpAnyH_take (i := 3) (v := ?_) (by simp only [List.getElem?_toArray, List.getElem?_cons_succ, List.getElem?_cons_zero]; rfl) (by kernel_rfl) (by kernel_rfl) (by kernel_rfl) (by exact fun _ _ _ h => h) (Or.inl ⟨by rfl, ?_⟩) hH ?_
  rotate_left
  · (intro wS hS; (try dsimp only at hS); obtain ⟨hS, -, -⟩ := hS; obtain ⟨k1, k2, k3, -, -, -⟩ := hS.all; go_simp; try rfl)
  try simp only [Act.put, List.setIfInBounds_toArray, List.set_cons_zero, List.set_cons_succ]
  refine wpAnyH_take (i := 4) (v := ?_) (by simp only [List.getElem?_toArray, List.getElem?_cons_succ, List.getElem?_cons_zero]; rfl) (by kernel_rfl) (by kernel_rfl) (by kernel_rfl) (by exact fun _ _ _ h => h) (Or.inl ⟨by rfl, ?_⟩) hH ?_
  rotate_left
  · (intro wS hS; (try dsimp only at hS); obtain ⟨hS, -, -⟩ := hS; obtain ⟨k1, k2, k3, -, -, -⟩ := hS.all; go_simp; try rfl)
  try simp only [Act.put, List.setIfInBounds_toArray, List.set_cons_zero, List.set_cons_succ]
  refine wpAnyH_take (i := 5) (v := ?_) (by simp only [List.getElem?_toArray, List.getElem?_cons_succ, List.getElem?_cons_zero]; rfl) (by kernel_rfl) (by kernel_rfl) (by kernel_rfl) (by exact fun _ _ _ h => h) (Or.inl ⟨by rfl, ?_⟩) hH ?_
  rotate_left
  · (intro wS hS; (try dsimp only at hS); obtain ⟨hS, -, -⟩ := hS; obtain ⟨k1, k2, k3, -, -, -⟩ := hS.all; go_simp; try rfl)
  try simp only [Act.put, List.setIfInBounds_toArray, List.set_cons_zero, List.set_cons_succ]
  refine wpAnyH_ready (rs := [6]) (by kernel_rfl) (by simp) ?_
  refine AllReadyH.cons (by simp only [List.getElem?_toArray, List.getElem?_cons_succ, List.getElem?_cons_zero]; rfl) (fun K hK => ?_) AllReadyH.nil
  go_simp
  obtain ⟨hH0, ⟨p, q, s, hH1⟩, hH2⟩ := hH
  have l1 := hH1.lt
  (with_reducible refine (iCloneN a cap n zs HZ.out _ (H.out.below hH2) (by omega)).mono ?_)
  rintro e v1 ⟨q0, qc, rfl, own, hb1⟩
  try dsimp only
  have J0 := Lib.hid (hH0.step hb1)
  have J1 := Lib.hid (hH1.step hb1)
  have JB := Lib.hid (stepB hH2 hb1)
  have O := Lib.hid own
  have l2 : w.heap.size + 1 < _ := l1
  refine hK.out _ _ ⟨J0.out, ⟨_, _, _, J1.out⟩, JB.out⟩ (fun hH => ?_)
  clear hK K own
  try simp only [Act.put, List.setIfInBounds_toArray, List.set_cons_zero, List.set_cons_succ]
  refine wpAnyH_take (i := 7) (v := ?_) (by simp only [List.getElem?_toArray, List.getElem?_cons_succ, List.getElem?_cons_zero]; rfl) (by kernel_rfl) (by kernel_rfl) (by kernel_rfl) (by exact fun _ _ _ h => h) (Or.inl ⟨by rfl, ?_⟩) hH ?_
  rotate_left
  · (intro wS hS; clear hS; go_simp; try rfl)
  try simp only [Act.put, List.setIfInBounds_toArray, List.set_cons_zero, List.set_cons_succ]
  refine wpAnyH_ready (rs := [8]) (by kernel_rfl) (by simp) ?_
  refine AllReadyH.cons (by simp only [List.getElem?_toArray, List.getElem?_cons_succ, List.getElem?_cons_zero]; rfl) (fun K hK => ?_) AllReadyH.nil
  obtain ⟨y0, y1, y2, y3, y4, y5⟩ := J1.out.all
  clear hH
  go_simp
  have Z0 := Lib.hid (((J0.out.far (a := ⟨w.heap.size + 1, 0, none⟩) (by simp) (.int .i64 r)).far (a := ⟨w.heap.size + 1, 1, none⟩) (by simp) (.int .i64 c)).far (a := ⟨w.heap.size + 1, 2, none⟩) (by simp) (.slice q0 n qc))
  have Z1 := Lib.hid (((J1.out.set0 (.int .i64 r)).set1 (.int .i64 c)).set2 (.slice q0 n qc))
  have OO := Lib.hid (((O.out.far (a := ⟨w.heap.size + 1, 0, none⟩) l2 (.int .i64 r)).far (a := ⟨w.heap.size + 1, 1, none⟩) l2 (.int .i64 c)).far (a := ⟨w.heap.size + 1, 2, none⟩) l2 (.slice q0 n qc))
  refine hK.out _ _ ⟨Z0.out, ⟨_, _, _, Z1.out⟩, ((JB.out.setCell (Nat.le_succ _) _).setCell (Nat.le_succ _) _).setCell (Nat.le_succ _) _⟩ (fun hH => ?_)
  have ZB := Lib.hid hH.2.2
  clear hK K hH
  refine wpAnyH_done (by kernel_rfl) ?_ _
  go_wp2_with fail
  obtain ⟨E0, E1, E2, -, -, -⟩ := Z1.out.all
  exact bodyPost_ret (v := .agg #[.int .i64 r, .int .i64 c, .slice q0 n qc]) (by simp [results, Tryz.results124, go_sem, E0, E1, E2]) rfl ⟨q0, qc, rfl, OO.out.le (by omega), ZB.out⟩
end Go.Proofs.YtcapddcmnjeloaaGreatDoor
end

section
/-
  Plain mathematics of chapter 7: telling an echelon form. Nothing of a program is used.
-/
namespace Go.Proofs.YtcapddcmnjeloaaGreatDoor
end Go.Proofs.YtcapddcmnjeloaaGreatDoor
end

section
/-
  Plain mathematics of chapter 7: what a row is divided by in the program. Nothing of a program is used.
-/
namespace Go.Proofs.YtcapddcmnjeloaaGreatDoor
end Go.Proofs.YtcapddcmnjeloaaGreatDoor
end

section
/-
  Chapter 7, in the program: a row's first cell with something, and what the row is divided by.
-/
namespace Go.Proofs.YtcapddcmnjeloaaGreatDoor
set_option maxRecDepth 100000
open Go.RowKit
end Go.Proofs.YtcapddcmnjeloaaGreatDoor
end

section
/-
  Chapter 7, in the program: a row made primitive (the closure of EchelonOf).
-/
namespace Go.Proofs.YtcapddcmnjeloaaGreatDoor
set_option maxRecDepth 100000
open Go.RowKit
def Cel (w : World) (q : Option Addr) (N cap g : Nat) (xs : List Int) : Prop := (q = none ∧ cap = 0 ∧ N = 0 ∧ xs = []) ∨ (q = some ⟨g, 0, none⟩ ∧ N ≤ cap ∧ xs.length = N ∧ Ints w g xs)
theorem Cel.le {w : World} {q : Option Addr} {N cap g : Nat} {xs : List Int} (h : Cel w q N cap g xs) : N ≤ cap := by
  rcases h with ⟨-, h1, h2, -⟩ | ⟨-, h, -⟩ <;> omega
theorem Cel.len {w : World} {q : Option Addr} {N cap g : Nat} {xs : List Int} (h : Cel w q N cap g xs) : xs.length = N := by
  rcases h with ⟨-, -, h1, h2⟩ | ⟨-, -, h, -⟩
  · rw [h1, h2]; rfl
  · exact h
theorem Cel.ints {w : World} {q : Option Addr} {N cap g : Nat} {xs : List Int} (h : Cel w q N cap g xs) (h0 : 0 < N) : q = some ⟨g, 0, none⟩ ∧ Ints w g xs := by
  rcases h with ⟨-, -, h1, -⟩ | ⟨h1, -, -, h2⟩
  · omega
  · exact ⟨h1, h2⟩
theorem Cel.rd {w : World} {q : Option Addr} {N cap g : Nat} {xs : List Int} (h : Cel w q N cap g xs) : Rd w q xs := by
  rcases h with ⟨-, -, -, rfl⟩ | ⟨rfl, -, -, h⟩
  · exact Rd.nil _ _
  · exact h.rd
theorem Cel.move {w w' : World} {q : Option Addr} {N cap g : Nat} {xs : List Int} (h : Cel w q N cap g xs) (e : g < w.heap.size → w'.heap[g]? = w.heap[g]?) : Cel w' q N cap g xs := by
  rcases h with h | ⟨h1, h2, h3, h4⟩
  · exact .inl h
  · exact .inr ⟨h1, h2, h3, h4.move (e h4.lt)⟩
theorem Cel.keep {w w' : World} {q : Option Addr} {N cap g : Nat} {xs : List Int} (h : Cel w q N cap g xs) (hb : Below w.heap.size w w') : Cel w' q N cap g xs := h.move fun hl => hb.block g hl
theorem Cel.own {w : World} {q : Option Addr} {N cap g B : Nat} {xs : List Int} (h : Cel w q N cap g xs) (hB : B ≤ g) (hN : N ≤ 16777216) : Own B w (.slice q N cap) xs := by
  rcases h with ⟨rfl, rfl, rfl, rfl⟩ | ⟨rfl, h1, h2, h3⟩
  · exact .inl ⟨rfl, rfl⟩
  · exact .inr ⟨g, cap, by rw [h2], hB, h3, by omega, by omega⟩
end Go.Proofs.YtcapddcmnjeloaaGreatDoor
end
