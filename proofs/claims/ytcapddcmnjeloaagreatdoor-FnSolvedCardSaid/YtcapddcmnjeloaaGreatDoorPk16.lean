/-
  Texts of this seat, joined: ZBSolF · ZBSlM · ZBRatOpS · ZBSvRat · ZBApC · ZBIvxS · ZBReS · ZBReT · ZBSvSl · ZBRatI · ZBRatI2 · ZBRatOpI · ZBMatI · ZBRwI · ZBCelA · ZBRtI
-/
import Derived.BigQuiet
import Derived.Deep.QuietTactic
import Derived.Deep.LoopGhost
import Derived.Deep.CutBlock
import Derived.Deep.DeepCutAuto
import Derived.Deep.RegionWith
import Derived.IntWalk
import Derived.Test.YtcapddcmnjeloaaGreatDoorPk12
import Derived.Test.YtcapddcmnjeloaaGreatDoorPk13
import Derived.Test.YtcapddcmnjeloaaGreatDoorPk14
import Derived.Test.YtcapddcmnjeloaaGreatDoorPk15

section
/-
  Plain mathematics of chapter 11: what SolveByLifting answers, step by step.
-/
namespace Go.Proofs.YtcapddcmnjeloaaGreatDoor
structure LfP (r c : Int) (xs : List Int) (p : Int) : Prop where
  low : 101 ≤ p
  up : p ≤ 199
  inv : (ivX r c p xs).ok = true
  first : ∀ q, 101 ≤ q → q < p → (ivX r c q xs).ok = false
theorem LfP.uniq {r c p q : Int} {xs : List Int} (h : LfP r c xs p) (h' : LfP r c xs q) : p = q := by
  rcases Int.lt_trichotomy p q with h1 | h1 | h1
  · have := h'.first p h.low h1
    rw [h.inv] at this; cases this
  · exact h1
  · have := h.first q h'.low h1
    rw [h'.inv] at this; cases this
def nxX (n : Nat) (P : Int) (dg us : List Int) : List Int := (List.range n).map fun i => us.getD i 0 + P * dg.getD i 0
def nxR (p : Int) (n : Nat) (xs dg rs : List Int) : List Int := (List.range n).map fun i => (rs.getD i 0 - sumN n fun j => mxC n xs i j * dg.getD j 0) / p
theorem nxX_length (n : Nat) (P : Int) (dg us : List Int) : (nxX n P dg us).length = n := by simp [nxX]
theorem nxR_length (p : Int) (n : Nat) (xs dg rs : List Int) : (nxR p n xs dg rs).length = n := by simp [nxR]
theorem nxX_at {n i : Nat} {P : Int} {dg us : List Int} (hi : i < n) : (nxX n P dg us).getD i 0 = us.getD i 0 + P * dg.getD i 0 := by simp [nxX, List.getD, hi]
theorem nxR_at {p : Int} {n i : Nat} {xs dg rs : List Int} (hi : i < n) : (nxR p n xs dg rs).getD i 0 = (rs.getD i 0 - sumN n fun j => mxC n xs i j * dg.getD j 0) / p := by simp [nxR, List.getD, hi]
def lfS (p : Int) (n : Nat) (xs vs bs : List Int) : Nat → List Int × List Int
  | 0 => (List.replicate n 0, bs)
  | k + 1 => (nxX n (p ^ k) (solL p n vs (lfS p n xs vs bs k).2) (lfS p n xs vs bs k).1, nxR p n xs (solL p n vs (lfS p n xs vs bs k).2) (lfS p n xs vs bs k).2)
section
variable {p : Int} {n : Nat} {xs vs bs : List Int}
theorem lfS_x (k : Nat) : (lfS p n xs vs bs (k + 1)).1 = nxX n (p ^ k) (solL p n vs (lfS p n xs vs bs k).2) (lfS p n xs vs bs k).1 := rfl
theorem lfS_r (k : Nat) : (lfS p n xs vs bs (k + 1)).2 = nxR p n xs (solL p n vs (lfS p n xs vs bs k).2) (lfS p n xs vs bs k).2 := rfl
theorem lfS_xl (k : Nat) : (lfS p n xs vs bs k).1.length = n := by
  cases k with
  | zero => exact List.length_replicate ..
  | succ k => exact nxX_length _ _ _ _
theorem lfS_rl (hb : bs.length = n) (k : Nat) : (lfS p n xs vs bs k).2.length = n := by
  cases k with
  | zero => exact hb
  | succ k => exact nxR_length _ _ _ _ _
theorem lf_dvd (h : InvX p n (mxC n xs) (mxC n vs)) (rs : List Int) {i : Nat} (hi : i < n) : p ∣ rs.getD i 0 - sumN n fun j => mxC n xs i j * (solL p n vs rs).getD j 0 :=
  dig_dvd (rest := fun i => rs.getD i 0) (dg := fun j => (solL p n vs rs).getD j 0) h (fun j hj => by
    show Cg p ((solL p n vs rs).getD j 0) _
    rw [solL_at hj]; exact slF_cg _ _ _) hi
theorem lf_tdiv (h : InvX p n (mxC n xs) (mxC n vs)) (rs : List Int) {i : Nat} (hi : i < n) : (rs.getD i 0 - sumN n fun j => mxC n xs i j * (solL p n vs rs).getD j 0).tdiv p = (nxR p n xs (solL p n vs rs) rs).getD i 0 := by
  rw [nxR_at hi]; exact Int.tdiv_eq_ediv_of_dvd (lf_dvd h rs hi)
theorem lf_inv (hp : 0 < p) (h : InvX p n (mxC n xs) (mxC n vs)) : ∀ k, LInv n (mxC n xs) (fun i => bs.getD i 0) (fun j => (lfS p n xs vs bs k).1.getD j 0) (fun i => (lfS p n xs vs bs k).2.getD i 0) (p ^ k)
  | 0 => by
    have e : (fun j => (lfS p n xs vs bs 0).1.getD j 0) = fun _ => 0 := by
      funext j
      show (List.replicate n (0 : Int)).getD j 0 = 0
      rcases Nat.lt_or_ge j n with hj | hj
      · simp [List.getD, hj]
      · simp [List.getD, hj]
    rw [e, Int.pow_zero]
    exact LInv.start
  | k + 1 => by
    have I := (lf_inv hp h k).step (Int.pow_pos hp) (dg := fun j => (solL p n vs (lfS p n xs vs bs k).2).getD j 0) (r' := fun i => (lfS p n xs vs bs (k + 1)).2.getD i 0) (p := p) (fun j hj => solL_can hp hj) fun i hi => by
      show _ = p * (lfS p n xs vs bs (k + 1)).2.getD i 0
      rw [lfS_r, nxR_at hi]
      exact (Int.mul_ediv_cancel' (lf_dvd h _ hi)).symm
    rw [← Int.pow_succ] at I
    refine ⟨fun i hi => ?_, fun j hj => ?_⟩
    · rw [← I.sum i hi]
      refine congrArg (· + _) (sumN_congr fun j hj => ?_)
      show mxC n xs i j * (lfS p n xs vs bs (k + 1)).1.getD j 0 = _
      rw [lfS_x, nxX_at hj]
    · show 0 ≤ (lfS p n xs vs bs (k + 1)).1.getD j 0 ∧ (lfS p n xs vs bs (k + 1)).1.getD j 0 < _
      rw [lfS_x, nxX_at hj]
      exact I.can j hj
theorem lf_can (hp : 0 < p) (h : InvX p n (mxC n xs) (mxC n vs)) (k : Nat) {j : Nat} (hj : j < n) : 0 ≤ (lfS p n xs vs bs k).1.getD j 0 ∧ (lfS p n xs vs bs k).1.getD j 0 < p ^ k := (lf_inv hp h k).can j hj
theorem sum_bd {f : Nat → Int} {K : Int} : ∀ {m : Nat}, (∀ j, j < m → -K ≤ f j ∧ f j ≤ K) → -((m : Int) * K) ≤ sumN m f ∧ sumN m f ≤ (m : Int) * K
  | 0, _ => by show -(((0 : Nat) : Int) * K) ≤ 0 ∧ 0 ≤ ((0 : Nat) : Int) * K; simp
  | m + 1, h => by
    have h1 := sum_bd (m := m) fun j hj => h j (by omega)
    have h2 := h m (by omega)
    have e : ((m + 1 : Nat) : Int) * K = (m : Int) * K + K := by rw [Int.natCast_add, Int.add_mul]; simp
    rw [e]
    show _ ≤ sumN m f + f m ∧ sumN m f + f m ≤ _
    omega
theorem lf_sum (hp : 1 < p) (hx : xs.length = n * n) (hn : nums xs = true) (rs : List Int) {i m : Nat} (hi : i < n) (hm : m ≤ n) : -((m : Int) * (400000000 * (p - 1))) ≤ (sumN m fun j => mxC n xs i j * (solL p n vs rs).getD j 0) ∧ (sumN m fun j => mxC n xs i j * (solL p n vs rs).getD j 0) ≤ (m : Int) * (400000000 * (p - 1)) := sum_bd fun j hj => by
  have h1 := mx_nums hx hn hi (show j < n by omega)
  have h2 := solL_can (p := p) (by omega) (n := n) (vs := vs) (bs := rs) (show j < n by omega)
  exact mul_abs (A := 400000000) (B := p - 1) h1 ⟨by omega, by omega⟩
theorem lf_small (hp : 1 < p) (h6 : n ≤ 6) (hx : xs.length = n * n) (hn : nums xs = true) (hb : bs.length = n) (hm : nums bs = true) (h : InvX p n (mxC n xs) (mxC n vs)) : ∀ k, ∀ i, i < n → -2400000000 ≤ (lfS p n xs vs bs k).2.getD i 0 ∧ (lfS p n xs vs bs k).2.getD i 0 ≤ 2400000000
  | 0, i, hi => by
    have := nums_at hm (j := i) (by omega)
    unfold NumP at this
    show -2400000000 ≤ bs.getD i 0 ∧ bs.getD i 0 ≤ 2400000000
    omega
  | k + 1, i, hi => by
    have h1 := lf_small hp h6 hx hn hb hm h k i hi
    have h2 := lf_sum (vs := vs) hp hx hn (lfS p n xs vs bs k).2 hi (Nat.le_refl n)
    have h3 := lf_dvd h (lfS p n xs vs bs k).2 hi
    rw [lfS_r, nxR_at hi]
    obtain ⟨q, hq⟩ := h3
    rw [hq, Int.mul_ediv_cancel_left q (by omega)]
    have h4 : (n : Int) * (400000000 * (p - 1)) ≤ 6 * (400000000 * (p - 1)) := Int.mul_le_mul_of_nonneg_right (by omega) (by omega)
    generalize (n : Int) * (400000000 * (p - 1)) = N at h2 h4
    have h5 : -(p * 2400000000) ≤ p * q ∧ p * q ≤ p * 2400000000 := by omega
    constructor
    · refine Int.le_of_mul_le_mul_left (a := p) ?_ (by omega)
      have : p * -2400000000 = -(p * 2400000000) := by omega
      omega
    · exact Int.le_of_mul_le_mul_left h5.2 (by omega)
end
def lfK (p : Int) : Nat := if p ≤ 141 then 4 else 3
def LfGo (p P : Int) : Prop := P ≤ 200000000 ∧ P ≤ 400000000 / p
instance (p P : Int) : Decidable (LfGo p P) := by unfold LfGo; exact inferInstance
theorem lfK_go {p : Int} (h1 : 101 ≤ p) (h2 : p ≤ 199) : (∀ k, k < lfK p → LfGo p (p ^ k)) ∧ ¬ LfGo p (p ^ lfK p) ∧ 1000000 ≤ p ^ lfK p ∧ p ^ lfK p ≤ 400000000 := by
  have key : (List.range 99).all (fun i => decide ((∀ k, k < lfK (((101 + i : Nat)) : Int) → LfGo ((101 + i : Nat) : Int) (((101 + i : Nat) : Int) ^ k)) ∧ ¬ LfGo ((101 + i : Nat) : Int) (((101 + i : Nat) : Int) ^ lfK ((101 + i : Nat) : Int)) ∧ 1000000 ≤ ((101 + i : Nat) : Int) ^ lfK ((101 + i : Nat) : Int) ∧ ((101 + i : Nat) : Int) ^ lfK ((101 + i : Nat) : Int) ≤ 400000000)) = true := by decide +kernel
  obtain ⟨q, rfl⟩ := Int.eq_ofNat_of_zero_le (show 0 ≤ p by omega)
  have := List.all_eq_true.mp key (q - 101) (List.mem_range.mpr (by omega))
  rw [show 101 + (q - 101) = q by omega] at this
  exact of_decide_eq_true this
theorem lfK_more {p : Int} {k : Nat} (h1 : 101 ≤ p) (h2 : p ≤ 199) (hk : k ≤ lfK p) (hg : LfGo p (p ^ k)) : k < lfK p := by
  rcases Nat.lt_or_ge k (lfK p) with h | h
  · exact h
  · obtain rfl : k = lfK p := by omega
    exact absurd hg (lfK_go h1 h2).2.1
theorem lfK_end {p : Int} {k : Nat} (h1 : 101 ≤ p) (h2 : p ≤ 199) (hk : k ≤ lfK p) (hg : ¬ LfGo p (p ^ k)) : k = lfK p := by
  rcases Nat.lt_or_ge k (lfK p) with h | h
  · exact absurd ((lfK_go h1 h2).1 k h) hg
  · omega
theorem lfK_num {p : Int} {k : Nat} (h1 : 101 ≤ p) (h2 : p ≤ 199) (hk : k ≤ lfK p) : 1 ≤ p ^ k ∧ p ^ k ≤ 400000000 := by
  refine ⟨by have : 0 < p ^ k := Int.pow_pos (show 0 < p by omega); omega, ?_⟩
  rcases Nat.lt_or_ge k (lfK p) with h | h
  · have := ((lfK_go h1 h2).1 k h).1
    omega
  · obtain rfl : k = lfK p := by omega
    exact (lfK_go h1 h2).2.2.2
def lfBs (P : Int) : Nat → Nat
  | 0 => 0
  | k + 1 => if 2 * ((k + 1 : Nat) : Int) * ((k + 1 : Nat) : Int) < P then k + 1 else lfBs P k
def lfB (P : Int) : Int := lfBs P 10000
theorem lfBs_yes {P : Int} {k : Nat} (h : 2 * (k : Int) * (k : Int) < P) : lfBs P k = k := by
  cases k with
  | zero => rfl
  | succ k => exact if_pos h
theorem lfBs_no {P : Int} {k : Nat} (h : ¬ 2 * ((k + 1 : Nat) : Int) * ((k + 1 : Nat) : Int) < P) : lfBs P (k + 1) = lfBs P k := if_neg h
theorem lfBs_eq {P : Int} {B : Nat} (h1 : 2 * (B : Int) * (B : Int) < P) : ∀ {k : Nat}, B ≤ k → (B = k ∨ P ≤ 2 * ((B + 1 : Nat) : Int) * ((B + 1 : Nat) : Int)) → lfBs P k = B
  | 0, h2, _ => by
    obtain rfl : B = 0 := by omega
    rfl
  | k + 1, h2, h3 => by
    rcases Nat.lt_or_ge B (k + 1) with h4 | h4
    · have h5 : P ≤ 2 * ((B + 1 : Nat) : Int) * ((B + 1 : Nat) : Int) := by
        rcases h3 with h3 | h3
        · omega
        · exact h3
      have h6 : 2 * ((B + 1 : Nat) : Int) * ((B + 1 : Nat) : Int) ≤ 2 * ((k + 1 : Nat) : Int) * ((k + 1 : Nat) : Int) := Int.mul_le_mul (by omega) (by omega) (by omega) (by omega)
      rw [lfBs_no (by omega)]
      exact lfBs_eq h1 (by omega) (.inr h5)
    · obtain rfl : B = k + 1 := by omega
      exact lfBs_yes h1
theorem lfB_eq {P B : Int} (h0 : 0 ≤ B) (h1 : 2 * B * B < P) (h2 : B ≤ 10000) (h3 : B = 10000 ∨ P ≤ 2 * (B + 1) * (B + 1)) : lfB P = B := by
  obtain ⟨b, rfl⟩ := Int.eq_ofNat_of_zero_le h0
  unfold lfB
  rw [lfBs_eq h1 (by omega) (by
    rcases h3 with h3 | h3
    · exact .inl (by omega)
    · exact .inr h3)]
noncomputable def slR (p : Int) (n : Nat) (xs bs : List Int) (i : Nat) : Int × Int × Bool := rtX ((lfS p n xs (ivX n n p xs).zs bs (lfK p)).1.getD i 0) (p ^ lfK p) (lfB (p ^ lfK p))
noncomputable def slZ (p : Int) (n : Nat) (xs bs : List Int) (i : Nat) : List (Int × Int) := (List.range i).map fun k => ((slR p n xs bs k).1, (slR p n xs bs k).2.1)
theorem slZ_length (p : Int) (n : Nat) (xs bs : List Int) (i : Nat) : (slZ p n xs bs i).length = i := by simp [slZ]
theorem slZ_succ (p : Int) (n : Nat) (xs bs : List Int) (i : Nat) : slZ p n xs bs (i + 1) = slZ p n xs bs i ++ [((slR p n xs bs i).1, (slR p n xs bs i).2.1)] := by simp [slZ, List.range_succ]
noncomputable def slQ (p : Int) (n : Nat) (xs bs : List Int) : List (Int × Int) × Bool := if ((List.range n).all (fun i => (slR p n xs bs i).2.2) && irB n n xs bs (slZ p n xs bs n)) = true then (slZ p n xs bs n, true) else ([], false)
theorem slQ_bad {p : Int} {n i : Nat} {xs bs : List Int} (hi : i < n) (h : (slR p n xs bs i).2.2 = false) : slQ p n xs bs = ([], false) := by
  unfold slQ
  refine if_neg fun h2 => ?_
  rw [Bool.and_eq_true, List.all_eq_true] at h2
  have := h2.1 i (List.mem_range.mpr hi)
  rw [h] at this; cases this
theorem slQ_ir {p : Int} {n : Nat} {xs bs : List Int} (h : irB n n xs bs (slZ p n xs bs n) = false) : slQ p n xs bs = ([], false) := by
  unfold slQ
  rw [h, Bool.and_false]; rfl
theorem slQ_yes {p : Int} {n : Nat} {xs bs : List Int} (h : ∀ i, i < n → (slR p n xs bs i).2.2 = true) (h2 : irB n n xs bs (slZ p n xs bs n) = true) : slQ p n xs bs = (slZ p n xs bs n, true) := by
  unfold slQ
  refine if_pos ?_
  rw [h2, Bool.and_true]
  exact List.all_eq_true.mpr fun i hi => h i (List.mem_range.mp hi)
theorem slQ_says {p : Int} {n : Nat} {xs bs : List Int} (h : (slQ p n xs bs).2 = true) : irB n n xs bs (slQ p n xs bs).1 = true := by
  by_cases hh : ((List.range n).all (fun i => (slR p n xs bs i).2.2) && irB n n xs bs (slZ p n xs bs n)) = true
  · unfold slQ
    rw [if_pos hh]
    rw [Bool.and_eq_true] at hh
    exact hh.2
  · unfold slQ at h; rw [if_neg hh] at h; cases h
open Classical in
noncomputable def slX (r c : Int) (xs bs : List Int) : List (Int × Int) × Bool := if h : sysB r c xs bs = true ∧ ∃ p, LfP r c xs p then slQ h.2.choose r.toNat xs bs else ([], false)
theorem slX_sys {r c : Int} {xs bs : List Int} (h : sysB r c xs bs = false) : slX r c xs bs = ([], false) := by
  unfold slX
  exact dif_neg fun h2 => by rw [h] at h2; cases h2.1
theorem slX_none {r c : Int} {xs bs : List Int} (h : ∀ q, 101 ≤ q → q ≤ 199 → (ivX r c q xs).ok = false) : slX r c xs bs = ([], false) := by
  unfold slX
  refine dif_neg ?_
  rintro ⟨-, p, hp⟩
  have := h p hp.low hp.up
  rw [hp.inv] at this; cases this
theorem slX_at {n : Nat} {p : Int} {xs bs : List Int} (h : sysB n n xs bs = true) (hp : LfP n n xs p) : slX n n xs bs = slQ p n xs bs := by
  have hx : sysB n n xs bs = true ∧ ∃ p, LfP n n xs p := ⟨h, p, hp⟩
  unfold slX
  rw [dif_pos hx, hx.2.choose_spec.uniq hp]; rfl
theorem slX_says {r c : Int} {xs bs : List Int} (h : (slX r c xs bs).2 = true) : ∃ n : Nat, r = n ∧ c = n ∧ n ≤ 6 ∧ sysB r c xs bs = true ∧ det n (mxL n xs) ≠ 0 ∧ (slX r c xs bs).1.length = n ∧ irB r c xs bs (slX r c xs bs).1 = true := by
  cases hs : sysB r c xs bs with
  | false => rw [slX_sys hs] at h; cases h
  | true =>
    obtain ⟨n, rfl, rfl, h6, hl, hn, hb, hm⟩ := sysB_says hs
    by_cases hx : ∃ p, LfP n n xs p
    rotate_left
    · unfold slX at h
      rw [dif_neg fun h2 => hx h2.2] at h; cases h
    obtain ⟨p, hp⟩ := hx
    rw [slX_at hs hp] at h ⊢
    have hi := slQ_says h
    have hI : InvX p n (mxC n xs) (mxC n (ivL p n xs)) := by
      obtain ⟨m, hm, -, -, hpr, hl2, -, hge, -⟩ := ivX_says hp.inv
      obtain rfl : n = m := by omega
      exact (elW_inv (prmB_says hpr).1 hl2).2.1 (by omega)
    have hpr : Prm p := by
      obtain ⟨m, -, -, -, hpr, -⟩ := ivX_says hp.inv
      exact (prmB_says hpr).1
    refine ⟨n, rfl, rfl, h6, rfl, fun h0 => ?_, (irB_sol hi).1, hi⟩
    refine hI.ne hpr ?_
    show p ∣ det n (mxL n xs)
    rw [h0]; exact Int.dvd_zero p
theorem sd_sl {r c : Int} {xs bs : List Int} (h1 : (sdX r c xs bs).2 = true) (h2 : (slX r c xs bs).2 = true) : (sdX r c xs bs).1 = (slX r c xs bs).1 := by
  obtain ⟨n, -, -, -, -, -, -, h3⟩ := slX_says h2
  exact sd_ir h1 h3
theorem se_sl {r c : Int} {xs bs : List Int} (h1 : (seX r c xs bs).2 = true) (h2 : (slX r c xs bs).2 = true) : (seX r c xs bs).1 = (slX r c xs bs).1 := by
  obtain ⟨n, rfl, rfl, -, -, hd, -, h3⟩ := slX_says h2
  exact se_ir hd h1 h3
end Go.Proofs.YtcapddcmnjeloaaGreatDoor
end

section
/-
  Chapter 11: what a walk of SolveByLifting needs of its steps. Nothing of a program is used.
-/
namespace Go.Proofs.YtcapddcmnjeloaaGreatDoor
def twL (n : Nat) (f g : List Int) (i : Nat) : List Int := (List.range n).map fun a => if a < i then f.getD a 0 else g.getD a 0
theorem twL_length (n : Nat) (f g : List Int) (i : Nat) : (twL n f g i).length = n := by simp [twL]
theorem twL_at {n i a : Nat} {f g : List Int} (h : a < n) : (twL n f g i).getD a 0 = if a < i then f.getD a 0 else g.getD a 0 := by simp [twL, List.getD, h]
theorem twL_zero {n : Nat} {f g : List Int} (h : g.length = n) : twL n f g 0 = g := by
  refine List.ext_getElem (by rw [twL_length, h]) fun a h1 h2 => ?_
  simp [twL, List.getD, h2]
theorem twL_all {n : Nat} {f g : List Int} (h : f.length = n) : twL n f g n = f := by
  refine List.ext_getElem (by rw [twL_length, h]) fun a h1 h2 => ?_
  rw [twL_length] at h1
  simp [twL, List.getD, h1, h2]
theorem twL_set {n i : Nat} {f g : List Int} : (twL n f g i).set i (f.getD i 0) = twL n f g (i + 1) := by
  refine List.ext_getElem (by simp [twL]) fun a h1 h2 => ?_
  rw [twL_length] at h2
  by_cases hai : i = a
  · subst hai
    simp [twL]
  · rw [List.getElem_set_ne hai]
    simp only [twL, List.getElem_map, List.getElem_range]
    by_cases h3 : a < i
    · rw [if_pos h3, if_pos (by omega)]
    · rw [if_neg h3, if_neg (by omega)]
def sF (n : Nat) (xs ds rs : List Int) (i j : Nat) : Int := rs.getD i 0 - sumN j fun k => mxC n xs i k * ds.getD k 0
theorem sF_zero (n : Nat) (xs ds rs : List Int) (i : Nat) : sF n xs ds rs i 0 = rs.getD i 0 := by
  show rs.getD i 0 - 0 = _
  omega
theorem sF_succ (n : Nat) (xs ds rs : List Int) (i j : Nat) : sF n xs ds rs i (j + 1) = sF n xs ds rs i j - xs.getD (i * n + j) 0 * ds.getD j 0 := by
  unfold sF
  show rs.getD i 0 - (sumN j _ + mxC n xs i j * ds.getD j 0) = _
  unfold mxC
  omega
structure LfH (p : Int) (n : Nat) (xs vs bs : List Int) : Prop where
  lo : 101 ≤ p
  hi : p ≤ 199
  h6 : n ≤ 6
  hx : xs.length = n * n
  nx : nums xs = true
  hb : bs.length = n
  nb : nums bs = true
  hv : vs.length = n * n
  can : CanL p vs
  inv : InvX p n (mxC n xs) (mxC n vs)
section
variable {p : Int} {n : Nat} {xs vs bs : List Int}
theorem LfH.rest (H : LfH p n xs vs bs) (k : Nat) : (lfS p n xs vs bs k).2.length = n ∧ ∀ i, i < n → -2400000000 ≤ (lfS p n xs vs bs k).2.getD i 0 ∧ (lfS p n xs vs bs k).2.getD i 0 ≤ 2400000000 :=
  ⟨lfS_rl H.hb k, fun i hi => lf_small (by have := H.lo; omega) H.h6 H.hx H.nx H.hb H.nb H.inv k i hi⟩
theorem LfH.sums (H : LfH p n xs vs bs) (k : Nat) {i j : Nat} (hi : i < n) (hj : j ≤ n) : -1000000000000 ≤ sF n xs (solL p n vs (lfS p n xs vs bs k).2) (lfS p n xs vs bs k).2 i j ∧ sF n xs (solL p n vs (lfS p n xs vs bs k).2) (lfS p n xs vs bs k).2 i j ≤ 1000000000000 := by
  have h1 := (H.rest k).2 i hi
  have h2 := lf_sum (p := p) (vs := vs) (by have := H.lo; omega) H.hx H.nx (lfS p n xs vs bs k).2 hi hj
  have h3 : (j : Int) * (400000000 * (p - 1)) ≤ 6 * (400000000 * (p - 1)) := Int.mul_le_mul_of_nonneg_right (by have := H.h6; omega) (by have := H.lo; omega)
  have := H.hi
  unfold sF
  omega
theorem LfH.prod (H : LfH p n xs vs bs) (k : Nat) {i j : Nat} (hi : i < n) (hj : j < n) : -80000000000 ≤ xs.getD (i * n + j) 0 * (solL p n vs (lfS p n xs vs bs k).2).getD j 0 ∧ xs.getD (i * n + j) 0 * (solL p n vs (lfS p n xs vs bs k).2).getD j 0 ≤ 80000000000 := by
  have h1 := mx_nums H.hx H.nx hi hj
  have h2 := solL_can (p := p) (by have := H.lo; omega) (n := n) (vs := vs) (bs := (lfS p n xs vs bs k).2) hj
  have := H.hi
  have h3 := mul_abs (A := 400000000) (B := 200) h1 (show -200 ≤ (solL p n vs (lfS p n xs vs bs k).2).getD j 0 ∧ _ ≤ 200 by omega)
  unfold mxC at h3
  omega
theorem LfH.quo (H : LfH p n xs vs bs) (k : Nat) {i : Nat} (hi : i < n) : (sF n xs (solL p n vs (lfS p n xs vs bs k).2) (lfS p n xs vs bs k).2 i n).tdiv p = (lfS p n xs vs bs (k + 1)).2.getD i 0 := by
  rw [lfS_r]
  exact lf_tdiv H.inv _ hi
theorem LfH.next (H : LfH p n xs vs bs) {k : Nat} (hk : k < lfK p) {i : Nat} (hi : i < n) : (lfS p n xs vs bs (k + 1)).1.getD i 0 = (lfS p n xs vs bs k).1.getD i 0 + p ^ k * (solL p n vs (lfS p n xs vs bs k).2).getD i 0 ∧ (0 ≤ (lfS p n xs vs bs k).1.getD i 0 ∧ (lfS p n xs vs bs k).1.getD i 0 ≤ 400000000) ∧ (0 ≤ p ^ k * (solL p n vs (lfS p n xs vs bs k).2).getD i 0 ∧ p ^ k * (solL p n vs (lfS p n xs vs bs k).2).getD i 0 ≤ 400000000) ∧ (lfS p n xs vs bs (k + 1)).1.getD i 0 ≤ 400000000 := by
  have hp : 0 < p := by have := H.lo; omega
  have c0 := lf_can (bs := bs) hp H.inv k hi
  have c1 := lf_can (bs := bs) hp H.inv (k + 1) hi
  have n0 := lfK_num H.lo H.hi (k := k) (by omega)
  have n1 := lfK_num H.lo H.hi (k := k + 1) (by omega)
  have s := solL_can (p := p) hp (n := n) (vs := vs) (bs := (lfS p n xs vs bs k).2) hi
  have e : (lfS p n xs vs bs (k + 1)).1.getD i 0 = (lfS p n xs vs bs k).1.getD i 0 + p ^ k * (solL p n vs (lfS p n xs vs bs k).2).getD i 0 := by rw [lfS_x, nxX_at hi]
  have h0 := Int.mul_nonneg (show 0 ≤ p ^ k by omega) s.1
  exact ⟨e, ⟨c0.1, by omega⟩, ⟨h0, by omega⟩, by omega⟩
theorem LfH.pow (H : LfH p n xs vs bs) {k : Nat} (hk : k < lfK p) : p ^ k * p = p ^ (k + 1) ∧ 1 ≤ p ^ (k + 1) ∧ p ^ (k + 1) ≤ 400000000 := ⟨(Int.pow_succ p k).symm, lfK_num H.lo H.hi (by omega)⟩
end
end Go.Proofs.YtcapddcmnjeloaaGreatDoor
end

section
/-
  Chapter 2, in the model: sums, products, quotients.
-/
namespace Go.Proofs.YtcapddcmnjeloaaGreatDoor
open Go.RowKit
set_option maxHeartbeats 800000 in
theorem sAdd (a b c d : Int) (w : World) : Calls Tryz.prog 47 #[.agg #[.int .i64 a, .int .i64 b], .agg #[.int .i64 c, .int .i64 d]] w (Gives (ratV (addR a b c d)) w) := by
  rcases Bool.eq_false_or_eq_true (isRat a b) with ha | ha
  · rcases Bool.eq_false_or_eq_true (isRat c d) with hc | hc
    · have L : Hid (addR a b c d = low (a * d + c * b) (b * d)) := by show addR a b c d = _; unfold addR; rw [ha, hc]; rfl
      have pa := isRat_in (of_decide_eq_true ha)
      have pc := isRat_in (of_decide_eq_true hc)
      obtain ⟨m1, m2⟩ := mul_sm a d pa.1 pc.2
      obtain ⟨m3, m4⟩ := mul_sm c b pc.1 pa.2
      obtain ⟨m5, m6⟩ := mul_sm b d pa.2 pc.2
      obtain ⟨m7, m8⟩ := mul_sm a c pa.1 pc.1
      obtain ⟨m9, m10⟩ := mul_sm b c pa.2 pc.1
      go_enter Tryz.func47, Tryz.ntmps47
      go_wp2_with fail
      refine (sIsRat a b _).mono ?_
      rintro e w1 ⟨rfl, hb⟩
      have K0 : Hid (Blk2 w1 w.heap.size 40 (.int .i64 a) (.int .i64 b)) := (((Blk2.at_ _ _ _ rfl).old _).old _).keep hb (by simp <;> omega)
      have K1 : Hid (Blk2 w1 (w.heap.size + 1) 40 (.int .i64 c) (.int .i64 d)) := ((Blk2.at_ _ _ _ (by simp)).old _).keep hb (by simp <;> omega)
      have K2 : Hid (Blk2 w1 (w.heap.size + 1 + 1) 40 (.int .i64 0) (.int .i64 0)) := (Blk2.at_ _ _ _ (by simp)).keep hb (by simp <;> omega)
      have B : Hid (Below w.heap.size w w1) := Below.trans (by repeat (first | exact Below.refl _ _ | refine Below.alloc ?_ (by simp <;> omega) _)) (hb.mono (by simp <;> omega))
      obtain ⟨K0a1, K0b1, K0c1, K0d1⟩ := K0.out.all
      obtain ⟨K1a1, K1b1, K1c1, K1d1⟩ := K1.out.all
      obtain ⟨K2a1, K2b1, K2c1, K2d1⟩ := K2.out.all
      clear hb
      rw [ha]
      go_wp2_with fail
      refine (sIsRat c d _).mono ?_
      rintro e w2 ⟨rfl, hb⟩
      have K0 : Hid (Blk2 w2 w.heap.size 40 (.int .i64 a) (.int .i64 b)) := K0.out.keep hb K0.out.lt
      have K1 : Hid (Blk2 w2 (w.heap.size + 1) 40 (.int .i64 c) (.int .i64 d)) := K1.out.keep hb K1.out.lt
      have K2 : Hid (Blk2 w2 (w.heap.size + 1 + 1) 40 (.int .i64 0) (.int .i64 0)) := K2.out.keep hb K2.out.lt
      have B := Lib.hid (B.out.trans (hb.mono B.out.size))
      obtain ⟨K0a2, K0b2, K0c2, K0d2⟩ := K0.out.all
      obtain ⟨K1a2, K1b2, K1c2, K1d2⟩ := K1.out.all
      obtain ⟨K2a2, K2b2, K2c2, K2d2⟩ := K2.out.all
      clear hb
      rw [hc]
      go_wp2_with fail
      refine (sMake (a * d + c * b) (b * d) _ (by omega) (by omega)).mono ?_
      rintro e w3 ⟨rfl, hb⟩
      have K2 : Hid (Blk2 w3 (w.heap.size + 1 + 1) 40 (.int .i64 0) (.int .i64 0)) := K2.out.keep hb K2.out.lt
      have B := Lib.hid (B.out.trans (hb.mono B.out.size))
      obtain ⟨K2a3, K2b3, K2c3, K2d3⟩ := K2.out.all
      clear hb
      unfold ratV
      go_wp2_with fail
      obtain ⟨E0, E1, -, -⟩ := ((K2.out.set0 (.int .i64 (low (a * d + c * b) (b * d)).1)).set1 (.int .i64 (low (a * d + c * b) (b * d)).2)).all
      refine bodyPost_ret (v := ratV (low (a * d + c * b) (b * d))) (by simp [results, Tryz.results47, go_sem, E0, E1, ratV]) rfl ⟨by rw [L.out], ?_⟩
      exact (B.out.setCell (by show w.heap.size ≤ w.heap.size + 1 + 1; omega) _).setCell (by show w.heap.size ≤ w.heap.size + 1 + 1; omega) _
    · have L : Hid (addR a b c d = (0, 0)) := by show addR a b c d = _; unfold addR; rw [ha, hc]; rfl
      go_enter Tryz.func47, Tryz.ntmps47
      go_wp2_with fail
      refine (sIsRat a b _).mono ?_
      rintro e w1 ⟨rfl, hb⟩
      have K0 : Hid (Blk2 w1 w.heap.size 40 (.int .i64 a) (.int .i64 b)) := (((Blk2.at_ _ _ _ rfl).old _).old _).keep hb (by simp <;> omega)
      have K1 : Hid (Blk2 w1 (w.heap.size + 1) 40 (.int .i64 c) (.int .i64 d)) := ((Blk2.at_ _ _ _ (by simp)).old _).keep hb (by simp <;> omega)
      have K2 : Hid (Blk2 w1 (w.heap.size + 1 + 1) 40 (.int .i64 0) (.int .i64 0)) := (Blk2.at_ _ _ _ (by simp)).keep hb (by simp <;> omega)
      have B : Hid (Below w.heap.size w w1) := Below.trans (by repeat (first | exact Below.refl _ _ | refine Below.alloc ?_ (by simp <;> omega) _)) (hb.mono (by simp <;> omega))
      obtain ⟨K0a1, K0b1, K0c1, K0d1⟩ := K0.out.all
      obtain ⟨K1a1, K1b1, K1c1, K1d1⟩ := K1.out.all
      obtain ⟨K2a1, K2b1, K2c1, K2d1⟩ := K2.out.all
      clear hb
      rw [ha]
      go_wp2_with fail
      refine (sIsRat c d _).mono ?_
      rintro e w2 ⟨rfl, hb⟩
      have K0 : Hid (Blk2 w2 w.heap.size 40 (.int .i64 a) (.int .i64 b)) := K0.out.keep hb K0.out.lt
      have K1 : Hid (Blk2 w2 (w.heap.size + 1) 40 (.int .i64 c) (.int .i64 d)) := K1.out.keep hb K1.out.lt
      have K2 : Hid (Blk2 w2 (w.heap.size + 1 + 1) 40 (.int .i64 0) (.int .i64 0)) := K2.out.keep hb K2.out.lt
      have B := Lib.hid (B.out.trans (hb.mono B.out.size))
      obtain ⟨K0a2, K0b2, K0c2, K0d2⟩ := K0.out.all
      obtain ⟨K1a2, K1b2, K1c2, K1d2⟩ := K1.out.all
      obtain ⟨K2a2, K2b2, K2c2, K2d2⟩ := K2.out.all
      clear hb
      rw [hc]
      go_wp2_with fail
      obtain ⟨E0, E1, -, -⟩ := ((K2.out.set0 (.int .i64 0)).set1 (.int .i64 0)).all
      refine bodyPost_ret (v := ratV (0, 0)) (by simp [results, Tryz.results47, go_sem, E0, E1, ratV]) rfl ⟨by rw [L.out], ?_⟩
      exact (B.out.setCell (by show w.heap.size ≤ w.heap.size + 1 + 1; omega) _).setCell (by show w.heap.size ≤ w.heap.size + 1 + 1; omega) _
  · have L : Hid (addR a b c d = (0, 0)) := by show addR a b c d = _; unfold addR; rw [ha]; rfl
    go_enter Tryz.func47, Tryz.ntmps47
    go_wp2_with fail
    refine (sIsRat a b _).mono ?_
    rintro e w1 ⟨rfl, hb⟩
    have K0 : Hid (Blk2 w1 w.heap.size 40 (.int .i64 a) (.int .i64 b)) := (((Blk2.at_ _ _ _ rfl).old _).old _).keep hb (by simp <;> omega)
    have K1 : Hid (Blk2 w1 (w.heap.size + 1) 40 (.int .i64 c) (.int .i64 d)) := ((Blk2.at_ _ _ _ (by simp)).old _).keep hb (by simp <;> omega)
    have K2 : Hid (Blk2 w1 (w.heap.size + 1 + 1) 40 (.int .i64 0) (.int .i64 0)) := (Blk2.at_ _ _ _ (by simp)).keep hb (by simp <;> omega)
    have B : Hid (Below w.heap.size w w1) := Below.trans (by repeat (first | exact Below.refl _ _ | refine Below.alloc ?_ (by simp <;> omega) _)) (hb.mono (by simp <;> omega))
    obtain ⟨K0a1, K0b1, K0c1, K0d1⟩ := K0.out.all
    obtain ⟨K1a1, K1b1, K1c1, K1d1⟩ := K1.out.all
    obtain ⟨K2a1, K2b1, K2c1, K2d1⟩ := K2.out.all
    clear hb
    rw [ha]
    go_wp2_with fail
    obtain ⟨E0, E1, -, -⟩ := ((K2.out.set0 (.int .i64 0)).set1 (.int .i64 0)).all
    refine bodyPost_ret (v := ratV (0, 0)) (by simp [results, Tryz.results47, go_sem, E0, E1, ratV]) rfl ⟨by rw [L.out], ?_⟩
    exact (B.out.setCell (by show w.heap.size ≤ w.heap.size + 1 + 1; omega) _).setCell (by show w.heap.size ≤ w.heap.size + 1 + 1; omega) _
set_option maxHeartbeats 800000 in
theorem sMul (a b c d : Int) (w : World) : Calls Tryz.prog 48 #[.agg #[.int .i64 a, .int .i64 b], .agg #[.int .i64 c, .int .i64 d]] w (Gives (ratV (mulR a b c d)) w) := by
  rcases Bool.eq_false_or_eq_true (isRat a b) with ha | ha
  · rcases Bool.eq_false_or_eq_true (isRat c d) with hc | hc
    · have L : Hid (mulR a b c d = low (a * c) (b * d)) := by show mulR a b c d = _; unfold mulR; rw [ha, hc]; rfl
      have pa := isRat_in (of_decide_eq_true ha)
      have pc := isRat_in (of_decide_eq_true hc)
      obtain ⟨m1, m2⟩ := mul_sm a d pa.1 pc.2
      obtain ⟨m3, m4⟩ := mul_sm c b pc.1 pa.2
      obtain ⟨m5, m6⟩ := mul_sm b d pa.2 pc.2
      obtain ⟨m7, m8⟩ := mul_sm a c pa.1 pc.1
      obtain ⟨m9, m10⟩ := mul_sm b c pa.2 pc.1
      go_enter Tryz.func48, Tryz.ntmps48
      go_wp2_with fail
      refine (sIsRat a b _).mono ?_
      rintro e w1 ⟨rfl, hb⟩
      have K0 : Hid (Blk2 w1 w.heap.size 40 (.int .i64 a) (.int .i64 b)) := (((Blk2.at_ _ _ _ rfl).old _).old _).keep hb (by simp <;> omega)
      have K1 : Hid (Blk2 w1 (w.heap.size + 1) 40 (.int .i64 c) (.int .i64 d)) := ((Blk2.at_ _ _ _ (by simp)).old _).keep hb (by simp <;> omega)
      have K2 : Hid (Blk2 w1 (w.heap.size + 1 + 1) 40 (.int .i64 0) (.int .i64 0)) := (Blk2.at_ _ _ _ (by simp)).keep hb (by simp <;> omega)
      have B : Hid (Below w.heap.size w w1) := Below.trans (by repeat (first | exact Below.refl _ _ | refine Below.alloc ?_ (by simp <;> omega) _)) (hb.mono (by simp <;> omega))
      obtain ⟨K0a1, K0b1, K0c1, K0d1⟩ := K0.out.all
      obtain ⟨K1a1, K1b1, K1c1, K1d1⟩ := K1.out.all
      obtain ⟨K2a1, K2b1, K2c1, K2d1⟩ := K2.out.all
      clear hb
      rw [ha]
      go_wp2_with fail
      refine (sIsRat c d _).mono ?_
      rintro e w2 ⟨rfl, hb⟩
      have K0 : Hid (Blk2 w2 w.heap.size 40 (.int .i64 a) (.int .i64 b)) := K0.out.keep hb K0.out.lt
      have K1 : Hid (Blk2 w2 (w.heap.size + 1) 40 (.int .i64 c) (.int .i64 d)) := K1.out.keep hb K1.out.lt
      have K2 : Hid (Blk2 w2 (w.heap.size + 1 + 1) 40 (.int .i64 0) (.int .i64 0)) := K2.out.keep hb K2.out.lt
      have B := Lib.hid (B.out.trans (hb.mono B.out.size))
      obtain ⟨K0a2, K0b2, K0c2, K0d2⟩ := K0.out.all
      obtain ⟨K1a2, K1b2, K1c2, K1d2⟩ := K1.out.all
      obtain ⟨K2a2, K2b2, K2c2, K2d2⟩ := K2.out.all
      clear hb
      rw [hc]
      go_wp2_with fail
      refine (sMake (a * c) (b * d) _ (by omega) (by omega)).mono ?_
      rintro e w3 ⟨rfl, hb⟩
      have K2 : Hid (Blk2 w3 (w.heap.size + 1 + 1) 40 (.int .i64 0) (.int .i64 0)) := K2.out.keep hb K2.out.lt
      have B := Lib.hid (B.out.trans (hb.mono B.out.size))
      obtain ⟨K2a3, K2b3, K2c3, K2d3⟩ := K2.out.all
      clear hb
      unfold ratV
      go_wp2_with fail
      obtain ⟨E0, E1, -, -⟩ := ((K2.out.set0 (.int .i64 (low (a * c) (b * d)).1)).set1 (.int .i64 (low (a * c) (b * d)).2)).all
      refine bodyPost_ret (v := ratV (low (a * c) (b * d))) (by simp [results, Tryz.results48, go_sem, E0, E1, ratV]) rfl ⟨by rw [L.out], ?_⟩
      exact (B.out.setCell (by show w.heap.size ≤ w.heap.size + 1 + 1; omega) _).setCell (by show w.heap.size ≤ w.heap.size + 1 + 1; omega) _
    · have L : Hid (mulR a b c d = (0, 0)) := by show mulR a b c d = _; unfold mulR; rw [ha, hc]; rfl
      go_enter Tryz.func48, Tryz.ntmps48
      go_wp2_with fail
      refine (sIsRat a b _).mono ?_
      rintro e w1 ⟨rfl, hb⟩
      have K0 : Hid (Blk2 w1 w.heap.size 40 (.int .i64 a) (.int .i64 b)) := (((Blk2.at_ _ _ _ rfl).old _).old _).keep hb (by simp <;> omega)
      have K1 : Hid (Blk2 w1 (w.heap.size + 1) 40 (.int .i64 c) (.int .i64 d)) := ((Blk2.at_ _ _ _ (by simp)).old _).keep hb (by simp <;> omega)
      have K2 : Hid (Blk2 w1 (w.heap.size + 1 + 1) 40 (.int .i64 0) (.int .i64 0)) := (Blk2.at_ _ _ _ (by simp)).keep hb (by simp <;> omega)
      have B : Hid (Below w.heap.size w w1) := Below.trans (by repeat (first | exact Below.refl _ _ | refine Below.alloc ?_ (by simp <;> omega) _)) (hb.mono (by simp <;> omega))
      obtain ⟨K0a1, K0b1, K0c1, K0d1⟩ := K0.out.all
      obtain ⟨K1a1, K1b1, K1c1, K1d1⟩ := K1.out.all
      obtain ⟨K2a1, K2b1, K2c1, K2d1⟩ := K2.out.all
      clear hb
      rw [ha]
      go_wp2_with fail
      refine (sIsRat c d _).mono ?_
      rintro e w2 ⟨rfl, hb⟩
      have K0 : Hid (Blk2 w2 w.heap.size 40 (.int .i64 a) (.int .i64 b)) := K0.out.keep hb K0.out.lt
      have K1 : Hid (Blk2 w2 (w.heap.size + 1) 40 (.int .i64 c) (.int .i64 d)) := K1.out.keep hb K1.out.lt
      have K2 : Hid (Blk2 w2 (w.heap.size + 1 + 1) 40 (.int .i64 0) (.int .i64 0)) := K2.out.keep hb K2.out.lt
      have B := Lib.hid (B.out.trans (hb.mono B.out.size))
      obtain ⟨K0a2, K0b2, K0c2, K0d2⟩ := K0.out.all
      obtain ⟨K1a2, K1b2, K1c2, K1d2⟩ := K1.out.all
      obtain ⟨K2a2, K2b2, K2c2, K2d2⟩ := K2.out.all
      clear hb
      rw [hc]
      go_wp2_with fail
      obtain ⟨E0, E1, -, -⟩ := ((K2.out.set0 (.int .i64 0)).set1 (.int .i64 0)).all
      refine bodyPost_ret (v := ratV (0, 0)) (by simp [results, Tryz.results48, go_sem, E0, E1, ratV]) rfl ⟨by rw [L.out], ?_⟩
      exact (B.out.setCell (by show w.heap.size ≤ w.heap.size + 1 + 1; omega) _).setCell (by show w.heap.size ≤ w.heap.size + 1 + 1; omega) _
  · have L : Hid (mulR a b c d = (0, 0)) := by show mulR a b c d = _; unfold mulR; rw [ha]; rfl
    go_enter Tryz.func48, Tryz.ntmps48
    go_wp2_with fail
    refine (sIsRat a b _).mono ?_
    rintro e w1 ⟨rfl, hb⟩
    have K0 : Hid (Blk2 w1 w.heap.size 40 (.int .i64 a) (.int .i64 b)) := (((Blk2.at_ _ _ _ rfl).old _).old _).keep hb (by simp <;> omega)
    have K1 : Hid (Blk2 w1 (w.heap.size + 1) 40 (.int .i64 c) (.int .i64 d)) := ((Blk2.at_ _ _ _ (by simp)).old _).keep hb (by simp <;> omega)
    have K2 : Hid (Blk2 w1 (w.heap.size + 1 + 1) 40 (.int .i64 0) (.int .i64 0)) := (Blk2.at_ _ _ _ (by simp)).keep hb (by simp <;> omega)
    have B : Hid (Below w.heap.size w w1) := Below.trans (by repeat (first | exact Below.refl _ _ | refine Below.alloc ?_ (by simp <;> omega) _)) (hb.mono (by simp <;> omega))
    obtain ⟨K0a1, K0b1, K0c1, K0d1⟩ := K0.out.all
    obtain ⟨K1a1, K1b1, K1c1, K1d1⟩ := K1.out.all
    obtain ⟨K2a1, K2b1, K2c1, K2d1⟩ := K2.out.all
    clear hb
    rw [ha]
    go_wp2_with fail
    obtain ⟨E0, E1, -, -⟩ := ((K2.out.set0 (.int .i64 0)).set1 (.int .i64 0)).all
    refine bodyPost_ret (v := ratV (0, 0)) (by simp [results, Tryz.results48, go_sem, E0, E1, ratV]) rfl ⟨by rw [L.out], ?_⟩
    exact (B.out.setCell (by show w.heap.size ≤ w.heap.size + 1 + 1; omega) _).setCell (by show w.heap.size ≤ w.heap.size + 1 + 1; omega) _
end Go.Proofs.YtcapddcmnjeloaaGreatDoor
end

section
/-
  Chapter 11, in the model: IsRational.
-/
namespace Go.Proofs.YtcapddcmnjeloaaGreatDoor
set_option maxRecDepth 100000
open Go.RowKit
theorem ratF {W w' : World} {b g : Nat} {t t2 : TypeId} {p q r s1 s2 v z1 z2 : Value} {x y1 y2 : Addr} (h0 : Blk3 W b t p q r) (h1 : Blk2 W g t2 s1 s2) (hx : W.cell? x = some v) (hz1 : W.cell? y1 = some z1) (hz2 : W.cell? y2 = some z2) (hb : Below W.heap.size W w') :
    w'.cell? ⟨b, 0, none⟩ = some p ∧ w'.cell? ⟨b, 1, none⟩ = some q ∧ w'.cell? ⟨b, 2, none⟩ = some r ∧ w'.cell? ⟨g, 0, none⟩ = some s1 ∧ w'.cell? ⟨g, 1, none⟩ = some s2 ∧ w'.cell? x = some v ∧ w'.cell? y1 = some z1 ∧ w'.cell? y2 = some z2 := by
  obtain ⟨a1, a2, a3, -, -, -⟩ := (h0.step hb).all
  obtain ⟨b1, b2, -, -⟩ := (h1.keep hb h1.lt).all
  have far : ∀ {a : Addr} {u : Value}, W.cell? a = some u → w'.cell? a = some u := fun {a u} h => (hb.cell (World.block_lt_of_cell? W a h)).trans h
  exact ⟨a1, a2, a3, b1, b2, far hx, far hz1, far hz2⟩
set_option maxHeartbeats 4000000 in
theorem sRational (r c : Int) (a : Option Addr) (m : Nat) (xs : List Int) (ab : Option Addr) (mb : Nat) (bs : List Int) (az : Option Addr) (mz : Nat) (zs : List (Int × Int)) (w : World) (h : Rd w a xs) (hn : xs.length ≤ 16777216) (hb : Rd w ab bs) (hbn : bs.length ≤ 16777216) (hz : RdQ w az zs) (hzn : zs.length ≤ 16777216) :
    Calls Tryz.prog 14 #[.agg #[.int .i64 r, .int .i64 c, .slice a xs.length m], .slice ab bs.length mb, .slice az zs.length mz] w (Gives (.bool (irB r c xs bs zs)) w) := by
  have IM : Hid (∀ w', Below w.heap.size w w' → Calls Tryz.prog 19 #[.agg #[.int .i64 r, .int .i64 c, .slice a xs.length m]] w' (Gives (.bool (isMat r c xs)) w')) := fun w' hb => sIsMat r c a m xs w' (h.below hb) hn
  have K0 : Hid (Blk3 (w.alloc (.cells #[.int .i64 r, .int .i64 c, .slice a xs.length m] 26)) w.heap.size 26 (.int .i64 r) (.int .i64 c) (.slice a xs.length m)) := Blk3.at_ _ _ _ _ rfl
  have B0 : Hid (Below w.heap.size w (w.alloc (.cells #[.int .i64 r, .int .i64 c, .slice a xs.length m] 26))) := (Below.refl _ _).alloc (Nat.le_refl _) _
  rcases Bool.eq_false_or_eq_true (isMat r c xs) with hm | hm
  rotate_left
  · have V : Hid (irB r c xs bs zs = false) := irB_false (.inl hm)
    go_enter Tryz.func14, Tryz.ntmps14
    go_wp2_with fail
    refine (IM.out _ B0.out).mono ?_
    rintro e w1 ⟨rfl, hb1⟩
    rw [hm]
    have B1 := Lib.hid (B0.out.trans (hb1.mono B0.out.size))
    clear hb1
    go_wp2_with fail
    go_ret
    exact ⟨by rw [V.out]; rfl, B1.out⟩
  obtain ⟨⟨r0, r1⟩, ⟨c0, c1⟩, hl, hnx⟩ := isMat_says hm
  obtain ⟨R, rfl⟩ := Int.eq_ofNat_of_zero_le r0
  obtain ⟨C, rfl⟩ := Int.eq_ofNat_of_zero_le c0
  have hl : xs.length = R * C := by rw [← Int.natCast_mul] at hl; omega
  have R24 : R ≤ 24 := by omega
  have C24 : C ≤ 24 := by omega
  have V1 : Hid ((bs.length : Int) ≠ R → irB R C xs bs zs = false) := fun h => irB_false (.inr (.inl h))
  have V2 : Hid ((zs.length : Int) ≠ C → irB R C xs bs zs = false) := fun h => irB_false (.inr (.inr h))
  have VR : Hid (∀ i, i < R → rowB C xs bs zs i = false → irB R C xs bs zs = false) := fun i hi h => irB_row hi h
  have VT : Hid (bs.length = R → zs.length = C → (∀ i, i < R → rowB C xs bs zs i = true) → irB R C xs bs zs = true) := fun h1 h2 h3 => irB_true hm h1 h2 h3
  have RX : Hid (Rd w a xs) := h
  have RB : Hid (Rd w ab bs) := hb
  have RZ : Hid (RdQ w az zs) := hz
  have IY : Hid (∀ i j, i < R → j < C → i * C + j < xs.length ∧ IntKind.i64.wrap ((i : Int) * (C : Int)) = (i : Int) * (C : Int) ∧ IntKind.i64.wrap ((i : Int) * (C : Int) + (j : Int)) = ((i * C + j : Nat) : Int)) := fun i j hi hj => by
    have h1 : i * C + j < R * C := idx_lt hi hj
    have h2 : R * C ≤ 24 * 24 := Nat.mul_le_mul R24 C24
    have c1 : (i : Int) * (C : Int) = ((i * C : Nat) : Int) := (Int.natCast_mul _ _).symm
    refine ⟨by omega, IntWalk.i64_in _ (by rw [c1]; omega), ?_⟩
    rw [show (i : Int) * (C : Int) + (j : Int) = ((i * C + j : Nat) : Int) by rw [c1]; omega]
    exact IntWalk.i64_in _ (by omega)
  generalize irB R C xs bs zs = bb at V1 V2 VR VT ⊢
  obtain ⟨L, hL⟩ : ∃ L, xs.length = L := ⟨_, rfl⟩
  rw [hL] at IM K0 B0 IY hn hl ⊢
  obtain ⟨Lb, hLb⟩ : ∃ Lb, bs.length = Lb := ⟨_, rfl⟩
  obtain ⟨Lz, hLz⟩ : ∃ Lz, zs.length = Lz := ⟨_, rfl⟩
  rw [hLb] at V1 VT hbn ⊢
  rw [hLz] at V2 VT hzn ⊢
  have XB := Lib.hid hLb
  have XN := Lib.hid hL
  have XZ := Lib.hid hLz
  clear h hb hz hLb hLz hL hl hnx
  go_enter Tryz.func14, Tryz.ntmps14
  go_wp2_with fail
  refine (IM.out _ B0.out).mono ?_
  rintro e w1 ⟨rfl, hb1⟩
  rw [hm]
  have B1 := Lib.hid (B0.out.trans (hb1.mono B0.out.size))
  have K1 := Lib.hid (K0.out.step hb1)
  clear hb1 hm IM
  obtain ⟨p0, p1, p2, -, -, -⟩ := K1.out.all
  by_cases h1 : (Lb : Int) = R
  rotate_left
  · have V := Lib.hid (V1.out h1)
    have n1 : ((Lb : Int) != (R : Int)) = true := by simpa using h1
    go_wp2_with fail
    go_ret
    exact ⟨by rw [V.out]; rfl, B1.out⟩
  have n1 : ((Lb : Int) != (R : Int)) = false := by simp; omega
  by_cases h2 : (Lz : Int) = C
  rotate_left
  · have V := Lib.hid (V2.out h2)
    have n2 : ((Lz : Int) != (C : Int)) = true := by simpa using h2
    go_wp2_with fail
    go_ret
    exact ⟨by rw [V.out]; rfl, B1.out⟩
  have n2 : ((Lz : Int) != (C : Int)) = false := by simp; omega
  have h1 : Lb = R := by omega
  have h2 : Lz = C := by omega
  subst h1 h2
  go_wp2_with fail
  go_loopw [7] (fun v7 wr => ∃ i : Nat, v7 = .int .i64 i ∧ i ≤ Lb ∧ (∀ k, k < i → rowB Lz xs bs zs k = true) ∧ Blk3 wr w.heap.size 26 (.int .i64 Lb) (.int .i64 Lz) (.slice a L m) ∧ Below w.heap.size w wr) (fun v7 _ => Lb - (intOf v7).toNat)
  case atStart => exact ⟨0, rfl, by omega, fun k hk => by omega, K1.out, B1.out⟩
  case round =>
    obtain ⟨i, rfl, hi, hk, hK, hB⟩ := hrel
    have HK := Lib.hid hk
    have KO := Lib.hid hK
    have BO := Lib.hid hB
    clear hk hK hB K1 B1 p0 p1 p2
    obtain ⟨p0, p1, p2, -, -, -⟩ := KO.out.all
    by_cases hlt : i < Lb
    · have KM := Lib.hid (KO.out.old (.cells #[.int .i64 0, .int .i64 1] 40))
      have KS : Hid (Blk2 (wr.alloc (.cells #[.int .i64 0, .int .i64 1] 40)) wr.heap.size 40 (.int .i64 0) (.int .i64 1)) := Blk2.at_ _ _ _ rfl
      have BM := Lib.hid (BO.out.alloc BO.out.size (.cells #[.int .i64 0, .int .i64 1] 40))
      have s0 := BO.out.size
      have sK := KO.out.lt
      obtain ⟨g, hg⟩ : ∃ g, wr.heap.size = g := ⟨_, rfl⟩
      go_wp2_with fail
      rw [hg] at KS s0 sK
      generalize wr.alloc (.cells #[.int .i64 0, .int .i64 1] 40) = W at KM KS BM ⊢
      clear KO BO p0 p1 p2 hg
      go_loopw [9] (fun v9 wi => ∃ j : Nat, v9 = .int .i64 j ∧ j ≤ Lz ∧ Blk3 wi w.heap.size 26 (.int .i64 Lb) (.int .i64 Lz) (.slice a L m) ∧ Blk2 wi g 40 (.int .i64 (sumR (mxC Lz xs i) (atR zs) j).1) (.int .i64 (sumR (mxC Lz xs i) (atR zs) j).2) ∧ Below w.heap.size w wi) (fun v9 _ => Lz - (intOf v9).toNat)
      case atStart => exact ⟨0, rfl, by omega, KM.out, KS.out, BM.out⟩
      case round =>
        clear KM KS BM
        obtain ⟨j, rfl, hj, hK, hS8, hB⟩ := hrel
        have K0 := Lib.hid hK
        have K8 := Lib.hid hS8
        have BI := Lib.hid hB
        clear hK hS8 hB
        obtain ⟨p0, p1, p2, -, -, -⟩ := K0.out.all
        by_cases hjl : j < Lz
        · obtain ⟨x1, x2, x3⟩ := IY.out i j hlt hjl
          have XL := Lib.hid x1
          obtain ⟨b1, o1, rfl, hc1⟩ := (RX.out.below BI.out) (i * Lz + j) (by rw [XN.out]; exact x1)
          obtain ⟨b2, o2, rfl, -, hc2, hc3⟩ := (RZ.out.below BI.out) j (by rw [XZ.out]; exact hjl)
          have SS := Lib.hid (sumR_succ (mxC Lz xs i) (atR zs) j)
          have XE : Hid (mxC Lz xs i j = xs.getD (i * Lz + j) 0) := rfl
          have ZE : Hid (atR zs j = zs.getD j (0, 0)) := rfl
          obtain ⟨u, hu⟩ : ∃ u, xs.getD (i * Lz + j) 0 = u := ⟨_, rfl⟩
          obtain ⟨zn, hzn⟩ : ∃ z, (zs.getD j (0, 0)).1 = z := ⟨_, rfl⟩
          obtain ⟨zd, hzd⟩ : ∃ z, (zs.getD j (0, 0)).2 = z := ⟨_, rfl⟩
          have SS : Hid (sumR (mxC Lz xs i) (atR zs) (j + 1) = addR (sumR (mxC Lz xs i) (atR zs) j).1 (sumR (mxC Lz xs i) (atR zs) j).2 (mulR u 1 zn zd).1 (mulR u 1 zn zd).2) := by
            refine Lib.hid ?_
            rw [SS.out, XE.out, ZE.out, hu, hzn, hzd]
          have P0 : (0 : Int) ≤ ((i * Lz + j : Nat) : Int) := by omega
          have P1 : ((i * Lz + j : Nat) : Int) < (L : Int) := by omega
          obtain ⟨P, hP⟩ : ∃ P, i * Lz + j = P := ⟨_, rfl⟩
          rw [hu] at hc1
          rw [hzn] at hc2
          rw [hzd] at hc3
          rw [hP] at hc1 P0 P1 x3
          have X1 := Lib.hid hc1
          have Z1 := Lib.hid hc2
          have Z2 := Lib.hid hc3
          obtain ⟨ps, hps⟩ : ∃ p, (sumR (mxC Lz xs i) (atR zs) j).1 = p := ⟨_, rfl⟩
          obtain ⟨qs, hqs⟩ : ∃ p, (sumR (mxC Lz xs i) (atR zs) j).2 = p := ⟨_, rfl⟩
          rw [hps, hqs] at SS K8
          obtain ⟨sn, hsn⟩ : ∃ p, (mulR u 1 zn zd).1 = p := ⟨_, rfl⟩
          obtain ⟨sd, hsd⟩ : ∃ p, (mulR u 1 zn zd).2 = p := ⟨_, rfl⟩
          rw [hsn, hsd] at SS
          have MU : Hid (∀ w', Calls Tryz.prog 48 #[.agg #[.int .i64 u, .int .i64 1], .agg #[.int .i64 zn, .int .i64 zd]] w' (Gives (.agg #[.int .i64 sn, .int .i64 sd]) w')) := fun w' => by rw [← hsn, ← hsd]; exact sMul u 1 zn zd w'
          have AD : Hid (∀ w', Calls Tryz.prog 47 #[.agg #[.int .i64 ps, .int .i64 qs], .agg #[.int .i64 sn, .int .i64 sd]] w' (Gives (.agg #[.int .i64 (addR ps qs sn sd).1, .int .i64 (addR ps qs sn sd).2]) w')) := fun w' => sAdd ps qs sn sd w'
          clear hc1 hc2 hc3 hu hzn hzd hP hps hqs hsn hsd x1 p0 p1 p2
          obtain ⟨q0, q1, q2, -, -, -⟩ := K0.out.all
          go_wp2_with fail
          refine wp_region_T (S := fun w' => Below wr.heap.size wr w') (T := fun j => j == 18) (by kernel_rfl) (Below.refl _ _).drew (fun hH => ?_)
          refine wpAnyT_take (i := 0) (v := ?_) (by simp only [List.getElem?_toArray, List.getElem?_cons_zero]; rfl) (by kernel_rfl) (by kernel_rfl) (by kernel_rfl) (by kernel_rfl) (one_only 18 (by kernel_rfl)) (by exact fun _ _ _ h => h) (Or.inl ⟨by rfl, ?_⟩) hH ?_
          rotate_left
          · (intro wS hS; (try dsimp only at hS); obtain ⟨k1, k2, k3, k4, k5, k6, k7, k8⟩ := ratF K0.out K8.out X1.out Z1.out Z2.out hS; go_simp; try rfl)
          try simp only [Act.put, List.setIfInBounds_toArray, List.set_cons_zero, List.set_cons_succ]
          refine wpAnyT_take (i := 1) (v := ?_) (by simp only [List.getElem?_toArray, List.getElem?_cons_succ, List.getElem?_cons_zero]; rfl) (by kernel_rfl) (by kernel_rfl) (by kernel_rfl) (by kernel_rfl) (one_only 18 (by kernel_rfl)) (by exact fun _ _ _ h => h) (Or.inl ⟨by rfl, ?_⟩) hH ?_
          rotate_left
          · (intro wS hS; clear hS; go_simp; try rfl)
          try simp only [Act.put, List.setIfInBounds_toArray, List.set_cons_zero, List.set_cons_succ]
          refine wpAnyT_take (i := 2) (v := ?_) (by simp only [List.getElem?_toArray, List.getElem?_cons_succ, List.getElem?_cons_zero]; rfl) (by kernel_rfl) (by kernel_rfl) (by kernel_rfl) (by kernel_rfl) (one_only 18 (by kernel_rfl)) (by exact fun _ _ _ h => h) (Or.inl ⟨by rfl, ?_⟩) hH ?_
          rotate_left
          · (intro wS hS; (try dsimp only at hS); obtain ⟨k1, k2, k3, k4, k5, k6, k7, k8⟩ := ratF K0.out K8.out X1.out Z1.out Z2.out hS; go_simp; try rfl)
          try simp only [Act.put, List.setIfInBounds_toArray, List.set_cons_zero, List.set_cons_succ]
          refine wpAnyT_take (i := 3) (v := ?_) (by simp only [List.getElem?_toArray, List.getElem?_cons_succ, List.getElem?_cons_zero]; rfl) (by kernel_rfl) (by kernel_rfl) (by kernel_rfl) (by kernel_rfl) (one_only 18 (by kernel_rfl)) (by exact fun _ _ _ h => h) (Or.inl ⟨by rfl, ?_⟩) hH ?_
          rotate_left
          · (intro wS hS; clear hS; go_simp; try rfl)
          try simp only [Act.put, List.setIfInBounds_toArray, List.set_cons_zero, List.set_cons_succ]
          refine wpAnyT_take (i := 4) (v := ?_) (by simp only [List.getElem?_toArray, List.getElem?_cons_succ, List.getElem?_cons_zero]; rfl) (by kernel_rfl) (by kernel_rfl) (by kernel_rfl) (by kernel_rfl) (one_only 18 (by kernel_rfl)) (by exact fun _ _ _ h => h) (Or.inl ⟨by rfl, ?_⟩) hH ?_
          rotate_left
          · (intro wS hS; clear hS; go_simp; try rfl)
          try simp only [Act.put, List.setIfInBounds_toArray, List.set_cons_zero, List.set_cons_succ]
          refine wpAnyT_take (i := 5) (v := ?_) (by simp only [List.getElem?_toArray, List.getElem?_cons_succ, List.getElem?_cons_zero]; rfl) (by kernel_rfl) (by kernel_rfl) (by kernel_rfl) (by kernel_rfl) (one_only 18 (by kernel_rfl)) (by exact fun _ _ _ h => h) (Or.inl ⟨by rfl, ?_⟩) hH ?_
          rotate_left
          · (intro wS hS; (try dsimp only at hS); obtain ⟨k1, k2, k3, k4, k5, k6, k7, k8⟩ := ratF K0.out K8.out X1.out Z1.out Z2.out hS; go_simp; try rfl)
          try simp only [Act.put, List.setIfInBounds_toArray, List.set_cons_zero, List.set_cons_succ]
          refine wpAnyT_take (i := 6) (v := ?_) (by simp only [List.getElem?_toArray, List.getElem?_cons_succ, List.getElem?_cons_zero]; rfl) (by kernel_rfl) (by kernel_rfl) (by kernel_rfl) (by kernel_rfl) (one_only 18 (by kernel_rfl)) (by exact fun _ _ _ h => h) (Or.inl ⟨by rfl, ?_⟩) hH ?_
          rotate_left
          · (intro wS hS; clear hS; go_simp; try rfl)
          try simp only [Act.put, List.setIfInBounds_toArray, List.set_cons_zero, List.set_cons_succ]
          refine wpAnyT_take (i := 7) (v := ?_) (by simp only [List.getElem?_toArray, List.getElem?_cons_succ, List.getElem?_cons_zero]; rfl) (by kernel_rfl) (by kernel_rfl) (by kernel_rfl) (by kernel_rfl) (one_only 18 (by kernel_rfl)) (by exact fun _ _ _ h => h) (Or.inl ⟨by rfl, ?_⟩) hH ?_
          rotate_left
          · (intro wS hS; clear hS; go_simp; try rfl)
          try simp only [Act.put, List.setIfInBounds_toArray, List.set_cons_zero, List.set_cons_succ]
          refine wpAnyT_take (i := 8) (v := ?_) (by simp only [List.getElem?_toArray, List.getElem?_cons_succ, List.getElem?_cons_zero]; rfl) (by kernel_rfl) (by kernel_rfl) (by kernel_rfl) (by kernel_rfl) (one_only 18 (by kernel_rfl)) (by exact fun _ _ _ h => h) (Or.inl ⟨by rfl, ?_⟩) hH ?_
          rotate_left
          · (intro wS hS; clear hS; go_simp; try rfl)
          try simp only [Act.put, List.setIfInBounds_toArray, List.set_cons_zero, List.set_cons_succ]
          refine wpAnyT_take (i := 9) (v := ?_) (by simp only [List.getElem?_toArray, List.getElem?_cons_succ, List.getElem?_cons_zero]; rfl) (by kernel_rfl) (by kernel_rfl) (by kernel_rfl) (by kernel_rfl) (one_only 18 (by kernel_rfl)) (by exact fun _ _ _ h => h) (Or.inl ⟨by rfl, ?_⟩) hH ?_
          rotate_left
          · (intro wS hS; clear hS; go_simp; try rfl)
          try simp only [Act.put, List.setIfInBounds_toArray, List.set_cons_zero, List.set_cons_succ]
          refine wpAnyT_take (i := 10) (v := ?_) (by simp only [List.getElem?_toArray, List.getElem?_cons_succ, List.getElem?_cons_zero]; rfl) (by kernel_rfl) (by kernel_rfl) (by kernel_rfl) (by kernel_rfl) (one_only 18 (by kernel_rfl)) (by exact fun _ _ _ h => h) (Or.inl ⟨by rfl, ?_⟩) hH ?_
          rotate_left
          · (intro wS hS; (try dsimp only at hS); obtain ⟨k1, k2, k3, k4, k5, k6, k7, k8⟩ := ratF K0.out K8.out X1.out Z1.out Z2.out hS; go_simp; try rfl)
          try simp only [Act.put, List.setIfInBounds_toArray, List.set_cons_zero, List.set_cons_succ]
          refine wpAnyT_take (i := 11) (v := ?_) (by simp only [List.getElem?_toArray, List.getElem?_cons_succ, List.getElem?_cons_zero]; rfl) (by kernel_rfl) (by kernel_rfl) (by kernel_rfl) (by kernel_rfl) (one_only 18 (by kernel_rfl)) (by exact fun _ _ _ h => h) (Or.inl ⟨by rfl, ?_⟩) hH ?_
          rotate_left
          · (intro wS hS; clear hS; go_simp; try rfl)
          try simp only [Act.put, List.setIfInBounds_toArray, List.set_cons_zero, List.set_cons_succ]
          refine wpAnyT_take (i := 12) (v := ?_) (by simp only [List.getElem?_toArray, List.getElem?_cons_succ, List.getElem?_cons_zero]; rfl) (by kernel_rfl) (by kernel_rfl) (by kernel_rfl) (by kernel_rfl) (one_only 18 (by kernel_rfl)) (by exact fun _ _ _ h => h) (Or.inl ⟨by rfl, ?_⟩) hH ?_
          rotate_left
          · (intro wS hS; clear hS; go_simp; try rfl)
          try simp only [Act.put, List.setIfInBounds_toArray, List.set_cons_zero, List.set_cons_succ]
          refine wpAnyT_take (i := 13) (v := ?_) (by simp only [List.getElem?_toArray, List.getElem?_cons_succ, List.getElem?_cons_zero]; rfl) (by kernel_rfl) (by kernel_rfl) (by kernel_rfl) (by kernel_rfl) (one_only 18 (by kernel_rfl)) (by exact fun _ _ _ h => h) (Or.inl ⟨by rfl, ?_⟩) hH ?_
          rotate_left
          · (intro wS hS; clear hS; go_simp; try rfl)
          try simp only [Act.put, List.setIfInBounds_toArray, List.set_cons_zero, List.set_cons_succ]
          refine wpAnyT_take (i := 14) (v := ?_) (by simp only [List.getElem?_toArray, List.getElem?_cons_succ, List.getElem?_cons_zero]; rfl) (by kernel_rfl) (by kernel_rfl) (by kernel_rfl) (by kernel_rfl) (one_only 18 (by kernel_rfl)) (by exact fun _ _ _ h => h) (Or.inl ⟨by rfl, ?_⟩) hH ?_
          rotate_left
          · (intro wS hS; clear hS; go_simp; try rfl)
          try simp only [Act.put, List.setIfInBounds_toArray, List.set_cons_zero, List.set_cons_succ]
          refine wpAnyT_take (i := 15) (v := ?_) (by simp only [List.getElem?_toArray, List.getElem?_cons_succ, List.getElem?_cons_zero]; rfl) (by kernel_rfl) (by kernel_rfl) (by kernel_rfl) (by kernel_rfl) (one_only 18 (by kernel_rfl)) (by exact fun _ _ _ h => h) (Or.inl ⟨by rfl, ?_⟩) hH ?_
          rotate_left
          · (intro wS hS; (try dsimp only at hS); obtain ⟨k1, k2, k3, k4, k5, k6, k7, k8⟩ := ratF K0.out K8.out X1.out Z1.out Z2.out hS; go_simp; try rfl)
          try simp only [Act.put, List.setIfInBounds_toArray, List.set_cons_zero, List.set_cons_succ]
          refine wpAnyT_ready (rs := [16]) (by kernel_rfl) (by simp) ?_
          refine AllReadyT.cons (by simp only [List.getElem?_toArray, List.getElem?_cons_succ, List.getElem?_cons_zero]; rfl) (fun K hK => ?_) AllReadyT.nil
          go_simp
          (with_reducible refine (MU.out _).mono ?_)
          rintro e v1 ⟨rfl, hb1⟩
          try dsimp only
          refine hK.out _ _ (fun _ => hH.trans (hb1.mono hH.size)) ?_
          clear hK K
          have hH := hH.trans (hb1.mono hH.size)
          try simp only [Act.put, List.setIfInBounds_toArray, List.set_cons_zero, List.set_cons_succ]
          refine wpAnyT_ready (rs := [17]) (by kernel_rfl) (by simp) ?_
          refine AllReadyT.cons (by simp only [List.getElem?_toArray, List.getElem?_cons_succ, List.getElem?_cons_zero]; rfl) (fun K hK => ?_) AllReadyT.nil
          go_simp
          (with_reducible refine (AD.out _).mono ?_)
          rintro e v2 ⟨rfl, hb2⟩
          try dsimp only
          refine hK.out _ _ (fun _ => hH.trans (hb2.mono hH.size)) ?_
          clear hK K
          have hH := hH.trans (hb2.mono hH.size)
          try simp only [Act.put, List.setIfInBounds_toArray, List.set_cons_zero, List.set_cons_succ]
          refine wpAnyT_ready (rs := [18]) (by kernel_rfl) (by simp) ?_
          refine AllReadyT.cons (by simp only [List.getElem?_toArray, List.getElem?_cons_succ, List.getElem?_cons_zero]; rfl) (fun K hK => ?_) AllReadyT.nil
          have K8 := Lib.hid (K8.out.keep hH K8.out.lt)
          obtain ⟨c80, c81, f80, f81⟩ := K8.out.all
          go_simp
          try dsimp only
          refine hK.out _ _ (fun h => by cases h) ?_
          clear hK K
          try simp only [Act.put, List.setIfInBounds_toArray, List.set_cons_zero, List.set_cons_succ]
          refine wpAnyT_done (by kernel_rfl) ?_ _
          go_wp2_with fail
          go_roundw
          case rel =>
            refine ⟨j + 1, by go_num, by omega, ((K0.out.step hH).far (by show w.heap.size ≠ g; omega) _).far (by show w.heap.size ≠ g; omega) _, ?_, ?_⟩
            · rw [SS.out]
              exact (K8.out.set0 _).set1 _
            · exact ((BI.out.trans (hH.mono BI.out.size)).setCell (by show w.heap.size ≤ g; omega) _).setCell (by show w.heap.size ≤ g; omega) _
          case measure => simp [intOf]; omega
        · obtain rfl : j = Lz := by omega
          have RF : Hid (sumR (mxC j xs i) (atR zs) j ≠ (bs.getD i 0, 1) → rowB j xs bs zs i = false) := fun h => decide_eq_false h
          have RT : Hid (sumR (mxC j xs i) (atR zs) j = (bs.getD i 0, 1) → rowB j xs bs zs i = true) := fun h => decide_eq_true h
          obtain ⟨b3, o3, rfl, hc4⟩ := (RB.out.below BI.out) i (by rw [XB.out]; exact hlt)
          obtain ⟨x, hx⟩ : ∃ x, bs.getD i 0 = x := ⟨_, rfl⟩
          rw [hx] at hc4 RF RT
          obtain ⟨ps, hps⟩ : ∃ p, (sumR (mxC j xs i) (atR zs) j).1 = p := ⟨_, rfl⟩
          obtain ⟨qs, hqs⟩ : ∃ p, (sumR (mxC j xs i) (atR zs) j).2 = p := ⟨_, rfl⟩
          rw [hps, hqs] at K8
          have SP : Hid (sumR (mxC j xs i) (atR zs) j = (ps, qs)) := by show _ = _; rw [← hps, ← hqs]
          rw [SP.out] at RF RT
          obtain ⟨c80, c81, f80, f81⟩ := K8.out.all
          have i1 : (i : Int) < (Lb : Int) := by omega
          clear hx hps hqs SP
          by_cases e1 : qs = 1
          rotate_left
          · have V := Lib.hid (VR.out i hlt (RF.out fun h => e1 (congrArg Prod.snd h)))
            have n3 : (qs != 1) = true := by simpa using e1
            go_wp2_with fail
            go_quiet (fail)
            go_wp2_with fail
            go_ret
            exact ⟨by rw [V.out]; rfl, below_drewN BI.out _⟩
          subst e1
          by_cases e2 : ps = x
          rotate_left
          · have V := Lib.hid (VR.out i hlt (RF.out fun h => e2 (congrArg Prod.fst h)))
            have n3 : (ps != x) = true := by simpa using e2
            go_wp2_with fail
            go_quiet (fail)
            go_wp2_with fail
            go_ret
            exact ⟨by rw [V.out]; rfl, below_drewN BI.out _⟩
          subst e2
          have RR := Lib.hid (RT.out rfl)
          have HK2 : Hid (∀ k, k < i + 1 → rowB j xs bs zs k = true) := fun k hk => by
            rcases Nat.lt_or_ge k i with h3 | h3
            · exact HK.out k h3
            · obtain rfl : k = i := by omega
              exact RR.out
          have n3 : (ps != ps) = false := by simp
          go_wp2_with fail
          go_quiet (fail)
          go_wp2_with fail
          go_roundw
          case rel => exact ⟨i + 1, by go_num, by omega, HK2.out, K0.out, below_drewN BI.out _⟩
          case measure => simp [intOf]; omega
    · obtain rfl : i = Lb := by omega
      have V := Lib.hid (VT.out (by first | rfl | trivial) (by first | rfl | trivial) HK.out)
      go_wp2_with fail
      go_ret
      exact ⟨by rw [V.out]; rfl, BO.out⟩
end Go.Proofs.YtcapddcmnjeloaaGreatDoor
end

section
/-
  A list of ints that may be nil is appended onto an empty list of the call's own: a copy in a block.
-/
namespace Go.Proofs.YtcapddcmnjeloaaGreatDoor
set_option maxRecDepth 100000
open Go.RowKit
end Go.Proofs.YtcapddcmnjeloaaGreatDoor
end

section
/-
  Chapter 8, in the model: InverseMod.
-/
namespace Go.Proofs.YtcapddcmnjeloaaGreatDoor
set_option maxRecDepth 100000
open Go.RowKit
end Go.Proofs.YtcapddcmnjeloaaGreatDoor
end

section
/-
  Chapter 10, in the model: IsImage, ResidueOf, RatioFrom.
-/
namespace Go.Proofs.YtcapddcmnjeloaaGreatDoor
set_option maxRecDepth 100000
open Go.RowKit
end Go.Proofs.YtcapddcmnjeloaaGreatDoor
end

section
/-
  Chapter 10, in the model: RatioFrom.
-/
namespace Go.Proofs.YtcapddcmnjeloaaGreatDoor
set_option maxRecDepth 100000
open Go.RowKit
end Go.Proofs.YtcapddcmnjeloaaGreatDoor
end

section
/-
  Chapter 11, in the model: SolveByLifting.
-/
namespace Go.Proofs.YtcapddcmnjeloaaGreatDoor
set_option maxRecDepth 100000
open Go.RowKit
end Go.Proofs.YtcapddcmnjeloaaGreatDoor
end

section
/-
  Chapter 2, in the program: lowest terms, MakeRatio, IsRatio.
-/
namespace Go.Proofs.YtcapddcmnjeloaaGreatDoor
open Go.RowKit
set_option maxHeartbeats 400000 in
theorem iLow (n d : Int) (w : World) (hn : -2000000000000000000 ≤ n ∧ n ≤ 2000000000000000000) (hd : -2000000000000000000 ≤ d ∧ d ≤ 2000000000000000000) (hd0 : d ≠ 0) :
    Calls Tryz.prog 91 #[.agg #[.int .i64 n, .int .i64 d]] w (Gives (ratV (low n d)) w) := by
  have hz : (d == 0) = false := by simpa using hd0
  obtain ⟨G, hG, hG0⟩ : ∃ G : Nat, Int.gcd n d = G ∧ 0 < G := ⟨_, rfl, gcd_pos_of n d hd0⟩
  -- the divisor with the sign of d
  obtain ⟨k, hk, hk0, hk1, LN, LD⟩ : ∃ k : Int, (k = if d < 0 then -(G : Int) else G) ∧ (k == 0) = false ∧ (k ≠ 0) ∧ lowN n d = n.tdiv k ∧ lowD n d = d.tdiv k := by
    refine ⟨_, rfl, ?_, ?_, ?_, ?_⟩
    · split <;> (simp; omega)
    · split <;> omega
    · unfold lowN; rw [hG]; split <;> simp [Int.tdiv_neg]
    · unfold lowD; rw [hG]; split <;> simp [Int.tdiv_neg]
  obtain ⟨bn1, bn2⟩ := tdiv_bdw n k (by omega) (by omega)
  obtain ⟨bd1, bd2⟩ := tdiv_bdw d k (by omega) (by omega)
  have hG9 : (G : Int) ≤ 2000000000000000000 := by
    have := Int.le_of_dvd (show (0 : Int) < d.natAbs by omega) (Int.dvd_natAbs.2 (Int.gcd_dvd_right (a := n) (b := d)))
    rw [hG] at this; omega
  have HG := Lib.hid hG
  clear hG
  have L1 := Lib.hid LN
  have L2 := Lib.hid LD
  clear LN LD
  by_cases hs : d < 0
  · rw [if_pos hs] at hk
    have HK := Lib.hid hk
    have hs' : decide (d < 0) = true := by simpa using hs
    clear hk
    go_enter Tryz.func91, Tryz.ntmps91
    go_wp2_with fail
    refine (iGD n d _ (by omega) (by omega)).mono ?_
    rintro e w' ⟨rfl, m, rfl⟩
    rw [HG.out]
    go_wp2_with fail
    rw [← HK.out]
    go_quiet (fail)
    go_wp2_with fail
    by_cases h1 : -400000000 ≤ n.tdiv k ∧ n.tdiv k ≤ 400000000
    · refine (iIsNum_t _ _ h1.1 h1.2).mono ?_
      rintro e w' ⟨rfl, rfl⟩
      go_wp2_with fail
      by_cases h2 : -400000000 ≤ d.tdiv k ∧ d.tdiv k ≤ 400000000
      · have L : Hid (low n d = (n.tdiv k, d.tdiv k)) := by
          have := (low_fits (n := n) (d := d) hd0 (by rw [L1.out, L2.out]; exact ⟨h1.1, h1.2, h2.1, h2.2⟩)).1
          rw [L1.out, L2.out] at this; exact this
        refine (iIsNum_t _ _ h2.1 h2.2).mono ?_
        rintro e w' ⟨rfl, rfl⟩
        go_wp2_with fail
        refine bodyPost_ret (v := ratV (n.tdiv k, d.tdiv k)) (by simp [results, Tryz.results91, go_sem, ratV]) rfl ⟨by rw [L.out], ?_⟩
        repeat (first | exact Below.refl _ _ | refine below_drewN ?_ _ | refine Below.setCell ?_ (by simp) _ | refine Below.alloc ?_ (by simp) _ | (refine Below.alloc ?_ (by simp; omega) _))
      · have L : Hid (low n d = (0, 0)) := low_none (by rw [L1.out, L2.out]; exact fun k => h2 ⟨k.2.2.1, k.2.2.2⟩)
        refine (iIsNum_f _ _ (by omega)).mono ?_
        rintro e w' ⟨rfl, rfl⟩
        clear h2
        go_wp2_with fail
        refine bodyPost_ret (v := ratV (0, 0)) (by simp [results, Tryz.results91, go_sem, ratV]) rfl ⟨by rw [L.out], ?_⟩
        repeat (first | exact Below.refl _ _ | refine below_drewN ?_ _ | refine Below.setCell ?_ (by simp) _ | refine Below.alloc ?_ (by simp) _ | (refine Below.alloc ?_ (by simp; omega) _))
    · have L : Hid (low n d = (0, 0)) := low_none (by rw [L1.out, L2.out]; exact fun k => h1 ⟨k.1, k.2.1⟩)
      refine (iIsNum_f _ _ (by omega)).mono ?_
      rintro e w' ⟨rfl, rfl⟩
      clear h1
      go_wp2_with fail
      refine bodyPost_ret (v := ratV (0, 0)) (by simp [results, Tryz.results91, go_sem, ratV]) rfl ⟨by rw [L.out], ?_⟩
      repeat (first | exact Below.refl _ _ | refine below_drewN ?_ _ | refine Below.setCell ?_ (by simp) _ | refine Below.alloc ?_ (by simp) _ | (refine Below.alloc ?_ (by simp; omega) _))
  · rw [if_neg hs] at hk
    have HK := Lib.hid hk
    have hs' : decide (d < 0) = false := by simpa using hs
    clear hk
    go_enter Tryz.func91, Tryz.ntmps91
    go_wp2_with fail
    refine (iGD n d _ (by omega) (by omega)).mono ?_
    rintro e w' ⟨rfl, m, rfl⟩
    rw [HG.out]
    go_wp2_with fail
    rw [← HK.out]
    go_quiet (fail)
    go_wp2_with fail
    by_cases h1 : -400000000 ≤ n.tdiv k ∧ n.tdiv k ≤ 400000000
    · refine (iIsNum_t _ _ h1.1 h1.2).mono ?_
      rintro e w' ⟨rfl, rfl⟩
      go_wp2_with fail
      by_cases h2 : -400000000 ≤ d.tdiv k ∧ d.tdiv k ≤ 400000000
      · have L : Hid (low n d = (n.tdiv k, d.tdiv k)) := by
          have := (low_fits (n := n) (d := d) hd0 (by rw [L1.out, L2.out]; exact ⟨h1.1, h1.2, h2.1, h2.2⟩)).1
          rw [L1.out, L2.out] at this; exact this
        refine (iIsNum_t _ _ h2.1 h2.2).mono ?_
        rintro e w' ⟨rfl, rfl⟩
        go_wp2_with fail
        refine bodyPost_ret (v := ratV (n.tdiv k, d.tdiv k)) (by simp [results, Tryz.results91, go_sem, ratV]) rfl ⟨by rw [L.out], ?_⟩
        repeat (first | exact Below.refl _ _ | refine below_drewN ?_ _ | refine Below.setCell ?_ (by simp) _ | refine Below.alloc ?_ (by simp) _ | (refine Below.alloc ?_ (by simp; omega) _))
      · have L : Hid (low n d = (0, 0)) := low_none (by rw [L1.out, L2.out]; exact fun k => h2 ⟨k.2.2.1, k.2.2.2⟩)
        refine (iIsNum_f _ _ (by omega)).mono ?_
        rintro e w' ⟨rfl, rfl⟩
        clear h2
        go_wp2_with fail
        refine bodyPost_ret (v := ratV (0, 0)) (by simp [results, Tryz.results91, go_sem, ratV]) rfl ⟨by rw [L.out], ?_⟩
        repeat (first | exact Below.refl _ _ | refine below_drewN ?_ _ | refine Below.setCell ?_ (by simp) _ | refine Below.alloc ?_ (by simp) _ | (refine Below.alloc ?_ (by simp; omega) _))
    · have L : Hid (low n d = (0, 0)) := low_none (by rw [L1.out, L2.out]; exact fun k => h1 ⟨k.1, k.2.1⟩)
      refine (iIsNum_f _ _ (by omega)).mono ?_
      rintro e w' ⟨rfl, rfl⟩
      clear h1
      go_wp2_with fail
      refine bodyPost_ret (v := ratV (0, 0)) (by simp [results, Tryz.results91, go_sem, ratV]) rfl ⟨by rw [L.out], ?_⟩
      repeat (first | exact Below.refl _ _ | refine below_drewN ?_ _ | refine Below.setCell ?_ (by simp) _ | refine Below.alloc ?_ (by simp) _ | (refine Below.alloc ?_ (by simp; omega) _))
end Go.Proofs.YtcapddcmnjeloaaGreatDoor
end

section
/-
  Chapter 2, in the program: MakeRatio, IsRatio.
-/
namespace Go.Proofs.YtcapddcmnjeloaaGreatDoor
open Go.RowKit
theorem iLow0 (n : Int) (w : World) :
    Calls Tryz.prog 91 #[.agg #[.int .i64 n, .int .i64 0]] w (Gives (ratV (low n 0)) w) := by
  go_enter Tryz.func91, Tryz.ntmps91
  go_wp2_with fail
  refine bodyPost_ret (v := ratV (0, 0)) (by simp [results, Tryz.results91, go_sem, ratV]) rfl ⟨by rw [low_zero], ?_⟩
  exact ((Below.refl _ _).alloc (Nat.le_refl _) _).alloc (by simp) _
theorem iLowA (n d : Int) (w : World) (hn : -2000000000000000000 ≤ n ∧ n ≤ 2000000000000000000) (hd : -2000000000000000000 ≤ d ∧ d ≤ 2000000000000000000) :
    Calls Tryz.prog 91 #[.agg #[.int .i64 n, .int .i64 d]] w (Gives (ratV (low n d)) w) := by
  by_cases h : d = 0
  · subst h; exact iLow0 n w
  · exact iLow n d w hn hd h
theorem iMk (n d : Int) (w : World) : Calls Tryz.prog 77 #[.int .i64 n, .int .i64 d] w (Gives (ratV (mkRat n d)) w) := by
  by_cases hn : -400000000 ≤ n ∧ n ≤ 400000000
  · by_cases hd : -400000000 ≤ d ∧ d ≤ 400000000
    · rw [mkRat_in ⟨hn, hd⟩]
      go_enter Tryz.func77, Tryz.ntmps77
      go_wp2_with fail
      refine (iIsNum_t _ _ hn.1 hn.2).mono ?_
      rintro e w' ⟨rfl, rfl⟩
      go_wp2_with fail
      refine (iIsNum_t _ _ hd.1 hd.2).mono ?_
      rintro e w' ⟨rfl, rfl⟩
      go_wp2_with fail
      refine (iLowA n d _ (by omega) (by omega)).mono ?_
      rintro e w1 ⟨rfl, hb⟩
      have K0 : Hid (Blk2 w1 w.heap.size 40 (.int .i64 0) (.int .i64 0)) := (Blk2.at_ _ _ _ rfl).keep hb (by simp)
      obtain ⟨C0, C1, F0, F1⟩ := K0.out.all
      have B : Hid (Below w.heap.size w w1) := ((Below.refl _ _).alloc (Nat.le_refl _) _).trans (hb.mono (by simp))
      clear hb
      unfold ratV
      go_wp2_with fail
      obtain ⟨E0, E1, -, -⟩ := ((K0.out.set0 (.int .i64 (low n d).1)).set1 (.int .i64 (low n d).2)).all
      refine bodyPost_ret (v := ratV (low n d)) (by simp [results, Tryz.results77, go_sem, E0, E1, ratV]) rfl ⟨rfl, ?_⟩
      exact (B.out.setCell (Nat.le_refl _) _).setCell (Nat.le_refl _) _
    · rw [mkRat_out (fun k => hd k.2)]
      have hd' : d < -400000000 ∨ 400000000 < d := by omega
      clear hd
      go_enter Tryz.func77, Tryz.ntmps77
      go_wp2_with fail
      refine (iIsNum_t _ _ hn.1 hn.2).mono ?_
      rintro e w' ⟨rfl, rfl⟩
      go_wp2_with fail
      refine (iIsNum_f _ _ hd').mono ?_
      rintro e w' ⟨rfl, rfl⟩
      go_wp2_with fail
      refine bodyPost_ret (v := ratV (0, 0)) (by simp [results, Tryz.results77, go_sem, ratV]) rfl ⟨rfl, ?_⟩
      exact (Below.refl _ _).alloc (Nat.le_refl _) _
  · rw [mkRat_out (fun k => hn k.1)]
    have hn' : n < -400000000 ∨ 400000000 < n := by omega
    clear hn
    go_enter Tryz.func77, Tryz.ntmps77
    go_wp2_with fail
    refine (iIsNum_f _ _ hn').mono ?_
    rintro e w' ⟨rfl, rfl⟩
    go_wp2_with fail
    refine bodyPost_ret (v := ratV (0, 0)) (by simp [results, Tryz.results77, go_sem, ratV]) rfl ⟨rfl, ?_⟩
    exact (Below.refl _ _).alloc (Nat.le_refl _) _
theorem eqRat (n d a b : Int) (w : World) : (Op.equalIn 10000 40 (.agg #[.int .i64 n, .int .i64 d]) (.agg #[.int .i64 a, .int .i64 b])).run Tryz.prog w = .ok (n == a && d == b) w := by
  by_cases h1 : n = a
  · subst h1
    by_cases h2 : d = b
    · subst h2
      simp [go_sem]
    · have h2' : (d == b) = false := by simpa using h2
      simp [go_sem, h2']
  · have h1' : (n == a) = false := by simpa using h1
    simp [go_sem, h1']
theorem isRat_beq (n d : Int) (h : ¬ (n = 0 ∧ d = 0)) : (n == (mkRat n d).1 && d == (mkRat n d).2) = isRat n d := by
  rw [isRat_mk n d h]
  generalize mkRat n d = r
  obtain ⟨p, q⟩ := r
  rw [Bool.eq_iff_iff]
  simp only [Bool.and_eq_true, beq_iff_eq, decide_eq_true_eq, Prod.mk.injEq]
  exact ⟨fun h => ⟨h.1.symm, h.2.symm⟩, fun h => ⟨h.1.symm, h.2.symm⟩⟩
set_option maxHeartbeats 2000000 in
theorem iIsRat (n d : Int) (w : World) : Calls Tryz.prog 59 #[.agg #[.int .i64 n, .int .i64 d]] w (Gives (.bool (isRat n d)) w) := by
  by_cases h0 : n = 0 ∧ d = 0
  · obtain ⟨rfl, rfl⟩ := h0
    have E : Hid (isRat 0 0 = false) := decide_eq_false not_isRat_zero
    go_enter Tryz.func59, Tryz.ntmps59
    go_wp2_with fail
    go_quiet (fail)
    go_wp2_with fail
    go_ret
    exact ⟨by rw [E.out]; rfl, below_drewN ((Below.refl _ _).alloc (Nat.le_refl _) _) _⟩
  · have q1 : ∀ w : World, (Op.equalIn 10000 40 (.agg #[.int .i64 n, .int .i64 d]) (.agg #[.int .i64 0, .int .i64 0])).run Tryz.prog w = .ok false w := fun w => by
      rw [eqRat, show (n == 0 && d == 0) = false by simp; omega]
    have q2 : ∀ w : World, (Op.equalIn 10000 40 (.agg #[.int .i64 n, .int .i64 d]) (.agg #[.int .i64 (mkRat n d).1, .int .i64 (mkRat n d).2])).run Tryz.prog w = .ok (isRat n d) w := fun w => by
      rw [eqRat, isRat_beq n d h0]
    clear h0
    go_enter Tryz.func59, Tryz.ntmps59
    go_wp2_with fail
    go_region_with (go_at_call 77; refine (iMk _ _ _).mono ?_; rintro e w1 ⟨rfl, hb⟩; obtain ⟨C0, C1, -, -⟩ := (Blk2.keep (b := w.heap.size) (t := 40) (p := .int .i64 n) (q := .int .i64 d) (by first | exact Blk2.at_ _ _ _ rfl | exact (Blk2.at_ _ _ _ rfl).drewN _ | exact (Blk2.at_ _ _ _ rfl).drew) hb (by simp)).all; unfold ratV)
    all_goals
      go_wp2_with fail
      go_ret
      refine ⟨rfl, ?_⟩
      have B : Below w.heap.size w w1 := Below.trans (by repeat (first | exact Below.refl _ _ | refine below_drewN ?_ _ | refine Below.drew ?_ | refine Below.alloc ?_ (by simp) _)) (hb.mono (by simp))
      exact B
end Go.Proofs.YtcapddcmnjeloaaGreatDoor
end

section
/-
  Chapter 2, in the program: sums, products, quotients.
-/
namespace Go.Proofs.YtcapddcmnjeloaaGreatDoor
open Go.RowKit
set_option maxHeartbeats 800000 in
theorem iAdd (a b c d : Int) (w : World) : Calls Tryz.prog 45 #[.agg #[.int .i64 a, .int .i64 b], .agg #[.int .i64 c, .int .i64 d]] w (Gives (ratV (addR a b c d)) w) := by
  rcases Bool.eq_false_or_eq_true (isRat a b) with ha | ha
  · rcases Bool.eq_false_or_eq_true (isRat c d) with hc | hc
    · have L : Hid (addR a b c d = low (a * d + c * b) (b * d)) := by show addR a b c d = _; unfold addR; rw [ha, hc]; rfl
      have pa := isRat_in (of_decide_eq_true ha)
      have pc := isRat_in (of_decide_eq_true hc)
      obtain ⟨m1, m2⟩ := mul_sm a d pa.1 pc.2
      obtain ⟨m3, m4⟩ := mul_sm c b pc.1 pa.2
      obtain ⟨m5, m6⟩ := mul_sm b d pa.2 pc.2
      obtain ⟨m7, m8⟩ := mul_sm a c pa.1 pc.1
      obtain ⟨m9, m10⟩ := mul_sm b c pa.2 pc.1
      go_enter Tryz.func45, Tryz.ntmps45
      go_wp2_with fail
      refine (iIsRat a b _).mono ?_
      rintro e w1 ⟨rfl, hb⟩
      have K0 : Hid (Blk2 w1 w.heap.size 40 (.int .i64 a) (.int .i64 b)) := (((Blk2.at_ _ _ _ rfl).old _).old _).keep hb (by simp <;> omega)
      have K1 : Hid (Blk2 w1 (w.heap.size + 1) 40 (.int .i64 c) (.int .i64 d)) := ((Blk2.at_ _ _ _ (by simp)).old _).keep hb (by simp <;> omega)
      have K2 : Hid (Blk2 w1 (w.heap.size + 1 + 1) 40 (.int .i64 0) (.int .i64 0)) := (Blk2.at_ _ _ _ (by simp)).keep hb (by simp <;> omega)
      have B : Hid (Below w.heap.size w w1) := Below.trans (by repeat (first | exact Below.refl _ _ | refine Below.alloc ?_ (by simp <;> omega) _)) (hb.mono (by simp <;> omega))
      obtain ⟨K0a1, K0b1, K0c1, K0d1⟩ := K0.out.all
      obtain ⟨K1a1, K1b1, K1c1, K1d1⟩ := K1.out.all
      obtain ⟨K2a1, K2b1, K2c1, K2d1⟩ := K2.out.all
      clear hb
      rw [ha]
      go_wp2_with fail
      refine (iIsRat c d _).mono ?_
      rintro e w2 ⟨rfl, hb⟩
      have K0 : Hid (Blk2 w2 w.heap.size 40 (.int .i64 a) (.int .i64 b)) := K0.out.keep hb K0.out.lt
      have K1 : Hid (Blk2 w2 (w.heap.size + 1) 40 (.int .i64 c) (.int .i64 d)) := K1.out.keep hb K1.out.lt
      have K2 : Hid (Blk2 w2 (w.heap.size + 1 + 1) 40 (.int .i64 0) (.int .i64 0)) := K2.out.keep hb K2.out.lt
      have B := Lib.hid (B.out.trans (hb.mono B.out.size))
      obtain ⟨K0a2, K0b2, K0c2, K0d2⟩ := K0.out.all
      obtain ⟨K1a2, K1b2, K1c2, K1d2⟩ := K1.out.all
      obtain ⟨K2a2, K2b2, K2c2, K2d2⟩ := K2.out.all
      clear hb
      rw [hc]
      go_wp2_with fail
      refine (iLowA (a * d + c * b) (b * d) _ (by omega) (by omega)).mono ?_
      rintro e w3 ⟨rfl, hb⟩
      have K2 : Hid (Blk2 w3 (w.heap.size + 1 + 1) 40 (.int .i64 0) (.int .i64 0)) := K2.out.keep hb K2.out.lt
      have B := Lib.hid (B.out.trans (hb.mono B.out.size))
      obtain ⟨K2a3, K2b3, K2c3, K2d3⟩ := K2.out.all
      clear hb
      unfold ratV
      go_wp2_with fail
      obtain ⟨E0, E1, -, -⟩ := ((K2.out.set0 (.int .i64 (low (a * d + c * b) (b * d)).1)).set1 (.int .i64 (low (a * d + c * b) (b * d)).2)).all
      refine bodyPost_ret (v := ratV (low (a * d + c * b) (b * d))) (by simp [results, Tryz.results45, go_sem, E0, E1, ratV]) rfl ⟨by rw [L.out], ?_⟩
      exact (B.out.setCell (by show w.heap.size ≤ w.heap.size + 1 + 1; omega) _).setCell (by show w.heap.size ≤ w.heap.size + 1 + 1; omega) _
    · have L : Hid (addR a b c d = (0, 0)) := by show addR a b c d = _; unfold addR; rw [ha, hc]; rfl
      go_enter Tryz.func45, Tryz.ntmps45
      go_wp2_with fail
      refine (iIsRat a b _).mono ?_
      rintro e w1 ⟨rfl, hb⟩
      have K0 : Hid (Blk2 w1 w.heap.size 40 (.int .i64 a) (.int .i64 b)) := (((Blk2.at_ _ _ _ rfl).old _).old _).keep hb (by simp <;> omega)
      have K1 : Hid (Blk2 w1 (w.heap.size + 1) 40 (.int .i64 c) (.int .i64 d)) := ((Blk2.at_ _ _ _ (by simp)).old _).keep hb (by simp <;> omega)
      have K2 : Hid (Blk2 w1 (w.heap.size + 1 + 1) 40 (.int .i64 0) (.int .i64 0)) := (Blk2.at_ _ _ _ (by simp)).keep hb (by simp <;> omega)
      have B : Hid (Below w.heap.size w w1) := Below.trans (by repeat (first | exact Below.refl _ _ | refine Below.alloc ?_ (by simp <;> omega) _)) (hb.mono (by simp <;> omega))
      obtain ⟨K0a1, K0b1, K0c1, K0d1⟩ := K0.out.all
      obtain ⟨K1a1, K1b1, K1c1, K1d1⟩ := K1.out.all
      obtain ⟨K2a1, K2b1, K2c1, K2d1⟩ := K2.out.all
      clear hb
      rw [ha]
      go_wp2_with fail
      refine (iIsRat c d _).mono ?_
      rintro e w2 ⟨rfl, hb⟩
      have K0 : Hid (Blk2 w2 w.heap.size 40 (.int .i64 a) (.int .i64 b)) := K0.out.keep hb K0.out.lt
      have K1 : Hid (Blk2 w2 (w.heap.size + 1) 40 (.int .i64 c) (.int .i64 d)) := K1.out.keep hb K1.out.lt
      have K2 : Hid (Blk2 w2 (w.heap.size + 1 + 1) 40 (.int .i64 0) (.int .i64 0)) := K2.out.keep hb K2.out.lt
      have B := Lib.hid (B.out.trans (hb.mono B.out.size))
      obtain ⟨K0a2, K0b2, K0c2, K0d2⟩ := K0.out.all
      obtain ⟨K1a2, K1b2, K1c2, K1d2⟩ := K1.out.all
      obtain ⟨K2a2, K2b2, K2c2, K2d2⟩ := K2.out.all
      clear hb
      rw [hc]
      go_wp2_with fail
      obtain ⟨E0, E1, -, -⟩ := ((K2.out.set0 (.int .i64 0)).set1 (.int .i64 0)).all
      refine bodyPost_ret (v := ratV (0, 0)) (by simp [results, Tryz.results45, go_sem, E0, E1, ratV]) rfl ⟨by rw [L.out], ?_⟩
      exact (B.out.setCell (by show w.heap.size ≤ w.heap.size + 1 + 1; omega) _).setCell (by show w.heap.size ≤ w.heap.size + 1 + 1; omega) _
  · have L : Hid (addR a b c d = (0, 0)) := by show addR a b c d = _; unfold addR; rw [ha]; rfl
    go_enter Tryz.func45, Tryz.ntmps45
    go_wp2_with fail
    refine (iIsRat a b _).mono ?_
    rintro e w1 ⟨rfl, hb⟩
    have K0 : Hid (Blk2 w1 w.heap.size 40 (.int .i64 a) (.int .i64 b)) := (((Blk2.at_ _ _ _ rfl).old _).old _).keep hb (by simp <;> omega)
    have K1 : Hid (Blk2 w1 (w.heap.size + 1) 40 (.int .i64 c) (.int .i64 d)) := ((Blk2.at_ _ _ _ (by simp)).old _).keep hb (by simp <;> omega)
    have K2 : Hid (Blk2 w1 (w.heap.size + 1 + 1) 40 (.int .i64 0) (.int .i64 0)) := (Blk2.at_ _ _ _ (by simp)).keep hb (by simp <;> omega)
    have B : Hid (Below w.heap.size w w1) := Below.trans (by repeat (first | exact Below.refl _ _ | refine Below.alloc ?_ (by simp <;> omega) _)) (hb.mono (by simp <;> omega))
    obtain ⟨K0a1, K0b1, K0c1, K0d1⟩ := K0.out.all
    obtain ⟨K1a1, K1b1, K1c1, K1d1⟩ := K1.out.all
    obtain ⟨K2a1, K2b1, K2c1, K2d1⟩ := K2.out.all
    clear hb
    rw [ha]
    go_wp2_with fail
    obtain ⟨E0, E1, -, -⟩ := ((K2.out.set0 (.int .i64 0)).set1 (.int .i64 0)).all
    refine bodyPost_ret (v := ratV (0, 0)) (by simp [results, Tryz.results45, go_sem, E0, E1, ratV]) rfl ⟨by rw [L.out], ?_⟩
    exact (B.out.setCell (by show w.heap.size ≤ w.heap.size + 1 + 1; omega) _).setCell (by show w.heap.size ≤ w.heap.size + 1 + 1; omega) _
set_option maxHeartbeats 800000 in
theorem iMul (a b c d : Int) (w : World) : Calls Tryz.prog 46 #[.agg #[.int .i64 a, .int .i64 b], .agg #[.int .i64 c, .int .i64 d]] w (Gives (ratV (mulR a b c d)) w) := by
  rcases Bool.eq_false_or_eq_true (isRat a b) with ha | ha
  · rcases Bool.eq_false_or_eq_true (isRat c d) with hc | hc
    · have L : Hid (mulR a b c d = low (a * c) (b * d)) := by show mulR a b c d = _; unfold mulR; rw [ha, hc]; rfl
      have pa := isRat_in (of_decide_eq_true ha)
      have pc := isRat_in (of_decide_eq_true hc)
      obtain ⟨m1, m2⟩ := mul_sm a d pa.1 pc.2
      obtain ⟨m3, m4⟩ := mul_sm c b pc.1 pa.2
      obtain ⟨m5, m6⟩ := mul_sm b d pa.2 pc.2
      obtain ⟨m7, m8⟩ := mul_sm a c pa.1 pc.1
      obtain ⟨m9, m10⟩ := mul_sm b c pa.2 pc.1
      go_enter Tryz.func46, Tryz.ntmps46
      go_wp2_with fail
      refine (iIsRat a b _).mono ?_
      rintro e w1 ⟨rfl, hb⟩
      have K0 : Hid (Blk2 w1 w.heap.size 40 (.int .i64 a) (.int .i64 b)) := (((Blk2.at_ _ _ _ rfl).old _).old _).keep hb (by simp <;> omega)
      have K1 : Hid (Blk2 w1 (w.heap.size + 1) 40 (.int .i64 c) (.int .i64 d)) := ((Blk2.at_ _ _ _ (by simp)).old _).keep hb (by simp <;> omega)
      have K2 : Hid (Blk2 w1 (w.heap.size + 1 + 1) 40 (.int .i64 0) (.int .i64 0)) := (Blk2.at_ _ _ _ (by simp)).keep hb (by simp <;> omega)
      have B : Hid (Below w.heap.size w w1) := Below.trans (by repeat (first | exact Below.refl _ _ | refine Below.alloc ?_ (by simp <;> omega) _)) (hb.mono (by simp <;> omega))
      obtain ⟨K0a1, K0b1, K0c1, K0d1⟩ := K0.out.all
      obtain ⟨K1a1, K1b1, K1c1, K1d1⟩ := K1.out.all
      obtain ⟨K2a1, K2b1, K2c1, K2d1⟩ := K2.out.all
      clear hb
      rw [ha]
      go_wp2_with fail
      refine (iIsRat c d _).mono ?_
      rintro e w2 ⟨rfl, hb⟩
      have K0 : Hid (Blk2 w2 w.heap.size 40 (.int .i64 a) (.int .i64 b)) := K0.out.keep hb K0.out.lt
      have K1 : Hid (Blk2 w2 (w.heap.size + 1) 40 (.int .i64 c) (.int .i64 d)) := K1.out.keep hb K1.out.lt
      have K2 : Hid (Blk2 w2 (w.heap.size + 1 + 1) 40 (.int .i64 0) (.int .i64 0)) := K2.out.keep hb K2.out.lt
      have B := Lib.hid (B.out.trans (hb.mono B.out.size))
      obtain ⟨K0a2, K0b2, K0c2, K0d2⟩ := K0.out.all
      obtain ⟨K1a2, K1b2, K1c2, K1d2⟩ := K1.out.all
      obtain ⟨K2a2, K2b2, K2c2, K2d2⟩ := K2.out.all
      clear hb
      rw [hc]
      go_wp2_with fail
      refine (iLowA (a * c) (b * d) _ (by omega) (by omega)).mono ?_
      rintro e w3 ⟨rfl, hb⟩
      have K2 : Hid (Blk2 w3 (w.heap.size + 1 + 1) 40 (.int .i64 0) (.int .i64 0)) := K2.out.keep hb K2.out.lt
      have B := Lib.hid (B.out.trans (hb.mono B.out.size))
      obtain ⟨K2a3, K2b3, K2c3, K2d3⟩ := K2.out.all
      clear hb
      unfold ratV
      go_wp2_with fail
      obtain ⟨E0, E1, -, -⟩ := ((K2.out.set0 (.int .i64 (low (a * c) (b * d)).1)).set1 (.int .i64 (low (a * c) (b * d)).2)).all
      refine bodyPost_ret (v := ratV (low (a * c) (b * d))) (by simp [results, Tryz.results46, go_sem, E0, E1, ratV]) rfl ⟨by rw [L.out], ?_⟩
      exact (B.out.setCell (by show w.heap.size ≤ w.heap.size + 1 + 1; omega) _).setCell (by show w.heap.size ≤ w.heap.size + 1 + 1; omega) _
    · have L : Hid (mulR a b c d = (0, 0)) := by show mulR a b c d = _; unfold mulR; rw [ha, hc]; rfl
      go_enter Tryz.func46, Tryz.ntmps46
      go_wp2_with fail
      refine (iIsRat a b _).mono ?_
      rintro e w1 ⟨rfl, hb⟩
      have K0 : Hid (Blk2 w1 w.heap.size 40 (.int .i64 a) (.int .i64 b)) := (((Blk2.at_ _ _ _ rfl).old _).old _).keep hb (by simp <;> omega)
      have K1 : Hid (Blk2 w1 (w.heap.size + 1) 40 (.int .i64 c) (.int .i64 d)) := ((Blk2.at_ _ _ _ (by simp)).old _).keep hb (by simp <;> omega)
      have K2 : Hid (Blk2 w1 (w.heap.size + 1 + 1) 40 (.int .i64 0) (.int .i64 0)) := (Blk2.at_ _ _ _ (by simp)).keep hb (by simp <;> omega)
      have B : Hid (Below w.heap.size w w1) := Below.trans (by repeat (first | exact Below.refl _ _ | refine Below.alloc ?_ (by simp <;> omega) _)) (hb.mono (by simp <;> omega))
      obtain ⟨K0a1, K0b1, K0c1, K0d1⟩ := K0.out.all
      obtain ⟨K1a1, K1b1, K1c1, K1d1⟩ := K1.out.all
      obtain ⟨K2a1, K2b1, K2c1, K2d1⟩ := K2.out.all
      clear hb
      rw [ha]
      go_wp2_with fail
      refine (iIsRat c d _).mono ?_
      rintro e w2 ⟨rfl, hb⟩
      have K0 : Hid (Blk2 w2 w.heap.size 40 (.int .i64 a) (.int .i64 b)) := K0.out.keep hb K0.out.lt
      have K1 : Hid (Blk2 w2 (w.heap.size + 1) 40 (.int .i64 c) (.int .i64 d)) := K1.out.keep hb K1.out.lt
      have K2 : Hid (Blk2 w2 (w.heap.size + 1 + 1) 40 (.int .i64 0) (.int .i64 0)) := K2.out.keep hb K2.out.lt
      have B := Lib.hid (B.out.trans (hb.mono B.out.size))
      obtain ⟨K0a2, K0b2, K0c2, K0d2⟩ := K0.out.all
      obtain ⟨K1a2, K1b2, K1c2, K1d2⟩ := K1.out.all
      obtain ⟨K2a2, K2b2, K2c2, K2d2⟩ := K2.out.all
      clear hb
      rw [hc]
      go_wp2_with fail
      obtain ⟨E0, E1, -, -⟩ := ((K2.out.set0 (.int .i64 0)).set1 (.int .i64 0)).all
      refine bodyPost_ret (v := ratV (0, 0)) (by simp [results, Tryz.results46, go_sem, E0, E1, ratV]) rfl ⟨by rw [L.out], ?_⟩
      exact (B.out.setCell (by show w.heap.size ≤ w.heap.size + 1 + 1; omega) _).setCell (by show w.heap.size ≤ w.heap.size + 1 + 1; omega) _
  · have L : Hid (mulR a b c d = (0, 0)) := by show mulR a b c d = _; unfold mulR; rw [ha]; rfl
    go_enter Tryz.func46, Tryz.ntmps46
    go_wp2_with fail
    refine (iIsRat a b _).mono ?_
    rintro e w1 ⟨rfl, hb⟩
    have K0 : Hid (Blk2 w1 w.heap.size 40 (.int .i64 a) (.int .i64 b)) := (((Blk2.at_ _ _ _ rfl).old _).old _).keep hb (by simp <;> omega)
    have K1 : Hid (Blk2 w1 (w.heap.size + 1) 40 (.int .i64 c) (.int .i64 d)) := ((Blk2.at_ _ _ _ (by simp)).old _).keep hb (by simp <;> omega)
    have K2 : Hid (Blk2 w1 (w.heap.size + 1 + 1) 40 (.int .i64 0) (.int .i64 0)) := (Blk2.at_ _ _ _ (by simp)).keep hb (by simp <;> omega)
    have B : Hid (Below w.heap.size w w1) := Below.trans (by repeat (first | exact Below.refl _ _ | refine Below.alloc ?_ (by simp <;> omega) _)) (hb.mono (by simp <;> omega))
    obtain ⟨K0a1, K0b1, K0c1, K0d1⟩ := K0.out.all
    obtain ⟨K1a1, K1b1, K1c1, K1d1⟩ := K1.out.all
    obtain ⟨K2a1, K2b1, K2c1, K2d1⟩ := K2.out.all
    clear hb
    rw [ha]
    go_wp2_with fail
    obtain ⟨E0, E1, -, -⟩ := ((K2.out.set0 (.int .i64 0)).set1 (.int .i64 0)).all
    refine bodyPost_ret (v := ratV (0, 0)) (by simp [results, Tryz.results46, go_sem, E0, E1, ratV]) rfl ⟨by rw [L.out], ?_⟩
    exact (B.out.setCell (by show w.heap.size ≤ w.heap.size + 1 + 1; omega) _).setCell (by show w.heap.size ≤ w.heap.size + 1 + 1; omega) _
end Go.Proofs.YtcapddcmnjeloaaGreatDoor
end

section
/-
  Chapter 3, in the program: IsMatrix.
-/
namespace Go.Proofs.YtcapddcmnjeloaaGreatDoor
open Go.RowKit
theorem iSize_t (n : Int) (w : World) (h1 : 0 ≤ n) (h2 : n ≤ 24) :
    Calls Tryz.prog 87 #[.int .i64 n] w fun e w' => e = .returned (.bool true) ∧ w = w' := by
  go_enter Tryz.func87, Tryz.ntmps87
  go_wp2
  go_ret
  exact ⟨rfl, rfl⟩
theorem iSize_f (n : Int) (w : World) (h : n < 0 ∨ 24 < n) :
    Calls Tryz.prog 87 #[.int .i64 n] w fun e w' => e = .returned (.bool false) ∧ w = w' := by
  by_cases h1 : 0 ≤ n
  · have h2 : decide (n ≤ 24) = false := by simp; omega
    go_enter Tryz.func87, Tryz.ntmps87
    go_wp2
    go_ret
    exact ⟨rfl, rfl⟩
  · go_enter Tryz.func87, Tryz.ntmps87
    go_wp2
    go_ret
    exact ⟨rfl, rfl⟩
theorem iIsNum (n : Int) (w : World) :
    Calls Tryz.prog 90 #[.int .i64 n] w fun e w' => e = .returned (.bool (decide (NumP n))) ∧ w = w' := by
  by_cases h : NumP n
  · rw [decide_eq_true h]; exact iIsNum_t n w h.1 h.2
  · rw [decide_eq_false h]; exact iIsNum_f n w (by unfold NumP at h; omega)
theorem iStep (b : Bool) (i j z : Int) (w : World) :
    Calls Tryz.prog 89 #[.bool b, .int .i64 i, .int .i64 j, .int .i64 z] w fun e w' => e = .returned (.bool (b && decide (NumP z))) ∧ w = w' := by
  cases b
  · go_enter Tryz.func89, Tryz.ntmps89
    go_wp2_with fail
    go_ret
    exact ⟨rfl, rfl⟩
  · go_enter Tryz.func89, Tryz.ntmps89
    go_wp2_with fail
    refine (iIsNum z _).mono ?_
    rintro e w' ⟨rfl, rfl⟩
    go_wp2_with fail
    go_ret
    exact ⟨rfl, rfl⟩
theorem take_nums (zs : List Int) (k : Nat) (hk : k < zs.length) : nums (zs.take (k + 1)) = (nums (zs.take k) && decide (NumP (zs.getD k 0))) := by
  unfold nums
  rw [List.take_succ_eq_append_getElem hk, List.all_append]
  simp only [List.all_cons, List.all_nil, Bool.and_true, List.getD, List.getElem?_eq_getElem hk, Option.getD_some]
set_option maxHeartbeats 400000 in
theorem iFoldB (r c : Int) (a : Option Addr) (cap : Nat) (zs : List Int) (w : World) (h : Rd w a zs) (hn : zs.length ≤ 16777216) (hc : zs.length = 0 ∨ 0 < c) :
    Calls Tryz.prog 88 #[.agg #[.int .i64 r, .int .i64 c, .slice a zs.length cap], .bool true, .func (.func 89) #[] #[]] w (Gives (.bool (nums zs)) w) := by
  have B0 : ∀ o, Below w.heap.size w (w.alloc o) := fun o => (Below.refl _ _).alloc (Nat.le_refl _) o
  have BH := Lib.hid B0
  have H := Lib.hid h
  obtain ⟨n, hnn⟩ : ∃ n, zs.length = n := ⟨_, rfl⟩
  have HN := Lib.hid hnn
  rw [hnn] at hn hc ⊢
  clear h B0 hnn
  go_enter Tryz.func88, Tryz.ntmps88
  go_wp2_with fail
  go_loopw [7, 8, 9, 14] (fun b _ _ i wr => ∃ k : Nat, i = .int .i64 k ∧ k ≤ n ∧ b = .bool (nums (zs.take k)) ∧ ∃ q, wr = (w.alloc (.cells #[.int .i64 r, .int .i64 c, .slice a n cap] 26)).drewN q) (fun _ _ _ i _ => n - (intOf i).toNat)
  case atStart => exact ⟨0, rfl, by omega, rfl, 0, rfl⟩
  case round =>
    obtain ⟨k, rfl, hk, rfl, q, rfl⟩ := hrel
    by_cases hlt : k < n
    · have c0 : (c == 0) = false := by simp; omega
      obtain ⟨b, o, rfl, hcell⟩ := (H.out.below (BH.out (.cells #[.int .i64 r, .int .i64 c, .slice a n cap] 26))) k (by rw [HN.out]; exact hlt)
      obtain ⟨z, hz⟩ : ∃ z, zs.getD k 0 = z := ⟨_, rfl⟩
      obtain ⟨bb, hbb⟩ : ∃ bb, nums (zs.take k) = bb := ⟨_, rfl⟩
      rw [hz] at hcell
      have Z := Lib.hid hz
      have BB := Lib.hid hbb
      rw [hbb]
      clear hz hbb
      go_wp2_with fail
      go_quiet ((refine (iStep _ _ _ _ _).mono ?_; rintro e w' ⟨rfl, rfl⟩; exact ⟨rfl, _, rfl⟩))
      go_wp2_with fail
      go_roundw
      case rel => exact ⟨k + 1, by go_num, by omega, by rw [take_nums zs k (by rw [HN.out]; exact hlt), BB.out, Z.out], _, rfl⟩
      case measure => simp [intOf]; omega
    · have hkn : k = n := by omega
      subst hkn
      have E : Hid (nums (zs.take k) = nums zs) := by show nums (zs.take k) = nums zs; rw [← HN.out, List.take_length]
      go_wp2_with fail
      go_ret
      exact ⟨by rw [E.out]; rfl, below_drewN (BH.out _) q⟩
set_option maxHeartbeats 400000 in
theorem iIsMat (r c : Int) (a : Option Addr) (cap : Nat) (zs : List Int) (w : World) (h : Rd w a zs) (hn : zs.length ≤ 16777216) :
    Calls Tryz.prog 43 #[.agg #[.int .i64 r, .int .i64 c, .slice a zs.length cap]] w (Gives (.bool (isMat r c zs)) w) := by
  have B0 : ∀ o, Below w.heap.size w (w.alloc o) := fun o => (Below.refl _ _).alloc (Nat.le_refl _) o
  have BH := Lib.hid B0
  have H := Lib.hid h
  clear h B0
  obtain ⟨n, hnn⟩ : ∃ n, zs.length = n := ⟨_, rfl⟩
  have HN := Lib.hid hnn
  have ED : isMat r c zs = (decide (SizeP r) && decide (SizeP c) && decide ((n : Int) = r * c) && nums zs) := by unfold isMat; rw [hnn]
  have E := Lib.hid ED
  rw [hnn] at hn ⊢
  clear hnn ED
  by_cases hr : 0 ≤ r ∧ r ≤ 24
  · by_cases hc : 0 ≤ c ∧ c ≤ 24
    · obtain ⟨m1, m2⟩ := mul_size r c hr hc
      by_cases hl : (n : Int) = r * c
      · have l1 : ((n : Int) != r * c) = false := by simpa using hl
        have l2 : ((n : Int) == r * c) = true := by simpa using hl
        have E2 : Hid (isMat r c zs = nums zs) := by
          show isMat r c zs = nums zs
          rw [E.out, show decide (SizeP r) = true from decide_eq_true hr, show decide (SizeP c) = true from decide_eq_true hc, show decide ((n : Int) = r * c) = true from decide_eq_true hl]; rfl
        have hz : zs.length = 0 ∨ 0 < c := by
          rw [HN.out]
          rcases Nat.eq_zero_or_pos n with e | e
          · exact .inl e
          · right
            rcases Int.lt_or_lt_of_ne (a := c) (b := 0) (fun e0 => by rw [e0, Int.mul_zero] at hl; omega) with h | h <;> omega
        have HZ := Lib.hid hz
        clear hl hz
        obtain ⟨r1, r2⟩ := hr
        obtain ⟨c1, c2⟩ := hc
        go_enter Tryz.func43, Tryz.ntmps43
        go_wp2_with (go_at_call 87; refine (iSize_t _ _ (by omega) (by omega)).mono ?_; rintro e w' ⟨rfl, rfl⟩)
        have ST := iFoldB r c a cap zs _ (H.out.below (BH.out (.cells #[.int .i64 r, .int .i64 c, .slice a n cap] 26))) (by rw [HN.out]; exact hn) HZ.out
        rw [HN.out] at ST
        refine ST.mono ?_
        clear ST
        rintro e w' ⟨rfl, hb⟩
        have HB := Lib.hid ((BH.out _).trans (hb.mono (BH.out (.cells #[.int .i64 r, .int .i64 c, .slice a n cap] 26)).size))
        clear hb
        go_wp2_with fail
        go_ret
        exact ⟨by rw [E2.out]; rfl, HB.out⟩
      · have l1 : ((n : Int) != r * c) = true := by simpa using hl
        have l2 : ((n : Int) == r * c) = false := by simpa using hl
        have E2 : Hid (isMat r c zs = false) := by
          show isMat r c zs = false
          rw [E.out, show decide ((n : Int) = r * c) = false from decide_eq_false hl]; simp
        clear hl
        obtain ⟨r1, r2⟩ := hr
        obtain ⟨c1, c2⟩ := hc
        go_enter Tryz.func43, Tryz.ntmps43
        go_wp2_with (go_at_call 87; refine (iSize_t _ _ (by omega) (by omega)).mono ?_; rintro e w' ⟨rfl, rfl⟩)
        go_ret
        exact ⟨by rw [E2.out]; rfl, BH.out _⟩
    · have E2 : Hid (isMat r c zs = false) := by
        show isMat r c zs = false
        rw [E.out, show decide (SizeP c) = false from decide_eq_false hc]; simp
      have hc' : c < 0 ∨ 24 < c := by omega
      clear hc
      go_enter Tryz.func43, Tryz.ntmps43
      go_wp2_with fail
      refine (iSize_t r _ hr.1 hr.2).mono ?_
      rintro e w' ⟨rfl, rfl⟩
      go_wp2_with fail
      refine (iSize_f c _ hc').mono ?_
      rintro e w' ⟨rfl, rfl⟩
      go_wp2_with fail
      go_ret
      exact ⟨by rw [E2.out]; rfl, BH.out _⟩
  · have E2 : Hid (isMat r c zs = false) := by
      show isMat r c zs = false
      rw [E.out, show decide (SizeP r) = false from decide_eq_false hr]; simp
    have hr' : r < 0 ∨ 24 < r := by omega
    clear hr
    go_enter Tryz.func43, Tryz.ntmps43
    go_wp2_with fail
    refine (iSize_f r _ hr').mono ?_
    rintro e w' ⟨rfl, rfl⟩
    go_wp2_with fail
    go_ret
    exact ⟨by rw [E2.out]; rfl, BH.out _⟩
end Go.Proofs.YtcapddcmnjeloaaGreatDoor
end

section
/-
  Chapter 3, in the program: a row that shares its memory with the matrix.
-/
namespace Go.Proofs.YtcapddcmnjeloaaGreatDoor
set_option maxRecDepth 100000
open Go.RowKit
def rwL (c : Nat) (v : Nat → Int) : List Int := (List.range c).map v
theorem rwL_length (c : Nat) (v : Nat → Int) : (rwL c v).length = c := by simp [rwL]
theorem rwL_at {c : Nat} {v : Nat → Int} {j : Nat} (hj : j < c) : (rwL c v).getD j 0 = v j := by simp [rwL, List.getD, hj]
def RowAt (q : Option Addr) (D c : Nat) (w : World) (e : Ending) (w' : World) : Prop :=
  ∃ (q' : Option Addr) (m' : Nat), e = .returned (.slice q' c m') ∧ c ≤ m' ∧ (∀ g o : Nat, q = some ⟨g, o, none⟩ → 0 < c → q' = some ⟨g, o + D, none⟩) ∧ (q = none → q' = none) ∧ Below w.heap.size w w'
theorem Rd.row {w : World} {q q' : Option Addr} {xs : List Int} {r c i : Nat} (h : Rd w q xs) (hx : xs.length = r * c) (hi : i < r) (hq : ∀ g o : Nat, q = some ⟨g, o, none⟩ → 0 < c → q' = some ⟨g, o + i * c, none⟩) : Rd w q' (rwL c (mxC c xs i)) := fun j hj => by
  rw [rwL_length] at hj
  obtain ⟨b, o, ha, hc⟩ := h (i * c + j) (by rw [hx]; exact idx_lt hi hj)
  refine ⟨b, o + i * c, hq b o ha (by omega), ?_⟩
  rw [rwL_at hj, Nat.add_assoc]
  exact hc
set_option maxHeartbeats 1000000 in
theorem iRowIn (r c i D N cap : Nat) (q : Option Addr) (w : World) (hq : Spot q) (hD : i * c = D) (hN : D + c ≤ N) (hc : N ≤ cap) (hn : q = none → cap = 0) (h1 : N ≤ 600) (hi : i ≤ 600) :
    Calls Tryz.prog 44 #[.agg #[.int .i64 r, .int .i64 c, .slice q N cap], .int .i64 i] w (RowAt q D c w) := by
  have u1 : (i : Int) * (c : Int) = (D : Int) := by rw [← hD]; exact (Int.natCast_mul _ _).symm
  have u2 : ((i : Int) + 1) * (c : Int) = ((D + c : Nat) : Int) := by rw [Int.add_mul, Int.one_mul, u1]; rfl
  have v1 : IntKind.i64.wrap ((i : Int) * (c : Int)) = (D : Int) := by rw [u1]; exact IntWalk.i64_in _ (by omega)
  have v2 : IntKind.i64.wrap ((i : Int) + 1) = (i : Int) + 1 := IntWalk.i64_in _ (by omega)
  have v3 : IntKind.i64.wrap (((i : Int) + 1) * (c : Int)) = ((D + c : Nat) : Int) := by rw [u2]; exact IntWalk.i64_in _ (by omega)
  have Z : Hid (c = 0 → D = 0) := fun h => by rw [← hD, h, Nat.mul_zero]
  have Dm : D + c ≤ cap := by omega
  have K0 : Hid (Blk3 (w.alloc (.cells #[.int .i64 r, .int .i64 c, .slice q N cap] 26)) w.heap.size 26 (.int .i64 r) (.int .i64 c) (.slice q N cap)) := Blk3.at_ _ _ _ _ rfl
  have B : Hid (Below w.heap.size w (w.alloc (.cells #[.int .i64 r, .int .i64 c, .slice q N cap] 26))) := (Below.refl _ _).alloc (Nat.le_refl _) _
  clear hD u1 u2
  rcases hq with rfl | ⟨g, o, rfl⟩
  · obtain rfl : cap = 0 := hn rfl
    obtain rfl : c = 0 := by omega
    obtain rfl : D = 0 := by omega
    obtain rfl : N = 0 := by omega
    go_enter Tryz.func44, Tryz.ntmps44
    go_wp2_with fail
    exact bodyPost_ret (v := .slice none 0 0) (by simp [results, Tryz.results44, go_sem]) rfl ⟨none, 0, rfl, Nat.le_refl _, (fun g o h => by cases h), (fun _ => rfl), B.out⟩
  · rcases Nat.lt_or_ge D cap with hlt | hge
    · go_enter Tryz.func44, Tryz.ntmps44
      go_wp2_with fail
      rw [show D + c - D = c by omega]
      exact bodyPost_ret (v := .slice (some ⟨g, o + D, none⟩) c (cap - D)) (by simp [results, Tryz.results44, go_sem]) rfl ⟨_, _, rfl, by omega, (fun g' o' h _ => by injection h with h; injection h with h1 h2; rw [h1, h2]), (fun h => by cases h), B.out⟩
    · obtain rfl : c = 0 := by omega
      obtain rfl : D = 0 := Z.out rfl
      obtain rfl : cap = 0 := by omega
      obtain rfl : N = 0 := by omega
      go_enter Tryz.func44, Tryz.ntmps44
      go_wp2_with fail
      exact bodyPost_ret (v := .slice (some ⟨g, o, none⟩) 0 0) (by simp [results, Tryz.results44, go_sem]) rfl ⟨_, _, rfl, Nat.le_refl _, (fun g' o' h h0 => by omega), (fun h => by cases h), B.out⟩
end Go.Proofs.YtcapddcmnjeloaaGreatDoor
end

section
/-
  What cutting out a row asks of a matrix's cells.
-/
namespace Go.Proofs.YtcapddcmnjeloaaGreatDoor
open Go.RowKit
structure CelA (a : Option Addr) (L m : Nat) : Prop where
  spot : Spot a
  le : L ≤ m
  nil : a = none → m = 0
theorem Own.celA {B N cap : Nat} {w : World} {q : Option Addr} {zs : List Int} (h : Own B w (.slice q N cap) zs) : CelA q N cap := by
  rcases h with ⟨e, -⟩ | ⟨g, c, e, -, -, h3, -⟩
  · injection e with e1 e2 e3
    subst e1 e2 e3
    exact ⟨.inl rfl, Nat.le_refl _, fun _ => rfl⟩
  · injection e with e1 e2 e3
    subst e1 e2 e3
    exact ⟨Spot.of _ _, h3, fun h => by cases h⟩
end Go.Proofs.YtcapddcmnjeloaaGreatDoor
end

section
/-
  Chapter 11, in the program: IsRational.
-/
namespace Go.Proofs.YtcapddcmnjeloaaGreatDoor
set_option maxRecDepth 100000
open Go.RowKit
theorem ratG {W w' : World} {g : Nat} {t2 : TypeId} {s1 s2 z1 z2 : Value} {y1 y2 : Addr} (h1 : Blk2 W g t2 s1 s2) (hz1 : W.cell? y1 = some z1) (hz2 : W.cell? y2 = some z2) (hb : Below W.heap.size W w') :
    w'.cell? ⟨g, 0, none⟩ = some s1 ∧ w'.cell? ⟨g, 1, none⟩ = some s2 ∧ w'.cell? y1 = some z1 ∧ w'.cell? y2 = some z2 := by
  obtain ⟨b1, b2, -, -⟩ := (h1.keep hb h1.lt).all
  have far : ∀ {a : Addr} {u : Value}, W.cell? a = some u → w'.cell? a = some u := fun {a u} h => (hb.cell (World.block_lt_of_cell? W a h)).trans h
  exact ⟨b1, b2, far hz1, far hz2⟩
set_option maxHeartbeats 4000000 in
theorem iRational (r c : Int) (a : Option Addr) (m : Nat) (xs : List Int) (ab : Option Addr) (mb : Nat) (bs : List Int) (az : Option Addr) (mz : Nat) (zs : List (Int × Int)) (w : World) (h : Rd w a xs) (ha : CelA a xs.length m) (hn : xs.length ≤ 16777216) (hb : Rd w ab bs) (hbn : bs.length ≤ 16777216) (hz : RdQ w az zs) (hzn : zs.length ≤ 16777216) :
    Calls Tryz.prog 13 #[.agg #[.int .i64 r, .int .i64 c, .slice a xs.length m], .slice ab bs.length mb, .slice az zs.length mz] w (Gives (.bool (irB r c xs bs zs)) w) := by
  have IM : Hid (∀ w', Below w.heap.size w w' → Calls Tryz.prog 43 #[.agg #[.int .i64 r, .int .i64 c, .slice a xs.length m]] w' (Gives (.bool (isMat r c xs)) w')) := fun w' hb => iIsMat r c a m xs w' (h.below hb) hn
  have K0 : Hid (Blk3 (w.alloc (.cells #[.int .i64 r, .int .i64 c, .slice a xs.length m] 26)) w.heap.size 26 (.int .i64 r) (.int .i64 c) (.slice a xs.length m)) := Blk3.at_ _ _ _ _ rfl
  have B0 : Hid (Below w.heap.size w (w.alloc (.cells #[.int .i64 r, .int .i64 c, .slice a xs.length m] 26))) := (Below.refl _ _).alloc (Nat.le_refl _) _
  rcases Bool.eq_false_or_eq_true (isMat r c xs) with hm | hm
  rotate_left
  · have V : Hid (irB r c xs bs zs = false) := irB_false (.inl hm)
    go_enter Tryz.func13, Tryz.ntmps13
    go_wp2_with fail
    refine (IM.out _ B0.out).mono ?_
    rintro e w1 ⟨rfl, hb1⟩
    rw [hm]
    have B1 := Lib.hid (B0.out.trans (hb1.mono B0.out.size))
    clear hb1
    go_wp2_with fail
    go_ret
    exact ⟨by rw [V.out]; rfl, B1.out⟩
  obtain ⟨⟨r0, r1⟩, ⟨c0, c1⟩, hl, hnx⟩ := isMat_says hm
  obtain ⟨R, rfl⟩ := Int.eq_ofNat_of_zero_le r0
  obtain ⟨C, rfl⟩ := Int.eq_ofNat_of_zero_le c0
  have hl : xs.length = R * C := by rw [← Int.natCast_mul] at hl; omega
  have R24 : R ≤ 24 := by omega
  have C24 : C ≤ 24 := by omega
  have V1 : Hid ((bs.length : Int) ≠ R → irB R C xs bs zs = false) := fun h => irB_false (.inr (.inl h))
  have V2 : Hid ((zs.length : Int) ≠ C → irB R C xs bs zs = false) := fun h => irB_false (.inr (.inr h))
  have VR : Hid (∀ i, i < R → rowB C xs bs zs i = false → irB R C xs bs zs = false) := fun i hi h => irB_row hi h
  have VT : Hid (bs.length = R → zs.length = C → (∀ i, i < R → rowB C xs bs zs i = true) → irB R C xs bs zs = true) := fun h1 h2 h3 => irB_true hm h1 h2 h3
  have RX : Hid (Rd w a xs) := h
  have RB : Hid (Rd w ab bs) := hb
  have RZ : Hid (RdQ w az zs) := hz
  have HA : Hid (CelA a xs.length m) := ha
  generalize irB R C xs bs zs = bb at V1 V2 VR VT ⊢
  obtain ⟨L, hL⟩ : ∃ L, xs.length = L := ⟨_, rfl⟩
  rw [hL] at IM K0 B0 hn hl HA ⊢
  obtain ⟨Lb, hLb⟩ : ∃ Lb, bs.length = Lb := ⟨_, rfl⟩
  obtain ⟨Lz, hLz⟩ : ∃ Lz, zs.length = Lz := ⟨_, rfl⟩
  rw [hLb] at V1 VT hbn ⊢
  rw [hLz] at V2 VT hzn ⊢
  have XB := Lib.hid hLb
  have XN := Lib.hid hL
  have XZ := Lib.hid hLz
  have L6 : L ≤ 600 := by rw [hl]; exact Nat.le_trans (Nat.mul_le_mul R24 C24) (by decide)
  have RW : Hid (∀ i, i < R → ∀ w', Calls Tryz.prog 44 #[.agg #[.int .i64 R, .int .i64 C, .slice a L m], .int .i64 i] w' (RowAt a (i * C) C w')) := fun i hi w' => iRowIn R C i (i * C) L m a w' HA.out.spot rfl (by rw [hl, ← Nat.succ_mul]; exact Nat.mul_le_mul_right _ hi) HA.out.le HA.out.nil L6 (by omega)
  have HLX := Lib.hid hl
  clear h ha hb hz hLb hLz hL hl hnx
  go_enter Tryz.func13, Tryz.ntmps13
  go_wp2_with fail
  refine (IM.out _ B0.out).mono ?_
  rintro e w1 ⟨rfl, hb1⟩
  rw [hm]
  have B1 := Lib.hid (B0.out.trans (hb1.mono B0.out.size))
  have K1 := Lib.hid (K0.out.step hb1)
  clear hb1 hm IM
  obtain ⟨p0, p1, p2, -, -, -⟩ := K1.out.all
  by_cases h1 : (Lb : Int) = R
  rotate_left
  · have V := Lib.hid (V1.out h1)
    have n1 : ((Lb : Int) != (R : Int)) = true := by simpa using h1
    go_wp2_with fail
    go_ret
    exact ⟨by rw [V.out]; rfl, B1.out⟩
  have n1 : ((Lb : Int) != (R : Int)) = false := by simp; omega
  by_cases h2 : (Lz : Int) = C
  rotate_left
  · have V := Lib.hid (V2.out h2)
    have n2 : ((Lz : Int) != (C : Int)) = true := by simpa using h2
    go_wp2_with fail
    go_ret
    exact ⟨by rw [V.out]; rfl, B1.out⟩
  have n2 : ((Lz : Int) != (C : Int)) = false := by simp; omega
  have h1 : Lb = R := by omega
  have h2 : Lz = C := by omega
  subst h1 h2
  go_wp2_with fail
  go_loopw [7, 8, 9, 10, 11, 31] (fun _ _ _ _ _ v31 wr => ∃ i : Nat, v31 = .int .i64 i ∧ i ≤ Lb ∧ (∀ k, k < i → rowB Lz xs bs zs k = true) ∧ Blk3 wr w.heap.size 26 (.int .i64 Lb) (.int .i64 Lz) (.slice a L m) ∧ Below w.heap.size w wr) (fun _ _ _ _ _ v31 _ => Lb - (intOf v31).toNat)
  case atStart => exact ⟨0, rfl, by omega, fun k hk => by omega, K1.out, B1.out⟩
  case round =>
    obtain ⟨i, rfl, hi, hk, hK, hB⟩ := hrel
    have HK := Lib.hid hk
    have KO := Lib.hid hK
    have BO := Lib.hid hB
    clear hk hK hB K1 B1 p0 p1 p2
    by_cases hlt : i < Lb
    · have KM := Lib.hid (KO.out.old (.cells #[.int .i64 0, .int .i64 1] 40))
      have KS : Hid (Blk2 (wr.alloc (.cells #[.int .i64 0, .int .i64 1] 40)) wr.heap.size 40 (.int .i64 0) (.int .i64 1)) := Blk2.at_ _ _ _ rfl
      have BM := Lib.hid (BO.out.alloc BO.out.size (.cells #[.int .i64 0, .int .i64 1] 40))
      have s0 := BO.out.size
      have sK := KO.out.lt
      obtain ⟨b3, o3, rfl, hc4⟩ := (RB.out.below BO.out) i (by rw [XB.out]; exact hlt)
      obtain ⟨x, hx⟩ : ∃ x, bs.getD i 0 = x := ⟨_, rfl⟩
      have HX := Lib.hid hx
      rw [hx] at hc4
      obtain ⟨p0, p1, p2, -, -, -⟩ := KM.out.all
      clear hx
      go_upto_region 7 with fail
      obtain ⟨g, hg⟩ : ∃ g, wr.heap.size = g := ⟨_, rfl⟩
      rw [hg] at KS s0 sK ⊢
      generalize wr.alloc (.cells #[.int .i64 0, .int .i64 1] 40) = W at KM KS BM p0 p1 p2 ⊢
      clear KO BO hg hc4
      go_wp2_with fail
      refine (RW.out i hlt _).mono ?_
      rintro e w7 ⟨q7, m7, rfl, hm7, hq7, -, hb7⟩
      have KM := Lib.hid (KM.out.step hb7)
      have KS := Lib.hid (KS.out.keep hb7 KS.out.lt)
      have BM := Lib.hid (BM.out.trans (hb7.mono BM.out.size))
      have SRC : Hid (∀ wx, Below w.heap.size w wx → Rd wx q7 (rwL Lz (mxC Lz xs i))) := fun wx hgx => (RX.out.below hgx).row (by rw [XN.out, HLX.out]) hlt hq7
      clear hb7 hq7 p0 p1 p2
      go_wp2_with fail
      go_loopw [10, 11, 41] (fun _ _ v41 wi => ∃ j : Nat, v41 = .int .i64 j ∧ j ≤ Lz ∧ Blk3 wi w.heap.size 26 (.int .i64 Lb) (.int .i64 Lz) (.slice a L m) ∧ Blk2 wi g 40 (.int .i64 (sumR (mxC Lz xs i) (atR zs) j).1) (.int .i64 (sumR (mxC Lz xs i) (atR zs) j).2) ∧ Below w.heap.size w wi) (fun _ _ v41 _ => Lz - (intOf v41).toNat)
      case atStart => exact ⟨0, rfl, by omega, KM.out, KS.out, BM.out⟩
      case round =>
        clear KM KS BM
        obtain ⟨j, rfl, hj, hK, hS8, hB⟩ := hrel
        have K0 := Lib.hid hK
        have K8 := Lib.hid hS8
        have BI := Lib.hid hB
        clear hK hS8 hB
        by_cases hjl : j < Lz
        · obtain ⟨b1, o1, rfl, hc1⟩ := SRC.out _ BI.out j (by rw [rwL_length]; exact hjl)
          rw [rwL_at hjl] at hc1
          obtain ⟨b2, o2, rfl, -, hc2, hc3⟩ := (RZ.out.below BI.out) j (by rw [XZ.out]; exact hjl)
          have SS := Lib.hid (sumR_succ (mxC Lz xs i) (atR zs) j)
          have ZE : Hid (atR zs j = zs.getD j (0, 0)) := rfl
          obtain ⟨u, hu⟩ : ∃ u, mxC Lz xs i j = u := ⟨_, rfl⟩
          obtain ⟨zn, hzn⟩ : ∃ z, (zs.getD j (0, 0)).1 = z := ⟨_, rfl⟩
          obtain ⟨zd, hzd⟩ : ∃ z, (zs.getD j (0, 0)).2 = z := ⟨_, rfl⟩
          have SS : Hid (sumR (mxC Lz xs i) (atR zs) (j + 1) = addR (sumR (mxC Lz xs i) (atR zs) j).1 (sumR (mxC Lz xs i) (atR zs) j).2 (mulR u 1 zn zd).1 (mulR u 1 zn zd).2) := by
            refine Lib.hid ?_
            rw [SS.out, ZE.out, hu, hzn, hzd]
          rw [hu] at hc1
          rw [hzn] at hc2
          rw [hzd] at hc3
          have Z1 := Lib.hid hc2
          have Z2 := Lib.hid hc3
          obtain ⟨ps, hps⟩ : ∃ p, (sumR (mxC Lz xs i) (atR zs) j).1 = p := ⟨_, rfl⟩
          obtain ⟨qs, hqs⟩ : ∃ p, (sumR (mxC Lz xs i) (atR zs) j).2 = p := ⟨_, rfl⟩
          rw [hps, hqs] at SS K8
          obtain ⟨sn, hsn⟩ : ∃ p, (mulR u 1 zn zd).1 = p := ⟨_, rfl⟩
          obtain ⟨sd, hsd⟩ : ∃ p, (mulR u 1 zn zd).2 = p := ⟨_, rfl⟩
          rw [hsn, hsd] at SS
          have MU : Hid (∀ w', Calls Tryz.prog 46 #[.agg #[.int .i64 u, .int .i64 1], .agg #[.int .i64 zn, .int .i64 zd]] w' (Gives (.agg #[.int .i64 sn, .int .i64 sd]) w')) := fun w' => by rw [← hsn, ← hsd]; exact iMul u 1 zn zd w'
          have AD : Hid (∀ w', Calls Tryz.prog 45 #[.agg #[.int .i64 ps, .int .i64 qs], .agg #[.int .i64 sn, .int .i64 sd]] w' (Gives (.agg #[.int .i64 (addR ps qs sn sd).1, .int .i64 (addR ps qs sn sd).2]) w')) := fun w' => iAdd ps qs sn sd w'
          clear hc2 hc3 hu hzn hzd hps hqs hsn hsd
          go_upto_region 10 with fail
          clear hc1
          refine wp_region_T (S := fun w' => Below wr.heap.size wr w') (T := fun j => j == 9) (by kernel_rfl) (Below.refl _ _).drew (fun hH => ?_)
          refine wpAnyT_take (i := 0) (v := ?_) (by simp only [List.getElem?_toArray, List.getElem?_cons_zero]; rfl) (by kernel_rfl) (by kernel_rfl) (by kernel_rfl) (by kernel_rfl) (one_only 9 (by kernel_rfl)) (by exact fun _ _ _ h => h) (Or.inl ⟨by rfl, ?_⟩) hH ?_
          rotate_left
          · (intro wS hS; (try dsimp only at hS); obtain ⟨k1, k2, k3, k4⟩ := ratG K8.out Z1.out Z2.out hS; go_simp; try rfl)
          try simp only [Act.put, List.setIfInBounds_toArray, List.set_cons_zero, List.set_cons_succ]
          refine wpAnyT_take (i := 1) (v := ?_) (by simp only [List.getElem?_toArray, List.getElem?_cons_succ, List.getElem?_cons_zero]; rfl) (by kernel_rfl) (by kernel_rfl) (by kernel_rfl) (by kernel_rfl) (one_only 9 (by kernel_rfl)) (by exact fun _ _ _ h => h) (Or.inl ⟨by rfl, ?_⟩) hH ?_
          rotate_left
          · (intro wS hS; clear hS; go_simp; try rfl)
          try simp only [Act.put, List.setIfInBounds_toArray, List.set_cons_zero, List.set_cons_succ]
          refine wpAnyT_take (i := 2) (v := ?_) (by simp only [List.getElem?_toArray, List.getElem?_cons_succ, List.getElem?_cons_zero]; rfl) (by kernel_rfl) (by kernel_rfl) (by kernel_rfl) (by kernel_rfl) (one_only 9 (by kernel_rfl)) (by exact fun _ _ _ h => h) (Or.inl ⟨by rfl, ?_⟩) hH ?_
          rotate_left
          · (intro wS hS; clear hS; go_simp; try rfl)
          try simp only [Act.put, List.setIfInBounds_toArray, List.set_cons_zero, List.set_cons_succ]
          refine wpAnyT_take (i := 3) (v := ?_) (by simp only [List.getElem?_toArray, List.getElem?_cons_succ, List.getElem?_cons_zero]; rfl) (by kernel_rfl) (by kernel_rfl) (by kernel_rfl) (by kernel_rfl) (one_only 9 (by kernel_rfl)) (by exact fun _ _ _ h => h) (Or.inl ⟨by rfl, ?_⟩) hH ?_
          rotate_left
          · (intro wS hS; clear hS; go_simp; try rfl)
          try simp only [Act.put, List.setIfInBounds_toArray, List.set_cons_zero, List.set_cons_succ]
          refine wpAnyT_take (i := 4) (v := ?_) (by simp only [List.getElem?_toArray, List.getElem?_cons_succ, List.getElem?_cons_zero]; rfl) (by kernel_rfl) (by kernel_rfl) (by kernel_rfl) (by kernel_rfl) (one_only 9 (by kernel_rfl)) (by exact fun _ _ _ h => h) (Or.inl ⟨by rfl, ?_⟩) hH ?_
          rotate_left
          · (intro wS hS; clear hS; go_simp; try rfl)
          try simp only [Act.put, List.setIfInBounds_toArray, List.set_cons_zero, List.set_cons_succ]
          refine wpAnyT_take (i := 5) (v := ?_) (by simp only [List.getElem?_toArray, List.getElem?_cons_succ, List.getElem?_cons_zero]; rfl) (by kernel_rfl) (by kernel_rfl) (by kernel_rfl) (by kernel_rfl) (one_only 9 (by kernel_rfl)) (by exact fun _ _ _ h => h) (Or.inl ⟨by rfl, ?_⟩) hH ?_
          rotate_left
          · (intro wS hS; clear hS; go_simp; try rfl)
          try simp only [Act.put, List.setIfInBounds_toArray, List.set_cons_zero, List.set_cons_succ]
          refine wpAnyT_take (i := 6) (v := ?_) (by simp only [List.getElem?_toArray, List.getElem?_cons_succ, List.getElem?_cons_zero]; rfl) (by kernel_rfl) (by kernel_rfl) (by kernel_rfl) (by kernel_rfl) (one_only 9 (by kernel_rfl)) (by exact fun _ _ _ h => h) (Or.inl ⟨by rfl, ?_⟩) hH ?_
          rotate_left
          · (intro wS hS; (try dsimp only at hS); obtain ⟨k1, k2, k3, k4⟩ := ratG K8.out Z1.out Z2.out hS; go_simp; try rfl)
          try simp only [Act.put, List.setIfInBounds_toArray, List.set_cons_zero, List.set_cons_succ]
          refine wpAnyT_ready (rs := [7]) (by kernel_rfl) (by simp) ?_
          refine AllReadyT.cons (by simp only [List.getElem?_toArray, List.getElem?_cons_succ, List.getElem?_cons_zero]; rfl) (fun K hK => ?_) AllReadyT.nil
          go_simp
          (with_reducible refine (MU.out _).mono ?_)
          rintro e v1 ⟨rfl, hb1⟩
          try dsimp only
          refine hK.out _ _ (fun _ => hH.trans (hb1.mono hH.size)) ?_
          clear hK K
          have hH := hH.trans (hb1.mono hH.size)
          try simp only [Act.put, List.setIfInBounds_toArray, List.set_cons_zero, List.set_cons_succ]
          refine wpAnyT_ready (rs := [8]) (by kernel_rfl) (by simp) ?_
          refine AllReadyT.cons (by simp only [List.getElem?_toArray, List.getElem?_cons_succ, List.getElem?_cons_zero]; rfl) (fun K hK => ?_) AllReadyT.nil
          go_simp
          (with_reducible refine (AD.out _).mono ?_)
          rintro e v2 ⟨rfl, hb2⟩
          try dsimp only
          refine hK.out _ _ (fun _ => hH.trans (hb2.mono hH.size)) ?_
          clear hK K
          have hH := hH.trans (hb2.mono hH.size)
          try simp only [Act.put, List.setIfInBounds_toArray, List.set_cons_zero, List.set_cons_succ]
          refine wpAnyT_ready (rs := [9]) (by kernel_rfl) (by simp) ?_
          refine AllReadyT.cons (by simp only [List.getElem?_toArray, List.getElem?_cons_succ, List.getElem?_cons_zero]; rfl) (fun K hK => ?_) AllReadyT.nil
          have K8 := Lib.hid (K8.out.keep hH K8.out.lt)
          obtain ⟨c80, c81, f80, f81⟩ := K8.out.all
          go_simp
          try dsimp only
          refine hK.out _ _ (fun h => by cases h) ?_
          clear hK K
          try simp only [Act.put, List.setIfInBounds_toArray, List.set_cons_zero, List.set_cons_succ]
          refine wpAnyT_done (by kernel_rfl) ?_ _
          go_wp2_with fail
          go_roundw
          case rel =>
            refine ⟨j + 1, by go_num, by omega, ((K0.out.step hH).far (by show w.heap.size ≠ g; omega) _).far (by show w.heap.size ≠ g; omega) _, ?_, ?_⟩
            · rw [SS.out]
              exact (K8.out.set0 _).set1 _
            · exact ((BI.out.trans (hH.mono BI.out.size)).setCell (by show w.heap.size ≤ g; omega) _).setCell (by show w.heap.size ≤ g; omega) _
          case measure => simp [intOf]; omega
        · obtain rfl : j = Lz := by omega
          have RF : Hid (sumR (mxC j xs i) (atR zs) j ≠ (bs.getD i 0, 1) → rowB j xs bs zs i = false) := fun h => decide_eq_false h
          have RT : Hid (sumR (mxC j xs i) (atR zs) j = (bs.getD i 0, 1) → rowB j xs bs zs i = true) := fun h => decide_eq_true h
          rw [HX.out] at RF RT
          obtain ⟨ps, hps⟩ : ∃ p, (sumR (mxC j xs i) (atR zs) j).1 = p := ⟨_, rfl⟩
          obtain ⟨qs, hqs⟩ : ∃ p, (sumR (mxC j xs i) (atR zs) j).2 = p := ⟨_, rfl⟩
          rw [hps, hqs] at K8
          have SP : Hid (sumR (mxC j xs i) (atR zs) j = (ps, qs)) := by show _ = _; rw [← hps, ← hqs]
          rw [SP.out] at RF RT
          obtain ⟨c80, c81, f80, f81⟩ := K8.out.all
          clear hps hqs SP hjl
          by_cases e1 : ps = x ∧ qs = 1
          rotate_left
          · have V := Lib.hid (VR.out i hlt (RF.out fun h => e1 ⟨congrArg Prod.fst h, congrArg Prod.snd h⟩))
            have E : ∀ w : World, (Op.equalIn 10000 40 (.agg #[.int .i64 ps, .int .i64 qs]) (.agg #[.int .i64 x, .int .i64 1])).run Tryz.prog w = .ok false w := fun w => by
              rw [eqRat, show (ps == x && qs == 1) = false by
                rw [Bool.and_eq_false_iff]
                by_cases h : ps = x
                · exact .inr (by simpa using fun h2 => e1 ⟨h, h2⟩)
                · exact .inl (by simpa using h)]
            clear e1
            go_wp2_with fail
            go_ret
            exact ⟨by rw [V.out]; rfl, BI.out⟩
          have RR := Lib.hid (RT.out (by rw [e1.1, e1.2]))
          have HK2 : Hid (∀ k, k < i + 1 → rowB j xs bs zs k = true) := fun k hk => by
            rcases Nat.lt_or_ge k i with h3 | h3
            · exact HK.out k h3
            · obtain rfl : k = i := by omega
              exact RR.out
          have E : ∀ w : World, (Op.equalIn 10000 40 (.agg #[.int .i64 ps, .int .i64 qs]) (.agg #[.int .i64 x, .int .i64 1])).run Tryz.prog w = .ok true w := fun w => by
            rw [eqRat, e1.1, e1.2]; simp
          clear e1
          go_wp2_with fail
          go_roundw
          case rel => exact ⟨i + 1, by go_num, by omega, HK2.out, K0.out, BI.out⟩
          case measure => simp [intOf]; omega
    · obtain rfl : i = Lb := by omega
      have V := Lib.hid (VT.out (by first | rfl | trivial) (by first | rfl | trivial) HK.out)
      go_wp2_with fail
      go_ret
      exact ⟨by rw [V.out]; rfl, BO.out⟩
end Go.Proofs.YtcapddcmnjeloaaGreatDoor
end
