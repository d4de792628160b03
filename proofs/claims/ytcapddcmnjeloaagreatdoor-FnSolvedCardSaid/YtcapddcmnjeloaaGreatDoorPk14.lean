/-
  Texts of this seat, joined: ZBPrimL · ZBEchL · ZBRowTo · ZBModE · ZBModF · ZBModB · ZBSpnT · ZBEchLaw · ZBModV · ZBSolE · ZBModL · ZBNumGcdS · ZBNumGD · ZBNumGcd · ZBNumFloor · ZBNumExt · ZBMdS
-/
import Derived.Test.YtcapddcmnjeloaaGreatDoorRows
import Derived.WalkKit
import Derived.BigQuiet
import Derived.Deep.QuietTactic
import Derived.Lib.Hide
import Derived.Deep.LoopGhost
import Derived.Deep.RegionHeld3
import Derived.Deep.RegionWith
import Derived.StillTailTactics
import Derived.Test.YtcapddcmnjeloaaGreatDoorPk12
import Derived.Test.YtcapddcmnjeloaaGreatDoorPk13

section
/-
  Plain mathematics of chapter 7: primitive rows. Nothing of a program is used.
-/
namespace Go.Proofs.YtcapddcmnjeloaaGreatDoor
def gcdN : Nat → (Nat → Int) → Int
  | 0, _ => 0
  | n + 1, f => ((gcdN n f).gcd (f n) : Int)
def sgnN : Nat → (Nat → Int) → Int
  | 0, _ => 0
  | n + 1, f => if sgnN n f = 0 ∧ f n ≠ 0 then (if f n < 0 then -1 else 1) else sgnN n f
theorem gcdN_nonneg (n : Nat) (f : Nat → Int) : 0 ≤ gcdN n f := by
  cases n with
  | zero => exact Int.le_refl _
  | succ n => exact Int.natCast_nonneg _
theorem gcdN_dvd {n : Nat} {f : Nat → Int} : ∀ j, j < n → gcdN n f ∣ f j := by
  induction n with
  | zero => intro j hj; omega
  | succ n ih =>
    intro j hj
    rcases Nat.lt_or_ge j n with h | h
    · exact Int.dvd_trans (Int.gcd_dvd_left ..) (ih j h)
    · obtain rfl : j = n := by omega
      exact Int.gcd_dvd_right ..
theorem gcdN_max {n : Nat} {f : Nat → Int} {g : Int} : (∀ j, j < n → g ∣ f j) → g ∣ gcdN n f := by
  induction n with
  | zero => intro _; exact Int.dvd_zero g
  | succ n ih => intro h; exact Int.dvd_coe_gcd (ih fun j hj => h j (by omega)) (h n (by omega))
theorem gcdN_none {n : Nat} {f : Nat → Int} (h : gcdN n f = 0) : ∀ j, j < n → f j = 0 := fun j hj => by
  have := gcdN_dvd (f := f) j hj
  rw [h] at this
  exact Int.zero_dvd.mp this
theorem gcdN_all {n : Nat} {f : Nat → Int} (h : ∀ j, j < n → f j = 0) : gcdN n f = 0 := by
  induction n with
  | zero => rfl
  | succ n ih =>
    show ((gcdN n f).gcd (f n) : Int) = 0
    rw [ih fun j hj => h j (by omega), h n (by omega)]
    rfl
theorem gcdN_congr {n : Nat} {f g : Nat → Int} (h : ∀ j, j < n → f j = g j) : gcdN n f = gcdN n g := by
  induction n with
  | zero => rfl
  | succ n ih =>
    show ((gcdN n f).gcd (f n) : Int) = ((gcdN n g).gcd (g n) : Int)
    rw [ih fun j hj => h j (by omega), h n (by omega)]
theorem gcdN_num {n : Nat} {f : Nat → Int} (h : ∀ j, j < n → NumP (f j)) : NumP (gcdN n f) := by
  have h0 := gcdN_nonneg n f
  by_cases hz : gcdN n f = 0
  · rw [hz]; exact ⟨by decide, by decide⟩
  · have : ∃ j, j < n ∧ f j ≠ 0 := Classical.byContradiction fun hn => hz (gcdN_all fun j hj => Classical.byContradiction fun h1 => hn ⟨j, hj, h1⟩)
    obtain ⟨j, hj, hfj⟩ := this
    have hd := gcdN_dvd (f := f) j hj
    have hb := h j hj
    unfold NumP at hb ⊢
    have hle : gcdN n f ≤ (f j).natAbs := by
      refine Int.le_of_dvd (by omega) ?_
      exact Int.dvd_natAbs.mpr hd
    omega
theorem sgnN_congr {n : Nat} {f g : Nat → Int} (h : ∀ j, j < n → f j = g j) : sgnN n f = sgnN n g := by
  induction n with
  | zero => rfl
  | succ n ih =>
    show (if sgnN n f = 0 ∧ f n ≠ 0 then (if f n < 0 then (-1 : Int) else 1) else sgnN n f) = (if sgnN n g = 0 ∧ g n ≠ 0 then (if g n < 0 then (-1 : Int) else 1) else sgnN n g)
    rw [ih fun j hj => h j (by omega), h n (by omega)]
theorem sgnN_or (n : Nat) (f : Nat → Int) : sgnN n f = 0 ∨ sgnN n f = 1 ∨ sgnN n f = -1 := by
  induction n with
  | zero => exact .inl rfl
  | succ n ih =>
    have e : sgnN (n + 1) f = if sgnN n f = 0 ∧ f n ≠ 0 then (if f n < 0 then (-1 : Int) else 1) else sgnN n f := rfl
    rw [e]
    by_cases h : sgnN n f = 0 ∧ f n ≠ 0
    · rw [if_pos h]
      by_cases h2 : f n < 0
      · rw [if_pos h2]; exact .inr (.inr rfl)
      · rw [if_neg h2]; exact .inr (.inl rfl)
    · rw [if_neg h]; exact ih
theorem sgnN_none {n : Nat} {f : Nat → Int} : sgnN n f = 0 → ∀ j, j < n → f j = 0 := by
  induction n with
  | zero => intro _ j hj; omega
  | succ n ih =>
    intro h j hj
    have h' : (if sgnN n f = 0 ∧ f n ≠ 0 then (if f n < 0 then (-1 : Int) else 1) else sgnN n f) = 0 := h
    by_cases hc : sgnN n f = 0 ∧ f n ≠ 0
    · rw [if_pos hc] at h'
      split at h' <;> cases h'
    · rw [if_neg hc] at h'
      rcases Nat.lt_or_ge j n with h1 | h1
      · exact ih h' j h1
      · obtain rfl : j = n := by omega
        exact Classical.byContradiction fun h2 => hc ⟨h', h2⟩
theorem sgnN_all {n : Nat} {f : Nat → Int} (h : ∀ j, j < n → f j = 0) : sgnN n f = 0 := by
  induction n with
  | zero => rfl
  | succ n ih =>
    show (if sgnN n f = 0 ∧ f n ≠ 0 then (if f n < 0 then (-1 : Int) else 1) else sgnN n f) = 0
    rw [if_neg (fun hc => hc.2 (h n (by omega)))]
    exact ih fun j hj => h j (by omega)
theorem sgnN_first {n : Nat} {f : Nat → Int} {j : Nat} (hj : j < n) (h0 : ∀ i, i < j → f i = 0) (hn : f j ≠ 0) : sgnN n f = if f j < 0 then -1 else 1 := by
  induction n with
  | zero => omega
  | succ n ih =>
    show (if sgnN n f = 0 ∧ f n ≠ 0 then (if f n < 0 then (-1 : Int) else 1) else sgnN n f) = _
    rcases Nat.lt_or_ge j n with h | h
    · have e := ih h
      rw [if_neg (fun hc => by rw [e] at hc; have := hc.1; split at this <;> cases this)]
      exact e
    · obtain rfl : j = n := by omega
      rw [if_pos ⟨sgnN_all h0, hn⟩]
def prV (c : Nat) (v : Nat → Int) : Nat → Int := fun j => if gcdN c v = 0 then v j else (sgnN c v * v j).tdiv (gcdN c v)
theorem prV_congr {c : Nat} {u v : Nat → Int} (h : ∀ j, j < c → u j = v j) : ∀ j, j < c → prV c u j = prV c v j := fun j hj => by
  unfold prV
  rw [gcdN_congr h, sgnN_congr h, h j hj]
def Norm (c : Nat) (v : Nat → Int) : Prop := (gcdN c v = 0 ∨ gcdN c v = 1) ∧ (sgnN c v = 0 ∨ sgnN c v = 1)
theorem Norm.congr {c : Nat} {u v : Nat → Int} (h : Norm c u) (e : ∀ j, j < c → v j = u j) : Norm c v := by
  unfold Norm at *
  rw [gcdN_congr e, sgnN_congr e]
  exact h
theorem prV_mul {c : Nat} {v : Nat → Int} {j : Nat} (hj : j < c) (hg : gcdN c v ≠ 0) : gcdN c v * prV c v j = sgnN c v * v j := by
  unfold prV
  rw [if_neg hg]
  exact Int.mul_tdiv_cancel' (Int.dvd_trans (gcdN_dvd j hj) (Int.dvd_mul_left _ _))
theorem prV_id {c : Nat} {v : Nat → Int} (h : Norm c v) {j : Nat} (hj : j < c) : prV c v j = v j := by
  by_cases hg : gcdN c v = 0
  · unfold prV; rw [if_pos hg]
  · have h1 : gcdN c v = 1 := h.1.resolve_left hg
    have hs : sgnN c v = 1 := h.2.resolve_left (fun e => hg (gcdN_all (sgnN_none e)))
    have := prV_mul hj hg
    rw [h1, hs, Int.one_mul, Int.one_mul] at this
    exact this
theorem sgnN_ne {c : Nat} {v : Nat → Int} (hg : gcdN c v ≠ 0) : sgnN c v ≠ 0 := fun e => hg (gcdN_all (sgnN_none e))
theorem prV_zero {c : Nat} {v : Nat → Int} {j : Nat} (hj : j < c) : prV c v j = 0 ↔ v j = 0 := by
  by_cases hg : gcdN c v = 0
  · unfold prV; rw [if_pos hg]
  · have e := prV_mul hj hg
    have hs := sgnN_ne hg
    constructor
    · intro h
      rw [h, Int.mul_zero] at e
      rcases Int.mul_eq_zero.mp e.symm with h1 | h1
      · exact absurd h1 hs
      · exact h1
    · intro h
      rw [h, Int.mul_zero] at e
      rcases Int.mul_eq_zero.mp e with h1 | h1
      · exact absurd h1 hg
      · exact h1
theorem exists_first {c : Nat} {v : Nat → Int} (h : ∃ j, j < c ∧ v j ≠ 0) : ∃ j, j < c ∧ v j ≠ 0 ∧ ∀ i, i < j → v i = 0 := by
  obtain ⟨j, hj, hv⟩ := h
  induction j using Nat.strongRecOn with
  | ind j ih =>
    by_cases h : ∃ i, i < j ∧ v i ≠ 0
    · obtain ⟨i, hi, hvi⟩ := h
      exact ih i hi (by omega) hvi
    · exact ⟨j, hj, hv, fun i hi => Classical.byContradiction fun h1 => h ⟨i, hi, h1⟩⟩
theorem prV_norm (c : Nat) (v : Nat → Int) : Norm c (prV c v) := by
  by_cases hg : gcdN c v = 0
  · have h0 := gcdN_none hg
    have h1 : ∀ j, j < c → prV c v j = 0 := fun j hj => (prV_zero hj).mpr (h0 j hj)
    exact ⟨.inl (gcdN_all h1), .inl (sgnN_all h1)⟩
  · have g0 := gcdN_nonneg c v
    have hs := sgnN_ne hg
    have hne : ∃ j, j < c ∧ v j ≠ 0 := Classical.byContradiction fun hn => hg (gcdN_all fun j hj => Classical.byContradiction fun h1 => hn ⟨j, hj, h1⟩)
    refine ⟨.inr ?_, .inr ?_⟩
    · -- the product of both divisors divides all
      obtain ⟨e, he⟩ : ∃ e, gcdN c (prV c v) = e := ⟨_, rfl⟩
      have e0 := gcdN_nonneg c (prV c v)
      have hd : gcdN c v * e ∣ gcdN c v := gcdN_max fun j hj => by
        obtain ⟨q, hq⟩ := gcdN_dvd (f := prV c v) j hj
        have := prV_mul hj hg
        rw [hq, he] at this
        rcases sgnN_or c v with h1 | h1 | h1
        · exact absurd h1 hs
        · rw [h1, Int.one_mul] at this
          exact ⟨q, by rw [← this]; grind⟩
        · rw [h1] at this
          exact ⟨-q, by grind⟩
      obtain ⟨k, hk⟩ := hd
      have h1 : gcdN c v * (e * k) = gcdN c v * 1 := by rw [Int.mul_one, ← Int.mul_assoc]; exact hk.symm
      have h2 : e * k = 1 := Int.eq_of_mul_eq_mul_left hg h1
      rw [he] at e0 ⊢
      exact Int.eq_one_of_mul_eq_one_right e0 h2
    · obtain ⟨j, hj, hvj, h0⟩ := exists_first hne
      have hp : prV c v j ≠ 0 := fun e => hvj ((prV_zero hj).mp e)
      rw [sgnN_first hj (fun i hi => (prV_zero (by omega)).mpr (h0 i hi)) hp]
      have e := prV_mul hj hg
      have es := sgnN_first hj h0 hvj
      rw [es] at e
      rw [if_neg]
      intro hneg
      have hl : gcdN c v * prV c v j < 0 := Int.mul_neg_of_pos_of_neg (by omega) hneg
      split at e <;> omega
theorem prV_num {c : Nat} {v : Nat → Int} (h : ∀ j, j < c → NumP (v j)) {j : Nat} (hj : j < c) : NumP (prV c v j) := by
  unfold prV
  split
  · exact h j hj
  · have hb := h j hj
    have g0 := gcdN_nonneg c v
    obtain ⟨x, hx⟩ : ∃ x, sgnN c v * v j = x := ⟨_, rfl⟩
    have hxb : NumP x := by
      rw [← hx]
      unfold NumP at hb ⊢
      rcases sgnN_or c v with h1 | h1 | h1 <;> rw [h1] <;> omega
    rw [hx]
    unfold NumP at hxb ⊢
    have : (x.tdiv (gcdN c v)).natAbs ≤ x.natAbs := by
      rw [Int.natAbs_tdiv]
      exact Nat.div_le_self _ _
    omega
theorem of_prV {r c i : Nat} {A : Mx} (hi : i < r) {v : Nat → Int} (h : ∀ j, j < c → A i j = prV c v j) : InSp r c A v := by
  by_cases hg : gcdN c v = 0
  · exact (InSp.row hi).congr fun j hj => by rw [h j hj]; unfold prV; rw [if_pos hg]
  · refine InSp.of_mul (sgnN_ne hg) (((InSp.row (c := c) hi).add (InSp.zero r c A) (gcdN c v) 0).congr fun j hj => ?_)
    rw [h j hj, ← prV_mul hj hg]; simp
theorem Norm.prim {c : Nat} {v : Nat → Int} (h : Norm c v) {j : Nat} (hj : j < c) (hv : v j ≠ 0) : Prim c v := fun g hg hd => by
  have h1 : gcdN c v = 1 := h.1.resolve_left (fun e => hv (gcdN_none e j hj))
  have := gcdN_max hd
  rw [h1] at this
  have := Int.le_of_dvd (by decide) this
  omega
theorem Norm.pos {c : Nat} {v : Nat → Int} (h : Norm c v) {j : Nat} (hj : j < c) (h0 : ∀ i, i < j → v i = 0) (hv : v j ≠ 0) : 0 < v j := by
  have e := sgnN_first hj h0 hv
  have hs : sgnN c v = 1 := h.2.resolve_left (fun e => hv (sgnN_none e j hj))
  rw [hs] at e
  split at e
  · cases e
  · omega
end Go.Proofs.YtcapddcmnjeloaaGreatDoor
end

section
/-
  Plain mathematics of chapter 7: elimination over lists of cells with primitive rows ends in the echelon form. Nothing of a program is used.
-/
namespace Go.Proofs.YtcapddcmnjeloaaGreatDoor
def mxC (c : Nat) (xs : List Int) : Mx := fun i j => xs.getD (i * c + j) 0
theorem mxC_tab {r c : Nat} {f : Nat → Nat → Int} {i j : Nat} (hi : i < r) (hj : j < c) : mxC c (tab r c f) i j = f i j := tab_at r c f hi hj
def prL (r c i : Nat) (xs : List Int) : List Int := tab r c fun p q => if p = i then prV c (mxC c xs i) q else mxC c xs p q
def prTo (r c i : Nat) (xs : List Int) : List Int := tab r c fun p q => if p < i then prV c (mxC c xs p) q else mxC c xs p q
def rdV (j : Nat) (u v : Nat → Int) : Nat → Int := fun k => (v j).tdiv ((u j).gcd (v j)) * u k - (u j).tdiv ((u j).gcd (v j)) * v k
def rowN (c : Nat) (v : Nat → Int) : Bool := nums ((List.range c).map v)
def rdL (r c t j i : Nat) (xs : List Int) : List Int := tab r c fun p q => if p = i then prV c (rdV j (mxC c xs i) (mxC c xs t)) q else mxC c xs p q
def elimR (r c t j : Nat) : Nat → Nat → List Int → Option (List Int)
  | 0, _, xs => some xs
  | k + 1, i, xs => if i = t ∨ mxC c xs i j = 0 then elimR r c t j k (i + 1) xs
    else if rowN c (rdV j (mxC c xs i) (mxC c xs t)) = true then elimR r c t j k (i + 1) (rdL r c t j i xs) else none
def fstR (c j : Nat) (xs : List Int) : Nat → Nat → Nat
  | 0, p => p
  | k + 1, p => if mxC c xs p j = 0 then fstR c j xs k (p + 1) else p
def swC (p t c : Nat) (xs : List Int) : List Int := if p = t then xs else opL 0 p t 0 c xs
def echC (r c : Nat) : Nat → Nat → List Int → List Nat → Option (List Int × List Nat)
  | 0, _, xs, pv => some (xs, pv)
  | k + 1, j, xs, pv =>
    if pv.length < r then
      if fstR c j xs (r - pv.length) pv.length = r then echC r c k (j + 1) xs pv
      else match elimR r c pv.length j r 0 (swC (fstR c j xs (r - pv.length) pv.length) pv.length c xs) with
        | none => none
        | some ys => echC r c k (j + 1) ys (pv ++ [j])
    else some (xs, pv)
def echM (r c : Nat) (xs : List Int) : Option (List Int × List Nat) := echC r c c 0 (prTo r c r xs) []
theorem fstR_says {c j : Nat} {xs : List Int} : ∀ {k p : Nat}, p ≤ fstR c j xs k p ∧ fstR c j xs k p ≤ p + k ∧ (∀ q, p ≤ q → q < fstR c j xs k p → mxC c xs q j = 0) ∧ (fstR c j xs k p < p + k → mxC c xs (fstR c j xs k p) j ≠ 0) := by
  intro k
  induction k with
  | zero => intro p; exact ⟨Nat.le_refl _, Nat.le_refl _, fun q h1 h2 => absurd h2 (by show ¬ q < p; omega), fun h => absurd h (by show ¬ p < p + 0; omega)⟩
  | succ k ih =>
    intro p
    by_cases h : mxC c xs p j = 0
    · have e : fstR c j xs (k + 1) p = fstR c j xs k (p + 1) := if_pos h
      rw [e]
      obtain ⟨h1, h2, h3, h4⟩ := ih (p := p + 1)
      refine ⟨by omega, by omega, fun q h5 h6 => ?_, fun h5 => h4 (by omega)⟩
      rcases Nat.lt_or_ge p q with h7 | h7
      · exact h3 q h7 h6
      · obtain rfl : q = p := by omega
        exact h
    · have e : fstR c j xs (k + 1) p = p := if_neg h
      rw [e]
      exact ⟨Nat.le_refl _, by omega, fun q h1 h2 => by omega, fun _ => h⟩
theorem fstR_eq {c j : Nat} {xs : List Int} : ∀ {k p q : Nat}, p ≤ q → q ≤ p + k → (∀ i, p ≤ i → i < q → mxC c xs i j = 0) → (q < p + k → mxC c xs q j ≠ 0) → fstR c j xs k p = q := by
  intro k
  induction k with
  | zero => intro p q h1 h2 _ _; show p = q; omega
  | succ k ih =>
    intro p q h1 h2 hz hn
    show (if mxC c xs p j = 0 then fstR c j xs k (p + 1) else p) = q
    rcases Nat.lt_or_ge p q with h | h
    · rw [if_pos (hz p (Nat.le_refl _) h)]
      exact ih (by omega) (by omega) (fun i h3 h4 => hz i (by omega) h4) (fun h3 => hn (by omega))
    · obtain rfl : p = q := by omega
      rw [if_neg (hn (by omega))]
theorem opL_swapC {r c p t i j : Nat} {xs : List Int} (hx : xs.length = r * c) (hi : i < r) (hj : j < c) : mxC c (opL 0 p t 0 c xs) i j = mxC c xs (if i = p then t else if i = t then p else i) j := by
  have hp : i * c + j < xs.length := by rw [hx]; exact idx_lt hi hj
  unfold mxC opL
  simp only [List.getD, List.getElem?_map, List.getElem?_range hp, Option.map_some, Option.getD_some]
  unfold opAt
  rw [if_pos rfl, idx_div hj, idx_mod hj]
  by_cases h1 : i = p
  · rw [if_pos h1, if_pos h1]; rfl
  · rw [if_neg h1, if_neg h1]
    by_cases h2 : i = t
    · rw [if_pos h2, if_pos h2]; rfl
    · rw [if_neg h2, if_neg h2]; rfl
theorem swC_at {r c p t i j : Nat} {xs : List Int} (hx : xs.length = r * c) (hi : i < r) (hj : j < c) : mxC c (swC p t c xs) i j = mxC c xs (if i = p then t else if i = t then p else i) j := by
  unfold swC
  by_cases h : p = t
  · rw [if_pos h, h]
    by_cases h1 : i = t
    · rw [if_pos h1, h1]
    · rw [if_neg h1, if_neg h1]
  · rw [if_neg h, opL_swapC hx hi hj]
theorem swC_length (p t c : Nat) (xs : List Int) : (swC p t c xs).length = xs.length := by unfold swC; split; rfl; exact opL_length _ _ _ _ _ _
theorem gcd_pos' {x y : Int} (hy : y ≠ 0) : 0 < (x.gcd y : Int) := by
  have := Int.gcd_pos_of_ne_zero_right x hy
  omega
theorem rdV_col {u v : Nat → Int} {j : Nat} : rdV j u v j = 0 := by
  unfold rdV
  obtain ⟨a, ha⟩ : ((u j).gcd (v j) : Int) ∣ u j := Int.gcd_dvd_left ..
  obtain ⟨b, hb⟩ : ((u j).gcd (v j) : Int) ∣ v j := Int.gcd_dvd_right ..
  by_cases hg : ((u j).gcd (v j) : Int) = 0
  · rw [hg]; simp
  · obtain ⟨g, hgg⟩ : ∃ g, ((u j).gcd (v j) : Int) = g := ⟨_, rfl⟩
    rw [hgg] at ha hb hg ⊢
    have e1 : (u j).tdiv g = a := by rw [ha, Int.mul_tdiv_cancel_left _ hg]
    have e2 : (v j).tdiv g = b := by rw [hb, Int.mul_tdiv_cancel_left _ hg]
    rw [e1, e2, ha, hb]
    grind
theorem rdV_fac {u v : Nat → Int} {j : Nat} (hv : 0 < v j) : 0 < (v j).tdiv ((u j).gcd (v j)) := by
  obtain ⟨b, hb⟩ : ((u j).gcd (v j) : Int) ∣ v j := Int.gcd_dvd_right ..
  have hg := gcd_pos' (x := u j) (show v j ≠ 0 by omega)
  obtain ⟨g, hgg⟩ : ∃ g, ((u j).gcd (v j) : Int) = g := ⟨_, rfl⟩
  rw [hgg] at hb hg ⊢
  rw [hb, Int.mul_tdiv_cancel_left _ (by omega)]
  rw [hb] at hv
  exact Int.pos_of_mul_pos_right hv hg
theorem rdV_left {u v : Nat → Int} {j q : Nat} (hv : v q = 0) : rdV j u v q = (v j).tdiv ((u j).gcd (v j)) * u q := by
  unfold rdV
  rw [hv, Int.mul_zero]; omega
theorem InSp.prV {r c : Nat} {A : Mx} {v : Nat → Int} (h : InSp r c A v) : InSp r c A (prV c v) := by
  by_cases hg : gcdN c v = 0
  · exact h.congr fun j hj => by unfold Go.Proofs.YtcapddcmnjeloaaGreatDoor.prV; rw [if_pos hg]
  · refine InSp.of_mul hg ((h.add (InSp.zero r c A) (sgnN c v) 0).congr fun j hj => ?_)
    rw [prV_mul hj hg]; simp
structure EInv (r c : Nat) (M : Mx) (xs : List Int) (pv : List Nat) (j : Nat) : Prop where
  len : xs.length = r * c
  num : nums xs = true
  le : pv.length ≤ r
  jc : j ≤ c
  toM : SubSp r r c (mxC c xs) M
  ofM : SubSp r r c M (mxC c xs)
  norm : ∀ i, i < r → Norm c (mxC c xs i)
  col : ∀ k, k < pv.length → pv.getD k 0 < j
  inc : ∀ k l, k < l → l < pv.length → pv.getD k 0 < pv.getD l 0
  ne : ∀ k, k < pv.length → mxC c xs k (pv.getD k 0) ≠ 0
  only : ∀ k i, k < pv.length → i < r → i ≠ k → mxC c xs i (pv.getD k 0) = 0
  left : ∀ k q, k < pv.length → q < pv.getD k 0 → mxC c xs k q = 0
  rest : ∀ i q, pv.length ≤ i → i < r → q < j → mxC c xs i q = 0
theorem mx_nums {r c : Nat} {xs : List Int} (hx : xs.length = r * c) (h : nums xs = true) {i j : Nat} (hi : i < r) (hj : j < c) : NumP (mxC c xs i j) := nums_at h (by rw [hx]; exact idx_lt hi hj)
theorem tab_nums {r c : Nat} {f : Nat → Nat → Int} (h : ∀ i j, i < r → j < c → NumP (f i j)) : nums (tab r c f) = true := nums_true fun p hp => by
  rw [tab_length] at hp
  have hc : 0 < c := by
    rcases Nat.eq_zero_or_pos c with e | e
    · subst e; omega
    · exact e
  have e : p = p / c * c + p % c := by rw [Nat.mul_comm]; exact (Nat.div_add_mod p c).symm
  rw [e, tab_at r c _ (Nat.div_lt_of_lt_mul (by rw [Nat.mul_comm]; exact hp)) (Nat.mod_lt p hc)]
  exact h _ _ (Nat.div_lt_of_lt_mul (by rw [Nat.mul_comm]; exact hp)) (Nat.mod_lt p hc)
theorem EInv.start {r c : Nat} {xs : List Int} (hx : xs.length = r * c) (hn : nums xs = true) : EInv r c (mxC c xs) (prTo r c r xs) [] 0 where
  len := tab_length _ _ _
  num := tab_nums fun i j hi hj => by
    rw [if_pos hi]
    exact prV_num (fun q hq => mx_nums hx hn hi hq) hj
  le := Nat.zero_le _
  jc := Nat.zero_le _
  toM := fun i hi => (InSp.prV (InSp.row (A := mxC c xs) hi)).congr fun j hj => by
    show mxC c (tab r c _) i j = _
    rw [mxC_tab hi hj, if_pos hi]
  ofM := fun i hi => of_prV hi fun j hj => by
    show mxC c (tab r c _) i j = _
    rw [mxC_tab hi hj, if_pos hi]
  norm := fun i hi => (prV_norm c (mxC c xs i)).congr fun j hj => by
    show mxC c (tab r c _) i j = _
    rw [mxC_tab hi hj, if_pos hi]
  col := fun k hk => absurd hk (Nat.not_lt_zero _)
  inc := fun k l _ hl => absurd hl (Nat.not_lt_zero _)
  ne := fun k hk => absurd hk (Nat.not_lt_zero _)
  only := fun k i hk => absurd hk (Nat.not_lt_zero _)
  left := fun k q hk => absurd hk (Nat.not_lt_zero _)
  rest := fun i q _ _ hq => absurd hq (Nat.not_lt_zero _)
theorem EInv.skip {r c : Nat} {M : Mx} {xs : List Int} {pv : List Nat} {j : Nat} (h : EInv r c M xs pv j) (hj : j < c) (hz : ∀ i, pv.length ≤ i → i < r → mxC c xs i j = 0) : EInv r c M xs pv (j + 1) :=
  { h with
    jc := hj
    col := fun k hk => by have := h.col k hk; omega
    rest := fun i q hi hir hq => by
      rcases Nat.lt_or_ge q j with h1 | h1
      · exact h.rest i q hi hir h1
      · obtain rfl : q = j := by omega
        exact hz i hi hir }
theorem EInv.swap {r c : Nat} {M : Mx} {xs : List Int} {pv : List Nat} {j p : Nat} (h : EInv r c M xs pv j) (hp : pv.length ≤ p) (hpr : p < r) : EInv r c M (swC p pv.length c xs) pv j := by
  have at_ : ∀ i q, i < r → q < c → mxC c (swC p pv.length c xs) i q = mxC c xs (if i = p then pv.length else if i = pv.length then p else i) q := fun i q hi hq => swC_at h.len hi hq
  have low : ∀ i q, i < pv.length → q < c → mxC c (swC p pv.length c xs) i q = mxC c xs i q := fun i q hi hq => by rw [at_ i q (by omega) hq, if_neg (by omega), if_neg (by omega)]
  have big : ∀ i, pv.length ≤ i → i < r → pv.length ≤ (if i = p then pv.length else if i = pv.length then p else i) ∧ (if i = p then pv.length else if i = pv.length then p else i) < r := fun i h1 h2 => by
    split
    · omega
    · split <;> omega
  have any : ∀ i, i < r → (if i = p then pv.length else if i = pv.length then p else i) < r := fun i hi => by
    split
    · omega
    · split <;> omega
  refine ⟨by rw [swC_length]; exact h.len, ?_, h.le, h.jc, ?_, ?_, ?_, h.col, h.inc, ?_, ?_, ?_, ?_⟩
  · refine nums_true fun k hk => ?_
    rw [swC_length, h.len] at hk
    have hc : 0 < c := by
      rcases Nat.eq_zero_or_pos c with e | e
      · subst e; omega
      · exact e
    have e : k = k / c * c + k % c := by rw [Nat.mul_comm]; exact (Nat.div_add_mod k c).symm
    have h1 : k / c < r := Nat.div_lt_of_lt_mul (by rw [Nat.mul_comm]; exact hk)
    have := at_ (k / c) (k % c) h1 (Nat.mod_lt k hc)
    unfold mxC at this
    rw [e, this]
    exact mx_nums h.len h.num (any _ h1) (Nat.mod_lt k hc)
  · intro i hi
    exact (h.toM _ (any i hi)).congr fun q hq => at_ i q hi hq
  · intro i hi
    refine SubSp.mem (A := mxC c xs) (fun i hi => ?_) (h.ofM i hi)
    refine (InSp.row (A := mxC c (swC p pv.length c xs)) (any i hi)).congr fun q hq => ?_
    rw [at_ _ q (any i hi) hq]
    by_cases e1 : i = p
    · rw [if_pos e1]
      by_cases e2 : pv.length = p
      · rw [if_pos e2, e1, e2]
      · rw [if_neg e2, if_pos rfl, e1]
    · rw [if_neg e1]
      by_cases e2 : i = pv.length
      · rw [if_pos e2, if_pos rfl, e2]
      · rw [if_neg e2, if_neg e1, if_neg e2]
  · intro i hi
    exact (h.norm _ (any i hi)).congr fun q hq => at_ i q hi hq
  · intro k hk
    have := h.col k hk
    have := h.jc
    rw [low k _ hk (by omega)]
    exact h.ne k hk
  · intro k i hk hi hne
    have h1 := h.col k hk
    have h2 := h.jc
    rw [at_ i _ hi (by omega)]
    refine h.only k _ hk (any i hi) ?_
    split
    · omega
    · split <;> omega
  · intro k q hk hq
    have h1 := h.col k hk
    have h2 := h.jc
    rw [low k q hk (by omega)]
    exact h.left k q hk hq
  · intro i q hi hir hq
    have h2 := h.jc
    rw [at_ i q hir (by omega)]
    exact h.rest _ q (big i hi hir).1 (big i hi hir).2 hq
theorem EInv.reduce {r c : Nat} {M : Mx} {xs : List Int} {pv : List Nat} {j i : Nat} (h : EInv r c M xs pv j) (ht : pv.length < r) (hj : j < c) (hi : i < r) (hit : i ≠ pv.length) (hy : mxC c xs pv.length j ≠ 0) (hn : rowN c (rdV j (mxC c xs i) (mxC c xs pv.length)) = true) :
    EInv r c M (rdL r c pv.length j i xs) pv j ∧ (∀ p q, p < r → q < c → p ≠ i → mxC c (rdL r c pv.length j i xs) p q = mxC c xs p q) ∧ mxC c (rdL r c pv.length j i xs) i j = 0 := by
  obtain ⟨v, hv⟩ : ∃ v, rdV j (mxC c xs i) (mxC c xs pv.length) = v := ⟨_, rfl⟩
  have hyp : 0 < mxC c xs pv.length j := (h.norm _ ht).pos hj (fun q hq => h.rest _ q (Nat.le_refl _) ht hq) hy
  have fac := rdV_fac (u := mxC c xs i) (v := mxC c xs pv.length) (j := j) hyp
  have oth : ∀ p q, p < r → q < c → p ≠ i → mxC c (rdL r c pv.length j i xs) p q = mxC c xs p q := fun p q hp hq hne => by unfold rdL; rw [mxC_tab hp hq, if_neg hne]
  have own : ∀ q, q < c → mxC c (rdL r c pv.length j i xs) i q = prV c v q := fun q hq => by unfold rdL; rw [mxC_tab hi hq, if_pos rfl, hv]
  have lft : ∀ q, q < j → v q = (mxC c xs pv.length j).tdiv ((mxC c xs i j).gcd (mxC c xs pv.length j)) * mxC c xs i q := fun q hq => by rw [← hv]; exact rdV_left (h.rest _ q (Nat.le_refl _) ht hq)
  have zer : ∀ q, q < j → (mxC c (rdL r c pv.length j i xs) i q = 0 ↔ mxC c xs i q = 0) := fun q hq => by
    rw [own q (by omega), prV_zero (by omega), lft q hq]
    constructor
    · intro e; exact (Int.mul_eq_zero.mp e).resolve_left (by omega)
    · intro e; rw [e, Int.mul_zero]
  have vn : ∀ q, q < c → NumP (v q) := fun q hq => by
    have := nums_at hn (j := q) (by simpa using hq)
    rw [hv] at this
    simpa [List.getD, hq] using this
  have hvin : InSp r c (mxC c xs) v := ((InSp.row (c := c) hi).add (InSp.row ht) ((mxC c xs pv.length j).tdiv ((mxC c xs i j).gcd (mxC c xs pv.length j))) (-((mxC c xs i j).tdiv ((mxC c xs i j).gcd (mxC c xs pv.length j))))).congr fun q hq => by
    rw [← hv]; unfold rdV; grind
  refine ⟨⟨tab_length _ _ _, ?_, h.le, h.jc, ?_, ?_, ?_, h.col, h.inc, ?_, ?_, ?_, ?_⟩, oth, ?_⟩
  · refine tab_nums fun p q hp hq => ?_
    by_cases e : p = i
    · rw [if_pos e, hv]; exact prV_num vn hq
    · rw [if_neg e]; exact mx_nums h.len h.num hp hq
  · intro p hp
    by_cases e : p = i
    · subst e
      exact (h.toM.mem hvin.prV).congr own
    · exact (h.toM p hp).congr fun q hq => oth p q hp hq e
  · refine SubSp.trans h.ofM fun p hp => ?_
    by_cases e : p = i
    · subst e
      have hv' : InSp r c (mxC c (rdL r c pv.length j p xs)) v := of_prV hp own
      have ht' : InSp r c (mxC c (rdL r c pv.length j p xs)) (mxC c xs pv.length) := (InSp.row (c := c) ht).congr fun q hq => (oth _ q ht hq (fun e => hit e.symm)).symm
      refine InSp.of_mul (d := (mxC c xs pv.length j).tdiv ((mxC c xs p j).gcd (mxC c xs pv.length j))) (by omega) ((hv'.add ht' 1 ((mxC c xs p j).tdiv ((mxC c xs p j).gcd (mxC c xs pv.length j)))).congr fun q hq => ?_)
      rw [← hv]; unfold rdV; grind
    · exact (InSp.row (A := mxC c (rdL r c pv.length j i xs)) hp).congr fun q hq => (oth p q hp hq e).symm
  · intro p hp
    by_cases e : p = i
    · subst e
      exact (prV_norm c v).congr own
    · exact (h.norm p hp).congr fun q hq => oth p q hp hq e
  · intro k hk
    have h1 := h.col k hk
    by_cases e : k = i
    · subst e
      exact fun e => h.ne k hk ((zer _ h1).mp e)
    · rw [oth k _ (by omega) (by omega) e]; exact h.ne k hk
  · intro k p hk hp hne
    have h1 := h.col k hk
    by_cases e : p = i
    · subst e
      exact (zer _ h1).mpr (h.only k p hk hp hne)
    · rw [oth p _ hp (by omega) e]; exact h.only k p hk hp hne
  · intro k q hk hq
    have h1 := h.col k hk
    by_cases e : k = i
    · subst e
      exact (zer q (by omega)).mpr (h.left k q hk hq)
    · rw [oth k q (by omega) (by omega) e]; exact h.left k q hk hq
  · intro p q hp hpr hq
    by_cases e : p = i
    · subst e
      exact (zer q hq).mpr (h.rest p q hp hpr hq)
    · rw [oth p q hpr (by omega) e]; exact h.rest p q hp hpr hq
  · rw [own j hj, prV_zero hj, ← hv]
    exact rdV_col
theorem EInv.elim {r c : Nat} {M : Mx} {pv : List Nat} {j : Nat} (ht : pv.length < r) (hj : j < c) : ∀ (k i : Nat) (xs ys : List Int), i + k = r → EInv r c M xs pv j → mxC c xs pv.length j ≠ 0 → (∀ p, p < i → p ≠ pv.length → mxC c xs p j = 0) → elimR r c pv.length j k i xs = some ys →
    EInv r c M ys pv j ∧ mxC c ys pv.length j ≠ 0 ∧ ∀ p, p < r → p ≠ pv.length → mxC c ys p j = 0 := by
  intro k
  induction k with
  | zero =>
    intro i xs ys hik h hy hz he
    obtain rfl : i = r := by omega
    injection he with he
    subst he
    exact ⟨h, hy, fun p hp hne => hz p hp hne⟩
  | succ k ih =>
    intro i xs ys hik h hy hz he
    have he' : (if i = pv.length ∨ mxC c xs i j = 0 then elimR r c pv.length j k (i + 1) xs else if rowN c (rdV j (mxC c xs i) (mxC c xs pv.length)) = true then elimR r c pv.length j k (i + 1) (rdL r c pv.length j i xs) else none) = some ys := he
    by_cases h1 : i = pv.length ∨ mxC c xs i j = 0
    · rw [if_pos h1] at he'
      refine ih (i + 1) xs ys (by omega) h hy (fun p hp hne => ?_) he'
      rcases Nat.lt_or_ge p i with h2 | h2
      · exact hz p h2 hne
      · obtain rfl : p = i := by omega
        exact h1.resolve_left hne
    · rw [if_neg h1] at he'
      by_cases h2 : rowN c (rdV j (mxC c xs i) (mxC c xs pv.length)) = true
      · rw [if_pos h2] at he'
        have hi : i < r := by omega
        have hit : i ≠ pv.length := fun e => h1 (.inl e)
        obtain ⟨hr, ho, h0⟩ := h.reduce ht hj hi hit hy h2
        refine ih (i + 1) _ ys (by omega) hr (by rw [ho _ _ ht hj (fun e => hit e.symm)]; exact hy) (fun p hp hne => ?_) he'
        by_cases e : p = i
        · rw [e]; exact h0
        · rw [ho p j (by omega) hj e]; exact hz p (by omega) hne
      · rw [if_neg h2] at he'
        cases he'
theorem EInv.pivot {r c : Nat} {M : Mx} {xs : List Int} {pv : List Nat} {j : Nat} (h : EInv r c M xs pv j) (ht : pv.length < r) (hj : j < c) (hy : mxC c xs pv.length j ≠ 0) (hz : ∀ p, p < r → p ≠ pv.length → mxC c xs p j = 0) : EInv r c M xs (pv ++ [j]) (j + 1) := by
  have hl : (pv ++ [j]).length = pv.length + 1 := by simp
  have old : ∀ k, k < pv.length → (pv ++ [j]).getD k 0 = pv.getD k 0 := fun k hk => by rw [List.getD, List.getD, List.getElem?_append_left hk]
  have new : (pv ++ [j]).getD pv.length 0 = j := by simp [List.getD]
  refine ⟨h.len, h.num, by omega, hj, h.toM, h.ofM, h.norm, ?_, ?_, ?_, ?_, ?_, ?_⟩
  · intro k hk
    rcases Nat.lt_or_ge k pv.length with h1 | h1
    · rw [old k h1]; have := h.col k h1; omega
    · obtain rfl : k = pv.length := by omega
      rw [new]; omega
  · intro k l hkl hll
    rcases Nat.lt_or_ge l pv.length with h1 | h1
    · rw [old k (by omega), old l h1]; exact h.inc k l hkl h1
    · obtain rfl : l = pv.length := by omega
      rw [old k hkl, new]; exact h.col k hkl
  · intro k hk
    rcases Nat.lt_or_ge k pv.length with h1 | h1
    · rw [old k h1]; exact h.ne k h1
    · obtain rfl : k = pv.length := by omega
      rw [new]; exact hy
  · intro k i hk hi hne
    rcases Nat.lt_or_ge k pv.length with h1 | h1
    · rw [old k h1]; exact h.only k i h1 hi hne
    · obtain rfl : k = pv.length := by omega
      rw [new]; exact hz i hi hne
  · intro k q hk hq
    rcases Nat.lt_or_ge k pv.length with h1 | h1
    · rw [old k h1] at hq; exact h.left k q h1 hq
    · obtain rfl : k = pv.length := by omega
      rw [new] at hq; exact h.rest _ q (Nat.le_refl _) ht hq
  · intro i q hi hir hq
    rcases Nat.lt_or_ge q j with h1 | h1
    · exact h.rest i q (by omega) hir h1
    · obtain rfl : q = j := by omega
      exact hz i hir (by omega)
theorem EInv.all {r c : Nat} {M : Mx} : ∀ (k j : Nat) (xs : List Int) (pv : List Nat) (ys : List Int) (qv : List Nat), j + k = c → EInv r c M xs pv j → echC r c k j xs pv = some (ys, qv) → ∃ j', EInv r c M ys qv j' ∧ (j' = c ∨ qv.length = r) := by
  intro k
  induction k with
  | zero =>
    intro j xs pv ys qv hjk h he
    injection he with he
    injection he with e1 e2
    subst e1 e2
    obtain rfl : j = c := by omega
    exact ⟨j, h, .inl rfl⟩
  | succ k ih =>
    intro j xs pv ys qv hjk h he
    have he' : (if pv.length < r then
      if fstR c j xs (r - pv.length) pv.length = r then echC r c k (j + 1) xs pv
      else match elimR r c pv.length j r 0 (swC (fstR c j xs (r - pv.length) pv.length) pv.length c xs) with
        | none => none
        | some ys => echC r c k (j + 1) ys (pv ++ [j])
    else some (xs, pv)) = some (ys, qv) := he
    have hj : j < c := by omega
    by_cases ht : pv.length < r
    · rw [if_pos ht] at he'
      obtain ⟨f1, f2, f3, f4⟩ := fstR_says (c := c) (j := j) (xs := xs) (k := r - pv.length) (p := pv.length)
      by_cases hp : fstR c j xs (r - pv.length) pv.length = r
      · rw [if_pos hp] at he'
        refine ih (j + 1) xs pv ys qv (by omega) (h.skip hj fun i h1 h2 => f3 i h1 (by omega)) he'
      · rw [if_neg hp] at he'
        generalize fstR c j xs (r - pv.length) pv.length = p at f1 f2 f3 f4 hp he'
        have hs := h.swap f1 (show p < r by omega)
        have hy : mxC c (swC p pv.length c xs) pv.length j ≠ 0 := by
          rw [swC_at h.len ht hj]
          by_cases e : pv.length = p
          · rw [if_pos e, e]; exact f4 (by omega)
          · rw [if_neg e, if_pos rfl]; exact f4 (by omega)
        cases hel : elimR r c pv.length j r 0 (swC p pv.length c xs) with
        | none => rw [hel] at he'; cases he'
        | some zs =>
          rw [hel] at he'
          obtain ⟨h1, h2, h3⟩ := EInv.elim ht hj r 0 _ zs (by omega) hs hy (fun p hp => by omega) hel
          exact ih (j + 1) zs (pv ++ [j]) ys qv (by omega) (h1.pivot ht hj h2 h3) he'
    · rw [if_neg ht] at he'
      injection he' with he'
      injection he' with e1 e2
      subst e1 e2
      exact ⟨j, h, .inr (by have := h.le; omega)⟩
theorem EInv.ech {r c : Nat} {M : Mx} {xs : List Int} {pv : List Nat} {j : Nat} (h : EInv r c M xs pv j) (he : j = c ∨ pv.length = r) : Ech r c (mxC c xs) (fun k => pv.getD k 0) pv.length where
  le := h.le
  col := fun k hk => by have := h.col k hk; have := h.jc; omega
  inc := h.inc
  pos := fun k hk => by
    have h1 := h.col k hk
    have h2 := h.jc
    have h3 := h.le
    exact (h.norm k (by omega)).pos (by omega) (fun q hq => h.left k q hk hq) (h.ne k hk)
  only := h.only
  left := h.left
  rest := fun i q hi hir hq => by
    rcases he with e | e
    · exact h.rest i q hi hir (by omega)
    · omega
  prim := fun k hk => by
    have h1 := h.col k hk
    have h2 := h.jc
    have h3 := h.le
    exact (h.norm k (by omega)).prim (show pv.getD k 0 < c by omega) (h.ne k hk)
theorem echM_says {r c : Nat} {xs ys : List Int} {pv : List Nat} (hx : xs.length = r * c) (hn : nums xs = true) (h : echM r c xs = some (ys, pv)) :
    Ech r c (mxC c ys) (fun k => pv.getD k 0) pv.length ∧ SubSp r r c (mxC c ys) (mxC c xs) ∧ SubSp r r c (mxC c xs) (mxC c ys) ∧ ys.length = r * c ∧ nums ys = true ∧ ∀ i, i < r → Norm c (mxC c ys i) := by
  obtain ⟨j, h, e⟩ := EInv.all c 0 _ [] ys pv (by omega) (EInv.start hx hn) h
  exact ⟨h.ech e, h.toM, h.ofM, h.len, h.num, h.norm⟩
end Go.Proofs.YtcapddcmnjeloaaGreatDoor
end

section
/-
  Plain mathematics of chapter 7: a row that is written cell by cell. Nothing of a program is used.
-/
namespace Go.Proofs.YtcapddcmnjeloaaGreatDoor
def rowTo (r c i : Nat) (v : Nat → Int) (xs : List Int) (k : Nat) : List Int := tab r c fun p q => if p = i ∧ q < k then v q else mxC c xs p q
def rowL (r c i : Nat) (v : Nat → Int) (xs : List Int) : List Int := tab r c fun p q => if p = i then v q else mxC c xs p q
theorem rowTo_length (r c i : Nat) (v : Nat → Int) (xs : List Int) (k : Nat) : (rowTo r c i v xs k).length = r * c := tab_length _ _ _
theorem rowTo_at {r c i : Nat} {v : Nat → Int} {xs : List Int} {k p q : Nat} (hp : p < r) (hq : q < c) : (rowTo r c i v xs k).getD (p * c + q) 0 = if p = i ∧ q < k then v q else mxC c xs p q := tab_at r c _ hp hq
theorem rowTo_old {r c i : Nat} {v : Nat → Int} {xs : List Int} {k p q : Nat} (hp : p < r) (hq : q < c) (h : p ≠ i ∨ k ≤ q) : (rowTo r c i v xs k).getD (p * c + q) 0 = xs.getD (p * c + q) 0 := by
  rw [rowTo_at hp hq, if_neg (by omega)]; rfl
theorem rowTo_zero {r c i : Nat} {v : Nat → Int} {xs : List Int} (hx : xs.length = r * c) : rowTo r c i v xs 0 = xs := by
  refine (tab_ext hx fun p q _ _ => ?_).symm
  rw [if_neg (by omega)]; rfl
theorem rowTo_step {r c i : Nat} {v : Nat → Int} {xs : List Int} {k : Nat} (hi : i < r) (hk : k < c) : (rowTo r c i v xs k).set (i * c + k) (v k) = rowTo r c i v xs (k + 1) := by
  refine tab_ext (by rw [List.length_set, rowTo_length]) fun p q hp hq => ?_
  rw [getD_set _ _ _ _ (by rw [rowTo_length]; exact idx_lt hi hk), rowTo_at hp hq]
  by_cases e : p * c + q = i * c + k
  · obtain ⟨rfl, rfl⟩ := idx_inj hq hk e
    rw [if_pos (by omega), if_pos (by omega)]
  · have ne : ¬ (p = i ∧ q = k) := by rintro ⟨rfl, rfl⟩; exact e rfl
    rw [if_neg (by omega)]
    by_cases h : p = i ∧ q < k
    · rw [if_pos h, if_pos (by omega)]
    · rw [if_neg h, if_neg (by omega)]
theorem rowTo_all {r c i : Nat} {v : Nat → Int} {xs : List Int} : rowTo r c i v xs c = rowL r c i v xs := by
  refine tab_ext (rowTo_length _ _ _ _ _ _) fun p q hp hq => ?_
  rw [rowTo_at hp hq]
  by_cases h : p = i
  · rw [if_pos ⟨h, hq⟩, if_pos h]
  · rw [if_neg (fun h1 => h h1.1), if_neg h]
theorem rowL_length (r c i : Nat) (v : Nat → Int) (xs : List Int) : (rowL r c i v xs).length = r * c := tab_length _ _ _
theorem rowL_own {r c i q : Nat} {v : Nat → Int} {xs : List Int} (hi : i < r) (hq : q < c) : mxC c (rowL r c i v xs) i q = v q := by unfold rowL; rw [mxC_tab hi hq, if_pos rfl]
theorem rowL_oth {r c i p q : Nat} {v : Nat → Int} {xs : List Int} (hp : p < r) (hq : q < c) (h : p ≠ i) : mxC c (rowL r c i v xs) p q = mxC c xs p q := by unfold rowL; rw [mxC_tab hp hq, if_neg h]
theorem rowL_congr {r c i : Nat} {u v : Nat → Int} {xs : List Int} (h : ∀ q, q < c → u q = v q) : rowL r c i u xs = rowL r c i v xs := by
  refine tab_ext (rowL_length _ _ _ _ _) fun p q hp hq => ?_
  by_cases e : p = i
  · subst e; rw [if_pos rfl]; exact (rowL_own hp hq).trans (h q hq)
  · rw [if_neg e]; exact rowL_oth hp hq e
theorem rowL_self {r c i : Nat} {v : Nat → Int} {xs : List Int} (hx : xs.length = r * c) (h : i < r → ∀ q, q < c → v q = mxC c xs i q) : rowL r c i v xs = xs := by
  refine (tab_ext hx fun p q hp hq => ?_).symm
  by_cases e : p = i
  · subst e; rw [if_pos rfl, h hp q hq]; rfl
  · rw [if_neg e]; rfl
theorem rowL_twice {r c i : Nat} {u v : Nat → Int} {xs : List Int} : rowL r c i u (rowL r c i v xs) = rowL r c i u xs := by
  refine tab_ext (rowL_length _ _ _ _ _) fun p q hp hq => ?_
  by_cases e : p = i
  · subst e; rw [if_pos rfl]; exact rowL_own hp hq
  · rw [if_neg e]; exact (rowL_oth hp hq e).trans (rowL_oth hp hq e)
theorem prL_row (r c i : Nat) (xs : List Int) : prL r c i xs = rowL r c i (prV c (mxC c xs i)) xs := rfl
theorem rdL_row (r c t j i : Nat) (xs : List Int) : rdL r c t j i xs = rowL r c i (prV c (rdV j (mxC c xs i) (mxC c xs t))) xs := rfl
theorem rdL_prim {r c t j i : Nat} {xs : List Int} (hi : i < r) : prL r c i (rowL r c i (rdV j (mxC c xs i) (mxC c xs t)) xs) = rdL r c t j i xs := by
  rw [prL_row, rdL_row, rowL_twice]
  exact rowL_congr fun q hq => prV_congr (fun k hk => rowL_own hi hk) q hq
theorem prTo_zero {r c : Nat} {xs : List Int} (hx : xs.length = r * c) : prTo r c 0 xs = xs := by
  refine (tab_ext hx fun p q _ _ => ?_).symm
  rw [if_neg (by omega)]; rfl
theorem prTo_step {r c i : Nat} {xs : List Int} (hi : i < r) : prL r c i (prTo r c i xs) = prTo r c (i + 1) xs := by
  have at_ : ∀ {p q k : Nat}, p < r → q < c → mxC c (prTo r c k xs) p q = if p < k then prV c (mxC c xs p) q else mxC c xs p q := fun hp hq => mxC_tab hp hq
  refine tab_ext (tab_length _ _ _) fun p q hp hq => ?_
  by_cases e : p = i
  · subst e
    rw [if_pos (by omega)]
    refine (rowL_own hp hq).trans (prV_congr (fun k hk => ?_) q hq)
    rw [at_ hp hk, if_neg (by omega)]
  · refine (rowL_oth hp hq e).trans ?_
    rw [at_ hp hq]
    by_cases h : p < i
    · rw [if_pos h, if_pos (by omega)]
    · rw [if_neg h, if_neg (by omega)]
theorem prTo_nums {r c i : Nat} {xs : List Int} (hx : xs.length = r * c) (hn : nums xs = true) : nums (prTo r c i xs) = true := tab_nums fun p q hp hq => by
  by_cases h : p < i
  · rw [if_pos h]; exact prV_num (fun k hk => mx_nums hx hn hp hk) hq
  · rw [if_neg h]; exact mx_nums hx hn hp hq
theorem rowL_nums {r c i : Nat} {v : Nat → Int} {xs : List Int} (hx : xs.length = r * c) (hn : nums xs = true) (hv : ∀ q, q < c → NumP (v q)) : nums (rowL r c i v xs) = true := tab_nums fun p q hp hq => by
  by_cases h : p = i
  · rw [if_pos h]; exact hv q hq
  · rw [if_neg h]; exact mx_nums hx hn hp hq
theorem rowN_iff {c : Nat} {v : Nat → Int} : rowN c v = true ↔ ∀ q, q < c → NumP (v q) := by
  unfold rowN
  constructor
  · intro h q hq
    have := nums_at h (j := q) (by simpa using hq)
    simpa [List.getD, hq] using this
  · intro h
    refine nums_true fun q hq => ?_
    have hq' : q < c := by simpa using hq
    simpa [List.getD, hq'] using h q hq'
theorem elimR_skip {r c t j k i : Nat} {xs : List Int} (h : i = t ∨ mxC c xs i j = 0) : elimR r c t j (k + 1) i xs = elimR r c t j k (i + 1) xs := if_pos h
theorem elimR_on {r c t j k i : Nat} {xs : List Int} (h : ¬ (i = t ∨ mxC c xs i j = 0)) (h2 : rowN c (rdV j (mxC c xs i) (mxC c xs t)) = true) : elimR r c t j (k + 1) i xs = elimR r c t j k (i + 1) (rdL r c t j i xs) := by
  show (if i = t ∨ mxC c xs i j = 0 then _ else if rowN c _ = true then _ else _) = _
  rw [if_neg h, if_pos h2]
theorem elimR_bad {r c t j k i : Nat} {xs : List Int} (h : ¬ (i = t ∨ mxC c xs i j = 0)) (h2 : rowN c (rdV j (mxC c xs i) (mxC c xs t)) ≠ true) : elimR r c t j (k + 1) i xs = none := by
  show (if i = t ∨ mxC c xs i j = 0 then _ else if rowN c _ = true then _ else _) = _
  rw [if_neg h, if_neg h2]
theorem echC_skip {r c k j : Nat} {xs : List Int} {pv : List Nat} (h : pv.length < r) (hf : fstR c j xs (r - pv.length) pv.length = r) : echC r c (k + 1) j xs pv = echC r c k (j + 1) xs pv := by
  show (if pv.length < r then if fstR c j xs (r - pv.length) pv.length = r then _ else _ else _) = _
  rw [if_pos h, if_pos hf]
theorem echC_none {r c k j p : Nat} {xs : List Int} {pv : List Nat} (h : pv.length < r) (hf : fstR c j xs (r - pv.length) pv.length = p) (hp : p ≠ r) (he : elimR r c pv.length j r 0 (swC p pv.length c xs) = none) : echC r c (k + 1) j xs pv = none := by
  show (if pv.length < r then if fstR c j xs (r - pv.length) pv.length = r then _ else match elimR r c pv.length j r 0 (swC (fstR c j xs (r - pv.length) pv.length) pv.length c xs) with | none => none | some ys => echC r c k (j + 1) ys (pv ++ [j]) else _) = _
  rw [if_pos h, hf, if_neg hp, he]
theorem echC_on {r c k j p : Nat} {xs ys : List Int} {pv : List Nat} (h : pv.length < r) (hf : fstR c j xs (r - pv.length) pv.length = p) (hp : p ≠ r) (he : elimR r c pv.length j r 0 (swC p pv.length c xs) = some ys) : echC r c (k + 1) j xs pv = echC r c k (j + 1) ys (pv ++ [j]) := by
  show (if pv.length < r then if fstR c j xs (r - pv.length) pv.length = r then _ else match elimR r c pv.length j r 0 (swC (fstR c j xs (r - pv.length) pv.length) pv.length c xs) with | none => none | some ys => echC r c k (j + 1) ys (pv ++ [j]) else _) = _
  rw [if_pos h, hf, if_neg hp, he]
end Go.Proofs.YtcapddcmnjeloaaGreatDoor
end

section
/-
  Plain mathematics of chapter 8: elimination over residues, over lists of cells. Nothing of a program is used.
-/
namespace Go.Proofs.YtcapddcmnjeloaaGreatDoor
structure PInv (p : Int) (r c n : Nat) (M : Mx) (xs : List Int) (pv : List Nat) (j : Nat) : Prop where
  len : xs.length = r * c
  can : ∀ i q, i < r → q < c → 0 ≤ mxC c xs i q ∧ mxC c xs i q < p
  le : pv.length ≤ r
  jn : j ≤ n
  nc : n ≤ c
  toM : SubP p r r c (mxC c xs) M
  ofM : SubP p r r c M (mxC c xs)
  col : ∀ k, k < pv.length → pv.getD k 0 < j
  inc : ∀ k l, k < l → l < pv.length → pv.getD k 0 < pv.getD l 0
  one : ∀ k, k < pv.length → mxC c xs k (pv.getD k 0) = 1
  only : ∀ k i, k < pv.length → i < r → i ≠ k → mxC c xs i (pv.getD k 0) = 0
  left : ∀ k q, k < pv.length → q < pv.getD k 0 → mxC c xs k q = 0
  rest : ∀ i q, pv.length ≤ i → i < r → q < j → mxC c xs i q = 0
theorem PInv.start {p : Int} {r c n : Nat} {M : Mx} {xs : List Int} (hx : xs.length = r * c) (hn : n ≤ c) (hc : ∀ i q, i < r → q < c → 0 ≤ mxC c xs i q ∧ mxC c xs i q < p) (hM : ∀ i q, i < r → q < c → Cg p (mxC c xs i q) (M i q)) : PInv p r c n M xs [] 0 where
  len := hx
  can := hc
  le := Nat.zero_le _
  jn := Nat.zero_le _
  nc := hn
  toM := SubP.of_cg hM
  ofM := SubP.of_cg fun i q hi hq => (hM i q hi hq).symm
  col := fun k hk => absurd hk (Nat.not_lt_zero k)
  inc := fun _ l _ hl => absurd hl (Nat.not_lt_zero l)
  one := fun k hk => absurd hk (Nat.not_lt_zero k)
  only := fun k _ hk => absurd hk (Nat.not_lt_zero k)
  left := fun k _ hk => absurd hk (Nat.not_lt_zero k)
  rest := fun _ q _ _ hq => absurd hq (Nat.not_lt_zero q)
section
variable {p : Int} {r c n : Nat} {M : Mx} {xs : List Int} {pv : List Nat} {j : Nat}
theorem PInv.skip (h : PInv p r c n M xs pv j) (hj : j < n) (hz : ∀ i, pv.length ≤ i → i < r → mxC c xs i j = 0) : PInv p r c n M xs pv (j + 1) :=
  { h with
    jn := hj
    col := fun k hk => by have := h.col k hk; omega
    rest := fun i q hi hir hq => by
      rcases Nat.lt_or_ge q j with h1 | h1
      · exact h.rest i q hi hir h1
      · obtain rfl : q = j := by omega
        exact hz i hi hir }
theorem PInv.swap (h : PInv p r c n M xs pv j) {s : Nat} (hs : pv.length ≤ s) (hsr : s < r) : PInv p r c n M (swC s pv.length c xs) pv j := by
  have hjn := h.jn
  have hnc := h.nc
  have at_ : ∀ i q, i < r → q < c → mxC c (swC s pv.length c xs) i q = mxC c xs (if i = s then pv.length else if i = pv.length then s else i) q := fun i q hi hq => swC_at h.len hi hq
  have low : ∀ i q, i < pv.length → q < c → mxC c (swC s pv.length c xs) i q = mxC c xs i q := fun i q hi hq => by rw [at_ i q (by omega) hq, if_neg (by omega), if_neg (by omega)]
  have big : ∀ i, pv.length ≤ i → i < r → pv.length ≤ (if i = s then pv.length else if i = pv.length then s else i) ∧ (if i = s then pv.length else if i = pv.length then s else i) < r := fun i h1 h2 => by
    split
    · omega
    · split <;> omega
  have any : ∀ i, i < r → (if i = s then pv.length else if i = pv.length then s else i) < r := fun i hi => by
    split
    · omega
    · split <;> omega
  refine ⟨by rw [swC_length]; exact h.len, ?_, h.le, h.jn, h.nc, ?_, ?_, h.col, h.inc, ?_, ?_, ?_, ?_⟩
  · intro i q hi hq
    rw [at_ i q hi hq]
    exact h.can _ q (any i hi) hq
  · intro i hi
    exact (h.toM _ (any i hi)).congr fun q hq => Cg.of_eq (at_ i q hi hq)
  · refine h.ofM.trans fun i hi => ?_
    refine (InP.row (A := mxC c (swC s pv.length c xs)) (any i hi)).congr fun q hq => Cg.of_eq ?_
    rw [at_ _ q (any i hi) hq]
    by_cases e1 : i = s
    · rw [if_pos e1]
      by_cases e2 : pv.length = s
      · rw [if_pos e2, e1, e2]
      · rw [if_neg e2, if_pos rfl, e1]
    · rw [if_neg e1]
      by_cases e2 : i = pv.length
      · rw [if_pos e2, if_pos rfl, e2]
      · rw [if_neg e2, if_neg e1, if_neg e2]
  · intro k hk
    have := h.col k hk
    rw [low k _ hk (by omega)]
    exact h.one k hk
  · intro k i hk hi hne
    have h1 := h.col k hk
    rw [at_ i _ hi (by omega)]
    refine h.only k _ hk (any i hi) ?_
    split
    · omega
    · split <;> omega
  · intro k q hk hq
    have h1 := h.col k hk
    rw [low k q hk (by omega)]
    exact h.left k q hk hq
  · intro i q hi hir hq
    rw [at_ i q hir (by omega)]
    exact h.rest _ q (big i hi hir).1 (big i hi hir).2 hq
theorem PInv.put (h : PInv p r c n M xs pv j) {i : Nat} {v : Nat → Int} (hi : i < r) (hcan : ∀ q, q < c → 0 ≤ v q ∧ v q < p) (hin : InP p r c (mxC c xs) v) (hback : InP p r c (mxC c (rowL r c i v xs)) (mxC c xs i)) (hz : ∀ q, q < j → mxC c xs i q = 0 → v q = 0) (h1 : i < pv.length → v (pv.getD i 0) = 1) : PInv p r c n M (rowL r c i v xs) pv j := by
  have hjn := h.jn
  have hnc := h.nc
  have own : ∀ q, q < c → mxC c (rowL r c i v xs) i q = v q := fun q hq => rowL_own hi hq
  have oth : ∀ a q, a < r → q < c → a ≠ i → mxC c (rowL r c i v xs) a q = mxC c xs a q := fun a q ha hq hne => rowL_oth ha hq hne
  refine ⟨rowL_length _ _ _ _ _, ?_, h.le, h.jn, h.nc, ?_, ?_, h.col, h.inc, ?_, ?_, ?_, ?_⟩
  · intro a q ha hq
    by_cases e : a = i
    · rw [e, own q hq]; exact hcan q hq
    · rw [oth a q ha hq e]; exact h.can a q ha hq
  · intro a ha
    by_cases e : a = i
    · rw [e]; exact (h.toM.mem hin).congr fun q hq => Cg.of_eq (own q hq)
    · exact (h.toM a ha).congr fun q hq => Cg.of_eq (oth a q ha hq e)
  · refine h.ofM.trans fun a ha => ?_
    by_cases e : a = i
    · rw [e]; exact hback
    · exact (InP.row (A := mxC c (rowL r c i v xs)) ha).congr fun q hq => Cg.of_eq (oth a q ha hq e).symm
  · intro k hk
    have hc := h.col k hk
    by_cases e : k = i
    · rw [e, own _ (by rw [← e]; omega)]; exact h1 (by omega)
    · rw [oth k _ (by have := h.le; omega) (by omega) e]; exact h.one k hk
  · intro k a hk ha hne
    have hc := h.col k hk
    by_cases e : a = i
    · rw [e, own _ (by omega)]
      exact hz _ hc (by rw [← e]; exact h.only k a hk ha hne)
    · rw [oth a _ ha (by omega) e]; exact h.only k a hk ha hne
  · intro k q hk hq
    have hc := h.col k hk
    by_cases e : k = i
    · rw [e, own _ (by omega)]
      exact hz _ (by omega) (by rw [← e]; exact h.left k q hk hq)
    · rw [oth k _ (by have := h.le; omega) (by omega) e]; exact h.left k q hk hq
  · intro a q ha har hq
    by_cases e : a = i
    · rw [e, own _ (by omega)]
      exact hz _ hq (by rw [← e]; exact h.rest a q ha har hq)
    · rw [oth a _ har (by omega) e]; exact h.rest a q ha har hq
theorem res_can {p : Int} (hp : 0 < p) (z : Int) : 0 ≤ z % p ∧ z % p < p := ⟨Int.emod_nonneg _ (by omega), Int.emod_lt_of_pos _ hp⟩
def scV (p z : Int) (u : Nat → Int) : Nat → Int := fun q => (u q * z) % p
theorem PInv.scale (h : PInv p r c n M xs pv j) (hp : Prm p) (ht : pv.length < r) (hj : j < n) {z : Int} (hz : InvP p (mxC c xs pv.length j) z) :
    PInv p r c n M (rowL r c pv.length (scV p z (mxC c xs pv.length)) xs) pv j ∧ mxC c (rowL r c pv.length (scV p z (mxC c xs pv.length)) xs) pv.length j = 1 := by
  have hp0 : 0 < p := by have := hp.1; omega
  have hnc := h.nc
  have e1 : scV p z (mxC c xs pv.length) j = 1 := by
    show (mxC c xs pv.length j * z) % p = 1
    rw [Cg.emod_eq hp0 hz]
    exact Int.emod_eq_of_lt (by omega) (by have := hp.1; omega)
  refine ⟨h.put ht (fun q _ => res_can hp0 _) ?_ ?_ ?_ (fun hlt => absurd hlt (Nat.lt_irrefl _)), by rw [rowL_own ht (by omega)]; exact e1⟩
  · refine (((InP.row (p := p) (c := c) (A := mxC c xs) ht).add InP.zero z 0)).congr fun q _ => (Cg.emod p _).trans (Cg.of_eq ?_)
    rw [Int.mul_zero, Int.add_zero, Int.mul_comm]
  · refine ((InP.row (p := p) (c := c) (A := mxC c (rowL r c pv.length (scV p z (mxC c xs pv.length)) xs)) ht).add InP.zero (mxC c xs pv.length j) 0).congr fun q hq => ?_
    rw [rowL_own ht hq, Int.mul_zero, Int.add_zero]
    have h1 : Cg p (scV p z (mxC c xs pv.length) q) (mxC c xs pv.length q * z) := Cg.emod p _
    refine (Cg.trans (h1.mul_left _) ?_).symm
    have h2 : Cg p (mxC c xs pv.length j * z * mxC c xs pv.length q) (1 * mxC c xs pv.length q) := Cg.mul hz (Cg.refl _ _)
    rw [Int.one_mul] at h2
    refine Cg.trans (Cg.of_eq ?_) h2
    grind
  · intro q hq h0
    show (mxC c xs pv.length q * z) % p = 0
    rw [h0, Int.zero_mul]
    exact Int.zero_emod p
def lsV (p x : Int) (u v : Nat → Int) : Nat → Int := fun q => (u q - x * v q) % p
theorem PInv.less (h : PInv p r c n M xs pv j) (hp : Prm p) (ht : pv.length < r) (hj : j < n) {i : Nat} (hi : i < r) (hit : i ≠ pv.length) (h1 : mxC c xs pv.length j = 1) :
    PInv p r c n M (rowL r c i (lsV p (mxC c xs i j) (mxC c xs i) (mxC c xs pv.length)) xs) pv j ∧ (∀ a q, a < r → q < c → a ≠ i → mxC c (rowL r c i (lsV p (mxC c xs i j) (mxC c xs i) (mxC c xs pv.length)) xs) a q = mxC c xs a q) ∧ mxC c (rowL r c i (lsV p (mxC c xs i j) (mxC c xs i) (mxC c xs pv.length)) xs) i j = 0 := by
  have hp0 : 0 < p := by have := hp.1; omega
  have hnc := h.nc
  have hjn := h.jn
  have same : ∀ q, q < c → mxC c xs pv.length q = 0 → lsV p (mxC c xs i j) (mxC c xs i) (mxC c xs pv.length) q = mxC c xs i q := fun q hq h0 => by
    show (mxC c xs i q - mxC c xs i j * mxC c xs pv.length q) % p = mxC c xs i q
    rw [h0, Int.mul_zero, Int.sub_zero]
    have := h.can i q hi hq
    exact Int.emod_eq_of_lt this.1 this.2
  refine ⟨h.put hi (fun q _ => res_can hp0 _) ?_ ?_ ?_ ?_, fun a q ha hq hne => rowL_oth ha hq hne, ?_⟩
  · refine ((InP.row (p := p) (c := c) (A := mxC c xs) hi).add (InP.row ht) 1 (-(mxC c xs i j))).congr fun q _ => (Cg.emod p _).trans (Cg.of_eq ?_)
    rw [Int.one_mul, Int.neg_mul]; omega
  · have hR : InP p r c (mxC c (rowL r c i (lsV p (mxC c xs i j) (mxC c xs i) (mxC c xs pv.length)) xs)) (mxC c xs pv.length) := (InP.row (A := mxC c (rowL r c i (lsV p (mxC c xs i j) (mxC c xs i) (mxC c xs pv.length)) xs)) ht).congr fun q hq => Cg.of_eq (rowL_oth ht hq (fun e => hit e.symm)).symm
    refine ((InP.row (p := p) (c := c) (A := mxC c (rowL r c i (lsV p (mxC c xs i j) (mxC c xs i) (mxC c xs pv.length)) xs)) hi).add hR 1 (mxC c xs i j)).congr fun q hq => ?_
    rw [rowL_own hi hq, Int.one_mul]
    have h2 : Cg p (lsV p (mxC c xs i j) (mxC c xs i) (mxC c xs pv.length) q) (mxC c xs i q - mxC c xs i j * mxC c xs pv.length q) := Cg.emod p _
    exact (Cg.trans (h2.add (Cg.refl p _)) (Cg.of_eq (by omega))).symm
  · intro q hq h0
    rw [same q (by omega) (h.rest _ q (Nat.le_refl _) ht hq)]
    exact h0
  · intro hlt
    have hc := h.col i hlt
    rw [same _ (by omega) (h.rest _ _ (Nat.le_refl _) ht hc)]
    exact h.one i hlt
  · rw [rowL_own hi (by omega)]
    show (mxC c xs i j - mxC c xs i j * mxC c xs pv.length j) % p = 0
    rw [h1, Int.mul_one, Int.sub_self]
    exact Int.zero_emod p
theorem PInv.pivot (h : PInv p r c n M xs pv j) (ht : pv.length < r) (hj : j < n) (h1 : mxC c xs pv.length j = 1) (hz : ∀ i, i < r → i ≠ pv.length → mxC c xs i j = 0) : PInv p r c n M xs (pv ++ [j]) (j + 1) := by
  have hl : (pv ++ [j]).length = pv.length + 1 := by simp
  have old : ∀ k, k < pv.length → (pv ++ [j]).getD k 0 = pv.getD k 0 := fun k hk => by rw [List.getD, List.getD, List.getElem?_append_left hk]
  have new : (pv ++ [j]).getD pv.length 0 = j := by simp [List.getD]
  refine ⟨h.len, h.can, by omega, hj, h.nc, h.toM, h.ofM, ?_, ?_, ?_, ?_, ?_, ?_⟩
  · intro k hk
    rcases Nat.lt_or_ge k pv.length with h1 | h1
    · rw [old k h1]; have := h.col k h1; omega
    · obtain rfl : k = pv.length := by omega
      rw [new]; omega
  · intro k l hkl hll
    rcases Nat.lt_or_ge l pv.length with h1 | h1
    · rw [old k (by omega), old l h1]; exact h.inc k l hkl h1
    · obtain rfl : l = pv.length := by omega
      rw [old k hkl, new]; exact h.col k hkl
  · intro k hk
    rcases Nat.lt_or_ge k pv.length with h2 | h2
    · rw [old k h2]; exact h.one k h2
    · obtain rfl : k = pv.length := by omega
      rw [new]; exact h1
  · intro k i hk hi hne
    rcases Nat.lt_or_ge k pv.length with h1 | h1
    · rw [old k h1]; exact h.only k i h1 hi hne
    · obtain rfl : k = pv.length := by omega
      rw [new]; exact hz i hi hne
  · intro k q hk hq
    rcases Nat.lt_or_ge k pv.length with h1 | h1
    · rw [old k h1] at hq; exact h.left k q h1 hq
    · obtain rfl : k = pv.length := by omega
      rw [new] at hq; exact h.rest _ q (Nat.le_refl _) ht hq
  · intro i q hi hir hq
    rcases Nat.lt_or_ge q j with h1 | h1
    · exact h.rest i q (by omega) hir h1
    · obtain rfl : q = j := by omega
      exact hz i hir (by omega)
theorem PInv.ref (h : PInv p r c n M xs pv j) (he : j = n ∨ pv.length = r) : RefP r n (mxC c xs) (fun k => pv.getD k 0) pv.length where
  le := h.le
  col := fun k hk => by have := h.col k hk; have := h.jn; omega
  inc := h.inc
  one := h.one
  only := h.only
  left := h.left
  rest := fun i q hi hir hq => by
    rcases he with e | e
    · exact h.rest i q hi hir (by omega)
    · omega
end
def DInv (p : Int) (n : Nat) (M : Mx) (xs : List Int) (d : Int) : Prop := Cg p (det n M) (d * det n (mxC n xs))
theorem DInv.swap {p : Int} {n s t : Nat} {M : Mx} {xs : List Int} {d : Int} (h : DInv p n M xs d) (hx : xs.length = n * n) (hs : s < n) (ht : t < n) (hne : s ≠ t) : DInv p n M (swC s t n xs) ((-d) % p) := by
  have e : det n (mxC n (swC s t n xs)) = -det n (mxC n xs) := by
    rw [← det_swap (mxC n xs) hs ht hne]
    refine det_congr fun a b ha hb => ?_
    rw [swC_at hx ha hb]
    unfold swR
    by_cases h1 : a = s
    · rw [if_pos h1, if_pos h1]
    · rw [if_neg h1, if_neg h1]
      by_cases h2 : a = t
      · rw [if_pos h2, if_pos h2]
      · rw [if_neg h2, if_neg h2]
  unfold DInv
  rw [e]
  refine h.trans (Cg.symm (((Cg.emod p (-d)).mul (Cg.refl p _)).trans (Cg.of_eq ?_)))
  rw [Int.neg_mul_neg]
theorem DInv.scale {p : Int} {n t : Nat} {M : Mx} {xs : List Int} {d a z : Int} (h : DInv p n M xs d) (ht : t < n) (hz : InvP p a z) : DInv p n M (rowL n n t (scV p z (mxC n xs t)) xs) ((d * a) % p) := by
  have e : Cg p (det n (mxC n (rowL n n t (scV p z (mxC n xs t)) xs))) (z * det n (mxC n xs)) := by
    rw [← det_scale (mxC n xs) z ht]
    refine det_cg fun x y hx hy => ?_
    unfold stR
    by_cases h1 : x = t
    · rw [if_pos h1, h1, rowL_own ht hy]
      exact (Cg.emod p _).trans (Cg.of_eq (Int.mul_comm _ _))
    · rw [if_neg h1, rowL_oth hx hy h1]; exact Cg.refl _ _
  refine h.trans (Cg.symm (((Cg.emod p (d * a)).mul e).trans ?_))
  have h2 : Cg p (d * det n (mxC n xs) * (a * z)) (d * det n (mxC n xs) * 1) := Cg.mul_left _ hz
  rw [Int.mul_one] at h2
  exact Cg.trans (Cg.of_eq (by grind)) h2
theorem DInv.less {p : Int} {n i t : Nat} {M : Mx} {xs : List Int} {d x : Int} (h : DInv p n M xs d) (hi : i < n) (ht : t < n) (hne : i ≠ t) : DInv p n M (rowL n n i (lsV p x (mxC n xs i) (mxC n xs t)) xs) d := by
  have e : Cg p (det n (mxC n (rowL n n i (lsV p x (mxC n xs i) (mxC n xs t)) xs))) (det n (mxC n xs)) := by
    rw [← det_less (mxC n xs) x hi ht hne]
    refine det_cg fun a b ha hb => ?_
    unfold stR
    by_cases h1 : a = i
    · rw [if_pos h1, h1, rowL_own hi hb]
      exact Cg.emod p _
    · rw [if_neg h1, rowL_oth ha hb h1]; exact Cg.refl _ _
  exact h.trans (Cg.mul_left d e).symm
end Go.Proofs.YtcapddcmnjeloaaGreatDoor
end

section
/-
  Plain mathematics of chapter 8: the elimination over residues as a function of lists. Nothing of a program is used.
-/
namespace Go.Proofs.YtcapddcmnjeloaaGreatDoor
def invF (p a : Int) : Int := match (List.range p.toNat).find? (fun (x : Nat) => decide ((a * (x : Int)) % p = 1)) with
  | some x => (x : Int)
  | none => 0
theorem invF_of {p a x : Int} (hp : Prm p) (h0 : 0 ≤ x) (h1 : x < p) (h : InvP p a x) : invF p a = x := by
  have hp0 : 0 < p := by have := hp.1; omega
  have hx : (a * ((x.toNat : Nat) : Int)) % p = 1 := by
    rw [Int.toNat_of_nonneg h0, Cg.emod_eq hp0 h]
    exact Int.emod_eq_of_lt (by omega) (by have := hp.1; omega)
  unfold invF
  cases hf : (List.range p.toNat).find? (fun (x : Nat) => decide ((a * (x : Int)) % p = 1)) with
  | none =>
    have := List.find?_eq_none.mp hf x.toNat (List.mem_range.mpr (by omega))
    exact absurd (decide_eq_true hx) this
  | some y =>
    have h2 := List.find?_some hf
    have h3 := List.mem_range.mp (List.mem_of_find?_eq_some hf)
    have h4 : (a * (y : Int)) % p = 1 := of_decide_eq_true h2
    show (y : Int) = x
    have h5 : InvP p a y := by
      unfold InvP
      refine Cg.of_emod ?_
      rw [h4]
      exact (Int.emod_eq_of_lt (by omega) (by have := hp.1; omega)).symm
    exact Cg.eq ⟨by omega, by omega⟩ ⟨h0, h1⟩ (InvP.uniq hp h5 h)
def clP (p : Int) (r c t j : Nat) : Nat → Nat → List Int → List Int
  | 0, _, xs => xs
  | k + 1, i, xs => if i = t ∨ mxC c xs i j = 0 then clP p r c t j k (i + 1) xs else clP p r c t j k (i + 1) (rowL r c i (lsV p (mxC c xs i j) (mxC c xs i) (mxC c xs t)) xs)
def elP (p : Int) (r c : Nat) : Nat → Nat → List Int → List Nat → Int → List Int × List Nat × Int
  | 0, _, xs, pv, d => (xs, pv, d)
  | k + 1, j, xs, pv, d =>
    if pv.length < r then
      if fstR c j xs (r - pv.length) pv.length = r then elP p r c k (j + 1) xs pv d
      else elP p r c k (j + 1)
        (clP p r c pv.length j r 0 (rowL r c pv.length (scV p (invF p (mxC c (swC (fstR c j xs (r - pv.length) pv.length) pv.length c xs) pv.length j)) (mxC c (swC (fstR c j xs (r - pv.length) pv.length) pv.length c xs) pv.length)) (swC (fstR c j xs (r - pv.length) pv.length) pv.length c xs)))
        (pv ++ [j])
        (((if fstR c j xs (r - pv.length) pv.length = pv.length then d else (-d) % p) * mxC c (swC (fstR c j xs (r - pv.length) pv.length) pv.length c xs) pv.length j) % p)
    else (xs, pv, d)
theorem clP_skip {p : Int} {r c t j k i : Nat} {xs : List Int} (h : i = t ∨ mxC c xs i j = 0) : clP p r c t j (k + 1) i xs = clP p r c t j k (i + 1) xs := if_pos h
theorem clP_on {p : Int} {r c t j k i : Nat} {xs : List Int} (h : ¬ (i = t ∨ mxC c xs i j = 0)) : clP p r c t j (k + 1) i xs = clP p r c t j k (i + 1) (rowL r c i (lsV p (mxC c xs i j) (mxC c xs i) (mxC c xs t)) xs) := if_neg h
theorem elP_end {p : Int} {r c k j : Nat} {xs : List Int} {pv : List Nat} {d : Int} (h : ¬ pv.length < r) : elP p r c k j xs pv d = (xs, pv, d) := by
  cases k with
  | zero => rfl
  | succ k => exact if_neg h
theorem elP_skip {p : Int} {r c k j : Nat} {xs : List Int} {pv : List Nat} {d : Int} (h : pv.length < r) (hf : fstR c j xs (r - pv.length) pv.length = r) : elP p r c (k + 1) j xs pv d = elP p r c k (j + 1) xs pv d := by
  show (if pv.length < r then _ else _) = _
  rw [if_pos h, if_pos hf]
theorem elP_on {p : Int} {r c k j s : Nat} {xs : List Int} {pv : List Nat} {d : Int} (h : pv.length < r) (hf : fstR c j xs (r - pv.length) pv.length = s) (hs : s ≠ r) :
    elP p r c (k + 1) j xs pv d = elP p r c k (j + 1) (clP p r c pv.length j r 0 (rowL r c pv.length (scV p (invF p (mxC c (swC s pv.length c xs) pv.length j)) (mxC c (swC s pv.length c xs) pv.length)) (swC s pv.length c xs))) (pv ++ [j]) (((if s = pv.length then d else (-d) % p) * mxC c (swC s pv.length c xs) pv.length j) % p) := by
  show (if pv.length < r then _ else _) = _
  rw [if_pos h, hf, if_neg hs]
def HasInv (p : Int) : Prop := ∀ a : Int, ¬ p ∣ a → ∃ x : Int, 0 ≤ x ∧ x < p ∧ InvP p a x
theorem HasInv.inv {p : Int} (h : HasInv p) (hp : Prm p) {a : Int} (ha : ¬ p ∣ a) : InvP p a (invF p a) ∧ 0 ≤ invF p a ∧ invF p a < p := by
  obtain ⟨x, h0, h1, hx⟩ := h a ha
  rw [invF_of hp h0 h1 hx]
  exact ⟨hx, h0, h1⟩
theorem can_nd {p a : Int} (h : 0 ≤ a ∧ a < p) (h0 : a ≠ 0) : ¬ p ∣ a := fun hd => by
  have := Int.le_of_dvd (by omega) hd
  omega
theorem PInv.clear {p : Int} (hp : Prm p) {r c n : Nat} {M : Mx} {pv : List Nat} {j : Nat} (ht : pv.length < r) (hj : j < n) : ∀ (k i : Nat) (xs : List Int), i + k = r → PInv p r c n M xs pv j → mxC c xs pv.length j = 1 → (∀ a, a < i → a ≠ pv.length → mxC c xs a j = 0) →
    PInv p r c n M (clP p r c pv.length j k i xs) pv j ∧ mxC c (clP p r c pv.length j k i xs) pv.length j = 1 ∧ (∀ a, a < r → a ≠ pv.length → mxC c (clP p r c pv.length j k i xs) a j = 0) ∧ (r = c → ∀ d, DInv p r M xs d → DInv p r M (clP p r c pv.length j k i xs) d) := by
  intro k
  induction k with
  | zero =>
    intro i xs hik h h1 hz
    obtain rfl : i = r := by omega
    exact ⟨h, h1, hz, fun _ _ h => h⟩
  | succ k ih =>
    intro i xs hik h h1 hz
    by_cases hs : i = pv.length ∨ mxC c xs i j = 0
    · rw [clP_skip hs]
      refine ih (i + 1) xs (by omega) h h1 fun a ha hne => ?_
      rcases Nat.lt_or_ge a i with h2 | h2
      · exact hz a h2 hne
      · obtain rfl : a = i := by omega
        exact hs.resolve_left hne
    · rw [clP_on hs]
      have hi : i < r := by omega
      have hit : i ≠ pv.length := fun e => hs (.inl e)
      obtain ⟨h2, h3, h4⟩ := h.less hp ht hj hi hit h1
      have hnc := h.nc
      obtain ⟨e1, e2, e3, e4⟩ := ih (i + 1) _ (by omega) h2 (by rw [h3 _ _ ht (by omega) (fun e => hit e.symm)]; exact h1) fun a ha hne => by
        by_cases e : a = i
        · rw [e]; exact h4
        · rw [h3 a j (by omega) (by omega) e]; exact hz a (by omega) hne
      exact ⟨e1, e2, e3, fun hrc d hd => e4 hrc d (by subst hrc; exact hd.less hi ht hit)⟩
theorem PInv.all {p : Int} (hp : Prm p) (hI : HasInv p) {r c n : Nat} {M : Mx} : ∀ (k j : Nat) (xs : List Int) (pv : List Nat) (d : Int), j + k = n → PInv p r c n M xs pv j → 0 ≤ d ∧ d < p →
    (∃ j', PInv p r c n M (elP p r c k j xs pv d).1 (elP p r c k j xs pv d).2.1 j' ∧ (j' = n ∨ (elP p r c k j xs pv d).2.1.length = r)) ∧ (0 ≤ (elP p r c k j xs pv d).2.2 ∧ (elP p r c k j xs pv d).2.2 < p) ∧ (r = c → DInv p r M xs d → DInv p r M (elP p r c k j xs pv d).1 (elP p r c k j xs pv d).2.2) := by
  have hp0 : 0 < p := by have := hp.1; omega
  intro k
  induction k with
  | zero =>
    intro j xs pv d hjk h hd
    obtain rfl : j = n := by omega
    exact ⟨⟨j, h, .inl rfl⟩, hd, fun _ h => h⟩
  | succ k ih =>
    intro j xs pv d hjk h hd
    have hnc := h.nc
    have hj : j < n := by omega
    by_cases ht : pv.length < r
    · obtain ⟨f1, f2, f3, f4⟩ := fstR_says (c := c) (j := j) (xs := xs) (k := r - pv.length) (p := pv.length)
      by_cases hf : fstR c j xs (r - pv.length) pv.length = r
      · rw [elP_skip ht hf]
        exact ih (j + 1) xs pv d (by omega) (h.skip hj fun i h1 h2 => f3 i h1 (by omega)) hd
      · obtain ⟨s, hs⟩ : ∃ s, fstR c j xs (r - pv.length) pv.length = s := ⟨_, rfl⟩
        rw [elP_on ht hs (by omega)]
        rw [hs] at f1 f2 f3 f4 hf
        have hsr : s < r := by omega
        have h1 := h.swap f1 hsr
        have hy : mxC c (swC s pv.length c xs) pv.length j ≠ 0 := by
          rw [swC_at h.len ht (by omega)]
          by_cases e : pv.length = s
          · rw [if_pos e, e]; exact f4 (by omega)
          · rw [if_neg e, if_pos rfl]; exact f4 (by omega)
        have hnd := can_nd (h1.can _ _ ht (show j < c by omega)) hy
        obtain ⟨hz, -, -⟩ := hI.inv hp hnd
        obtain ⟨h2, h3⟩ := h1.scale hp ht hj hz
        obtain ⟨e1, e2, e3, e4⟩ := PInv.clear hp ht hj r 0 _ (by omega) h2 h3 (fun a ha => absurd ha (Nat.not_lt_zero a))
        have h5 := e1.pivot ht hj e2 e3
        obtain ⟨g1, g2, g3⟩ := ih (j + 1) _ (pv ++ [j]) (((if s = pv.length then d else (-d) % p) * mxC c (swC s pv.length c xs) pv.length j) % p) (by omega) h5 (res_can hp0 _)
        refine ⟨g1, g2, fun hrc hD => g3 hrc (e4 hrc _ ?_)⟩
        subst hrc
        refine DInv.scale ?_ ht hz
        by_cases e : s = pv.length
        · rw [if_pos e]
          unfold swC
          rw [if_pos e]; exact hD
        · rw [if_neg e]
          exact hD.swap h.len hsr ht e
    · rw [elP_end ht]
      exact ⟨⟨j, h, .inr (show pv.length = r by have := h.le; omega)⟩, hd, fun _ h => h⟩
end Go.Proofs.YtcapddcmnjeloaaGreatDoor
end

section
/-
  Plain mathematics of chapter 8: primes up to the limit, inverses of residues. Nothing of a program is used.
-/
namespace Go.Proofs.YtcapddcmnjeloaaGreatDoor
def prmB (p : Int) : Bool := decide (2 ≤ p ∧ p ≤ 10000) && (List.range 101).all fun d => decide (¬ (2 ≤ d ∧ ((d : Nat) : Int) * (d : Int) ≤ p ∧ (d : Int) ∣ p))
theorem prmB_says {p : Int} (h : prmB p = true) : Prm p ∧ p ≤ 10000 := by
  unfold prmB at h
  rw [Bool.and_eq_true, decide_eq_true_eq, List.all_eq_true] at h
  obtain ⟨⟨h1, h2⟩, h3⟩ := h
  refine ⟨⟨h1, fun d hd hdd hdv => ?_⟩, h2⟩
  have hd1 : d ≤ 100 := by
    rcases Int.lt_or_le 100 d with h4 | h4
    · have : (101 : Int) * 101 ≤ d * d := Int.mul_le_mul (by omega) (by omega) (by omega) (by omega)
      omega
    · exact h4
  obtain ⟨e, rfl⟩ := Int.eq_ofNat_of_zero_le (show 0 ≤ d by omega)
  have h4 := of_decide_eq_true (h3 e (List.mem_range.mpr (by omega)))
  exact h4 ⟨by omega, hdd, hdv⟩
theorem prmB_true {p : Int} (h1 : 2 ≤ p ∧ p ≤ 10000) (h2 : ∀ d : Nat, 2 ≤ d → (d : Int) * (d : Int) ≤ p → ¬ (d : Int) ∣ p) : prmB p = true := by
  unfold prmB
  rw [Bool.and_eq_true, decide_eq_true_eq, List.all_eq_true]
  exact ⟨h1, fun d _ => decide_eq_true fun h => h2 d h.1 h.2.1 h.2.2⟩
theorem prmB_out {p : Int} (h : p < 2 ∨ 10000 < p) : prmB p = false := by
  unfold prmB
  rw [decide_eq_false (by omega), Bool.false_and]
theorem prmB_div {p : Int} {d : Nat} (hd : 2 ≤ d) (hdd : (d : Int) * (d : Int) ≤ p) (hdv : (d : Int) ∣ p) : prmB p = false := by
  cases h : prmB p with
  | false => rfl
  | true => exact absurd hdv ((prmB_says h).1.2 d (by omega) hdd)
theorem bez : ∀ b a : Nat, ∃ x y : Int, (a : Int) * x + (b : Int) * y = (Nat.gcd a b : Nat) := by
  intro b
  induction b using Nat.strongRecOn with
  | ind b ih =>
    intro a
    rcases Nat.eq_zero_or_pos b with h | h
    · subst h
      exact ⟨1, 0, by simp⟩
    · obtain ⟨x, y, e⟩ := ih (a % b) (Nat.mod_lt a h) b
      refine ⟨y, x - ((a / b : Nat) : Int) * y, ?_⟩
      have e1 : Nat.gcd a b = Nat.gcd b (a % b) := by rw [Nat.gcd_comm a b, Nat.gcd_rec b a, Nat.gcd_comm]
      have e2 : (a : Int) = (b : Int) * ((a / b : Nat) : Int) + ((a % b : Nat) : Int) := by
        rw [← Int.natCast_mul, ← Int.natCast_add, Nat.div_add_mod]
      rw [e1, ← e]
      generalize ((a / b : Nat) : Int) = u at e2 ⊢
      generalize ((a % b : Nat) : Int) = v at e2 ⊢
      rw [e2]
      grind
theorem Prm.hasInv {p : Int} (h : Prm p) : HasInv p := fun a ha => by
  have hp0 : 0 < p := by have := h.1; omega
  obtain ⟨n, hn⟩ := Int.eq_ofNat_of_zero_le (Int.emod_nonneg a (show p ≠ 0 by omega))
  obtain ⟨q, hq⟩ := Int.eq_ofNat_of_zero_le (show 0 ≤ p by omega)
  obtain ⟨x, y, e⟩ := bez q n
  have hna : ¬ p ∣ (n : Int) := fun hd => ha (by
    have h1 : Cg p a (a % p) := (Cg.emod p a).symm
    rw [hn] at h1
    exact Cg.zero.mp (h1.trans (Cg.zero.mpr hd)))
  have hg := h.gcd hna
  have hg2 : (Nat.gcd n q : Nat) = 1 := by
    have : ((n : Int).gcd p) = Nat.gcd n q := by rw [hq]; rfl
    omega
  rw [hg2] at e
  refine ⟨x % p, Int.emod_nonneg _ (by omega), Int.emod_lt_of_pos _ hp0, ?_⟩
  have h1 : Cg p (a * (x % p)) ((n : Int) * x) := by
    rw [← hn]
    exact (Cg.emod p a).symm.mul (Cg.emod p x)
  refine Cg.trans h1 ⟨-y, ?_⟩
  rw [hq, Int.mul_neg]
  have e' : (n : Int) * x + (q : Int) * y = 1 := e
  omega
def ivM (p a : Int) : Int × Bool := if (prmB p && decide (NumP a) && decide (a % p ≠ 0)) = true then (invF p (a % p), true) else (0, false)
theorem invF_ext {p a g x y : Int} (hp : Prm p) (h : a * x + p * y = g) (hg : g = 1) : invF p a = x % p := by
  have hp0 : 0 < p := by have := hp.1; omega
  refine invF_of hp (Int.emod_nonneg _ (by omega)) (Int.emod_lt_of_pos _ hp0) ?_
  refine ((Cg.refl p a).mul (Cg.emod p x)).trans ⟨-y, ?_⟩
  rw [Int.mul_neg]
  omega
def resL (p : Int) (xs : List Int) : List Int := xs.map fun z => z % p
theorem resL_at {p : Int} {xs : List Int} (k : Nat) : (resL p xs).getD k 0 = xs.getD k 0 % p := by
  unfold resL
  rcases Nat.lt_or_ge k xs.length with h | h
  · simp [List.getD, h]
  · simp [List.getD, List.getElem?_eq_none h]
def redM (r c p : Int) (xs : List Int) : MR := if (isMat r c xs && prmB p) = true then ⟨true, r, c, resL p xs⟩ else MR.no
def CanL (p : Int) (xs : List Int) : Prop := ∀ k, k < xs.length → 0 ≤ xs.getD k 0 ∧ xs.getD k 0 < p
theorem resL_can {p : Int} (hp : 0 < p) (xs : List Int) : CanL p (resL p xs) := fun k _ => by rw [resL_at]; exact res_can hp _
theorem CanL.mx {p : Int} {r c : Nat} {xs : List Int} (h : CanL p xs) (hx : xs.length = r * c) {i j : Nat} (hi : i < r) (hj : j < c) : 0 ≤ mxC c xs i j ∧ mxC c xs i j < p := h _ (by rw [hx]; exact idx_lt hi hj)
theorem CanL.of {p : Int} {r c : Nat} {xs : List Int} (hx : xs.length = r * c) (h : ∀ i j, i < r → j < c → 0 ≤ mxC c xs i j ∧ mxC c xs i j < p) : CanL p xs := fun k hk => by
  rw [hx] at hk
  have hc : 0 < c := by
    rcases Nat.eq_zero_or_pos c with e | e
    · subst e; omega
    · exact e
  have e : k = k / c * c + k % c := by rw [Nat.mul_comm]; exact (Nat.div_add_mod k c).symm
  have := h (k / c) (k % c) (Nat.div_lt_of_lt_mul (by rw [Nat.mul_comm]; exact hk)) (Nat.mod_lt k hc)
  unfold mxC at this
  rw [← e] at this
  exact this
theorem CanL.sw {p : Int} {r c s t : Nat} {xs : List Int} (h : CanL p xs) (hx : xs.length = r * c) (hs : s < r) (ht : t < r) : CanL p (swC s t c xs) := CanL.of (by rw [swC_length]; exact hx) fun i j hi hj => by
  rw [swC_at hx hi hj]
  refine h.mx hx ?_ hj
  split
  · exact ht
  · split <;> omega
theorem CanL.row {p : Int} {r c i : Nat} {v : Nat → Int} {xs : List Int} (h : CanL p xs) (hx : xs.length = r * c) (hv : ∀ q, q < c → 0 ≤ v q ∧ v q < p) : CanL p (rowL r c i v xs) := CanL.of (rowL_length _ _ _ _ _) fun a j ha hj => by
  by_cases e : a = i
  · rw [e, rowL_own (by omega) hj]; exact hv j hj
  · rw [rowL_oth ha hj e]; exact h.mx hx ha hj
end Go.Proofs.YtcapddcmnjeloaaGreatDoor
end

section
/-
  Plain mathematics of chapter 7: the rank of a matrix turned over; products. Nothing of a program is used.
-/
namespace Go.Proofs.YtcapddcmnjeloaaGreatDoor
end Go.Proofs.YtcapddcmnjeloaaGreatDoor
end

section
/-
  Plain mathematics of chapter 7: what the laws ask of echelon forms. Nothing of a program is used.
-/
namespace Go.Proofs.YtcapddcmnjeloaaGreatDoor
end Go.Proofs.YtcapddcmnjeloaaGreatDoor
end

section
/-
  Plain mathematics of chapter 8: what ranks, determinants and inverses over residues are. Nothing of a program is used.
-/
namespace Go.Proofs.YtcapddcmnjeloaaGreatDoor
theorem inc_id {n : Nat} {q : Nat → Nat} (hc : ∀ k, k < n → q k < n) (hi : ∀ k l, k < l → l < n → q k < q l) : ∀ k, k < n → q k = k := by
  have low : ∀ k, k < n → k ≤ q k := by
    intro k
    induction k with
    | zero => intro _; exact Nat.zero_le _
    | succ k ih =>
      intro hk
      have h1 := ih (by omega)
      have h2 := hi k (k + 1) (by omega) hk
      omega
  have up : ∀ m k, k + m + 1 = n → q k ≤ k := by
    intro m
    induction m with
    | zero => intro k hk; have := hc k (by omega); omega
    | succ m ih =>
      intro k hk
      have h1 := ih (k + 1) (by omega)
      have h2 := hi k (k + 1) (by omega) (by omega)
      omega
  intro k hk
  have h1 := low k hk
  have h2 := up (n - k - 1) k (by omega)
  omega
theorem RefP.unit {n : Nat} {A : Mx} {q : Nat → Nat} (h : RefP n n A q n) {i j : Nat} (hi : i < n) (hj : j < n) : A i j = idX i j := by
  have e := inc_id h.col h.inc
  unfold idX
  by_cases hij : i = j
  · rw [if_pos hij]
    have := h.one j hj
    rw [e j hj] at this
    rw [hij]; exact this
  · rw [if_neg hij]
    have := h.only j i hj hi hij
    rw [e j hj] at this
    exact this
def elM (p : Int) (r c : Nat) (xs : List Int) : List Int × List Nat × Int := elP p r c c 0 (resL p xs) [] 1
theorem resL_length (p : Int) (xs : List Int) : (resL p xs).length = xs.length := List.length_map ..
theorem resL_cg {p : Int} {c : Nat} {xs : List Int} (i j : Nat) : Cg p (mxC c (resL p xs) i j) (mxC c xs i j) := by
  unfold mxC
  rw [resL_at]
  exact Cg.emod p _
theorem elM_says {p : Int} (hp : Prm p) {r c : Nat} {xs : List Int} (hx : xs.length = r * c) :
    RefP r c (mxC c (elM p r c xs).1) (fun k => (elM p r c xs).2.1.getD k 0) (elM p r c xs).2.1.length ∧ SubP p r r c (mxC c (elM p r c xs).1) (mxC c xs) ∧ SubP p r r c (mxC c xs) (mxC c (elM p r c xs).1) ∧ (0 ≤ (elM p r c xs).2.2 ∧ (elM p r c xs).2.2 < p) ∧ (r = c → Cg p (det r (mxC c xs)) ((elM p r c xs).2.2 * det r (mxC c (elM p r c xs).1))) := by
  have hp0 : 0 < p := by have := hp.1; omega
  have hr : (resL p xs).length = r * c := by rw [resL_length, hx]
  have st := PInv.start (p := p) (M := mxC c xs) hr (Nat.le_refl c) (fun i q hi hq => (resL_can hp0 xs).mx hr hi hq) (fun i q _ _ => resL_cg i q)
  obtain ⟨⟨j', h1, h2⟩, h3, h4⟩ := PInv.all hp hp.hasInv c 0 (resL p xs) [] 1 (by omega) st ⟨by decide, by have := hp.1; omega⟩
  refine ⟨h1.ref h2, h1.toM, h1.ofM, h3, fun hrc => ?_⟩
  subst hrc
  refine h4 rfl ?_
  unfold DInv
  rw [Int.one_mul]
  exact det_cg fun i j _ _ => (resL_cg i j).symm
theorem elM_det {p : Int} (hp : Prm p) {n : Nat} {xs : List Int} (hx : xs.length = n * n) :
    ((elM p n n xs).2.1.length < n ↔ det n (mxC n xs) % p = 0) ∧ (if (elM p n n xs).2.1.length < n then 0 else (elM p n n xs).2.2) = det n (mxC n xs) % p := by
  have hp0 : 0 < p := by have := hp.1; omega
  obtain ⟨h1, h2, h3, h4, h5⟩ := elM_says hp hx
  have h5 := h5 rfl
  generalize elM p n n xs = E at h1 h2 h3 h4 h5 ⊢
  by_cases hl : E.2.1.length < n
  · have e0 : Cg p (det n (mxC n E.1)) 0 := det_zero_row (i := E.2.1.length) hl fun j hj => Cg.of_eq (h1.rest _ j (Nat.le_refl _) hl hj)
    have e1 : Cg p (det n (mxC n xs)) 0 := h5.trans ((Cg.mul_left _ e0).trans (Cg.of_eq (Int.mul_zero _)))
    have e2 : det n (mxC n xs) % p = 0 := by rw [Cg.emod_eq hp0 e1]; exact Int.zero_emod p
    exact ⟨⟨fun _ => e2, fun _ => hl⟩, by rw [if_pos hl, e2]⟩
  · have hle := h1.le
    have en : E.2.1.length = n := by omega
    rw [en] at h1
    have eu : ∀ i j, i < n → j < n → mxC n E.1 i j = idX i j := fun i j hi hj => h1.unit hi hj
    have ed : det n (mxC n E.1) = 1 := by rw [det_congr (B := idX) eu, det_id]
    rw [ed, Int.mul_one] at h5
    have e1 : det n (mxC n xs) % p = E.2.2 := by
      rw [Cg.emod_eq hp0 h5]
      exact Int.emod_eq_of_lt h4.1 h4.2
    -- the unit matrix is a combination of the rows: the determinant is not 0
    have hK : ∀ i, ∃ k : Nat → Int, i < n → ∀ j, j < n → Cg p (mxC n E.1 i j) (sumN n fun a => k a * mxC n xs a j) := fun i => by
      by_cases hi : i < n
      · obtain ⟨k, hk⟩ := h2 i hi
        exact ⟨k, fun _ => hk⟩
      · exact ⟨fun _ => 0, fun h => absurd h hi⟩
    obtain ⟨K, hKK⟩ := Classical.skolem.mp hK
    have hI : InvX p n (mxC n xs) K := fun i j hi hj => (hKK i hi j hj).symm.trans (Cg.of_eq (eu i j hi hj))
    have hne := hI.ne hp
    refine ⟨⟨fun h => absurd h hl, fun h => absurd ?_ hne⟩, by rw [if_neg hl, e1]⟩
    exact Int.dvd_of_emod_eq_zero h
def wideL (p : Int) (n : Nat) (xs : List Int) : List Int := tab n (2 * n) fun i j => if j < n then (resL p xs).getD (i * n + j) 0 else if j = n + i then 1 else 0
def wideX (n : Nat) (M : Mx) : Mx := fun i j => if j < n then M i j else if j = n + i then 1 else 0
def elW (p : Int) (n : Nat) (xs : List Int) : List Int × List Nat × Int := elP p n (2 * n) n 0 (wideL p n xs) [] 1
def ivL (p : Int) (n : Nat) (xs : List Int) : List Int := tab n n fun i j => (elW p n xs).1.getD (i * (2 * n) + (n + j)) 0
theorem wideL_can {p : Int} (hp : Prm p) {n : Nat} {xs : List Int} (hx : xs.length = n * n) : CanL p (wideL p n xs) := CanL.of (tab_length _ _ _) fun i j hi hj => by
  have hp0 := hp.1
  show 0 ≤ (wideL p n xs).getD (i * (2 * n) + j) 0 ∧ (wideL p n xs).getD (i * (2 * n) + j) 0 < p
  unfold wideL
  rw [tab_at n (2 * n) _ hi hj]
  by_cases h1 : j < n
  · rw [if_pos h1]
    exact resL_can (by omega) xs _ (by rw [resL_length, hx]; exact idx_lt hi h1)
  · rw [if_neg h1]
    split <;> omega
theorem elW_says {p : Int} (hp : Prm p) {n : Nat} {xs : List Int} (hx : xs.length = n * n) :
    RefP n n (mxC (2 * n) (elW p n xs).1) (fun k => (elW p n xs).2.1.getD k 0) (elW p n xs).2.1.length ∧ SubP p n n (2 * n) (mxC (2 * n) (elW p n xs).1) (wideX n (mxC n xs)) ∧ SubP p n n (2 * n) (wideX n (mxC n xs)) (mxC (2 * n) (elW p n xs).1) ∧ (∀ i j, i < n → j < 2 * n → 0 ≤ mxC (2 * n) (elW p n xs).1 i j ∧ mxC (2 * n) (elW p n xs).1 i j < p) := by
  have hp0 : 0 < p := by have := hp.1; omega
  have hl : (wideL p n xs).length = n * (2 * n) := tab_length _ _ _
  have hM : ∀ i q, i < n → q < 2 * n → Cg p (mxC (2 * n) (wideL p n xs) i q) (wideX n (mxC n xs) i q) := fun i q hi hq => by
    have e : mxC (2 * n) (wideL p n xs) i q = if q < n then (resL p xs).getD (i * n + q) 0 else if q = n + i then 1 else 0 := tab_at n (2 * n) _ hi hq
    rw [e]
    unfold wideX
    split
    · exact resL_cg i q
    · exact Cg.refl _ _
  have st := PInv.start (p := p) (M := wideX n (mxC n xs)) hl (by omega : n ≤ 2 * n) (fun i q hi hq => (wideL_can hp hx).mx hl hi hq) hM
  obtain ⟨⟨j', h1, h2⟩, -, -⟩ := PInv.all hp hp.hasInv n 0 (wideL p n xs) [] 1 (by omega) st ⟨by decide, by have := hp.1; omega⟩
  exact ⟨h1.ref h2, h1.toM, h1.ofM, h1.can⟩
theorem elW_inv {p : Int} (hp : Prm p) {n : Nat} {xs : List Int} (hx : xs.length = n * n) :
    ((elW p n xs).2.1.length < n ↔ det n (mxC n xs) % p = 0) ∧ (¬ (elW p n xs).2.1.length < n → InvX p n (mxC n xs) (mxC n (ivL p n xs))) ∧ CanL p (ivL p n xs) ∧ (ivL p n xs).length = n * n := by
  have hp0 : 0 < p := by have := hp.1; omega
  obtain ⟨h1, h2, h3, h4⟩ := elW_says hp hx
  have at_ : ∀ i j, i < n → j < n → mxC n (ivL p n xs) i j = mxC (2 * n) (elW p n xs).1 i (n + j) := fun i j hi hj => tab_at n n _ hi hj
  have can : CanL p (ivL p n xs) := CanL.of (tab_length _ _ _) fun i j hi hj => by rw [at_ i j hi hj]; exact h4 i (n + j) hi (by omega)
  have inv : ¬ (elW p n xs).2.1.length < n → InvX p n (mxC n xs) (mxC n (ivL p n xs)) := fun hl i j hi hj => by
    have hle := h1.le
    have en : (elW p n xs).2.1.length = n := by omega
    rw [en] at h1
    obtain ⟨k, hk⟩ := h2 i hi
    have e1 : ∀ b, b < n → Cg p (mxC n (ivL p n xs) i b) (k b) := fun b hb => by
      rw [at_ i b hi hb]
      refine (hk (n + b) (by omega)).trans (Cg.of_eq ?_)
      rw [sumN_one (a := b) hb (fun a ha hne => by unfold wideX; rw [if_neg (by omega), if_neg (by omega), Int.mul_zero])]
      unfold wideX
      rw [if_neg (by omega), if_pos rfl, Int.mul_one]
    have e2 : Cg p (mxC (2 * n) (elW p n xs).1 i j) (sumN n fun a => k a * mxC n xs a j) := (hk j (by omega)).trans (Cg.of_eq (sumN_congr fun a _ => by unfold wideX; rw [if_pos hj]))
    rw [h1.unit hi hj] at e2
    exact (Cg.trans (Cg.sum fun a ha => (e1 a ha).mul (Cg.refl p _)) e2.symm)
  refine ⟨?_, inv, can, tab_length _ _ _⟩
  by_cases hl : (elW p n xs).2.1.length < n
  · refine ⟨fun _ => ?_, fun _ => hl⟩
    have hK : ∀ i, ∃ k : Nat → Int, i < n → ∀ j, j < 2 * n → Cg p (wideX n (mxC n xs) i j) (sumN n fun a => k a * mxC (2 * n) (elW p n xs).1 a j) := fun i => by
      by_cases hi : i < n
      · obtain ⟨k, hk⟩ := h3 i hi
        exact ⟨k, fun _ => hk⟩
      · exact ⟨fun _ => 0, fun h => absurd h hi⟩
    obtain ⟨K, hKK⟩ := Classical.skolem.mp hK
    have e1 : Cg p (det n (mxC n xs)) (det n (mulX n K (mxC (2 * n) (elW p n xs).1))) := det_cg fun i j hi hj => by
      have := hKK i hi j (by omega)
      unfold wideX at this
      rw [if_pos hj] at this
      exact this
    rw [det_mul] at e1
    have e0 : Cg p (det n (mxC (2 * n) (elW p n xs).1)) 0 := det_zero_row (i := (elW p n xs).2.1.length) hl fun j hj => Cg.of_eq (h1.rest _ j (Nat.le_refl _) hl hj)
    have e2 : Cg p (det n (mxC n xs)) 0 := e1.trans ((Cg.mul_left _ e0).trans (Cg.of_eq (Int.mul_zero _)))
    rw [Cg.emod_eq hp0 e2]
    exact Int.zero_emod p
  · exact ⟨fun h => absurd h hl, fun h => absurd (Int.dvd_of_emod_eq_zero h) ((inv hl).ne hp)⟩
end Go.Proofs.YtcapddcmnjeloaaGreatDoor
end

section
/-
  Plain mathematics of chapter 11: what IsRational, SolveByDeterminants and SolveByEchelon answer, and that they agree.
-/
namespace Go.Proofs.YtcapddcmnjeloaaGreatDoor
def wdX (n : Nat) (M : Mx) (b : Nat → Int) : Mx := fun i j => if j < n then M i j else b i
theorem RSol.echelon {n : Nat} {M A : Mx} {b : Nat → Int} {z : Nat → Int × Int} (ho : ∀ k i, k < n → i < n → i ≠ k → A i k = 0) (hs : SubSp n n (n + 1) (wdX n M b) A) (hz : ∀ i, i < n → RatQ (z i) ∧ A i n * (z i).2 = (z i).1 * A i i) : RSol n n M b z where
  rat := fun j hj => (hz j hj).1
  sol := fun D y hy i hi => by
    have e : ∀ j, j < n → A j j * y j = D * A j n := fun j hj => by
      have e1 := hy j hj
      obtain ⟨h1, h2⟩ := hz j hj
      refine Int.eq_of_mul_eq_mul_right (show (z j).2 ≠ 0 by have := h1.1; omega) ?_
      calc A j j * y j * (z j).2 = A j j * (y j * (z j).2) := by grind
        _ = A j j * ((z j).1 * D) := by rw [e1]
        _ = D * ((z j).1 * A j j) := by grind
        _ = D * (A j n * (z j).2) := by rw [h2]
        _ = D * A j n * (z j).2 := by grind
    obtain ⟨d, k, hd, hk⟩ := hs i hi
    have e1 : ∀ j, j < n → d * M i j = k j * A j j := fun j hj => by
      have := hk j (by omega)
      unfold wdX at this
      rw [if_pos hj] at this
      rw [this, sumN_one (a := j) hj fun l hl hne => by rw [ho j l hj hl hne, Int.mul_zero]]
    have e2 : d * b i = sumN n fun l => k l * A l n := by
      have := hk n (by omega)
      unfold wdX at this
      rw [if_neg (Nat.lt_irrefl n)] at this
      exact this
    refine Int.eq_of_mul_eq_mul_left hd ?_
    calc d * (sumN n fun j => M i j * y j) = sumN n fun j => d * (M i j * y j) := sumN_mul_left _ _ _
      _ = sumN n fun j => D * (k j * A j n) := sumN_congr fun j hj => by
          rw [← Int.mul_assoc, e1 j hj, Int.mul_assoc, e j hj]; grind
      _ = D * sumN n fun j => k j * A j n := (sumN_mul_left _ _ _).symm
      _ = D * (d * b i) := by rw [e2]
      _ = d * (D * b i) := by grind
def sysB (r c : Int) (xs bs : List Int) : Bool := isSq r c xs && decide ((bs.length : Int) = r) && nums bs
theorem sysB_says {r c : Int} {xs bs : List Int} (h : sysB r c xs bs = true) : ∃ n : Nat, r = n ∧ c = n ∧ n ≤ 6 ∧ xs.length = n * n ∧ nums xs = true ∧ bs.length = n ∧ nums bs = true := by
  unfold sysB at h
  simp only [Bool.and_eq_true, decide_eq_true_eq] at h
  obtain ⟨n, rfl, rfl, h6, hl, hn⟩ := isSq_says h.1.1
  exact ⟨n, rfl, rfl, h6, hl, hn, by omega, h.2⟩
theorem sysB_true {r c : Int} {xs bs : List Int} (h1 : isSq r c xs = true) (h2 : (bs.length : Int) = r) (h3 : nums bs = true) : sysB r c xs bs = true := by
  unfold sysB; rw [h1, decide_eq_true h2, h3]; rfl
theorem sysB_false {r c : Int} {xs bs : List Int} (h : isSq r c xs = false ∨ (bs.length : Int) ≠ r ∨ nums bs = false) : sysB r c xs bs = false := by
  unfold sysB
  rcases h with h | h | h
  · rw [h]; rfl
  · rw [decide_eq_false h, Bool.and_false]; rfl
  · rw [h, Bool.and_false]
def atR (zs : List (Int × Int)) (j : Nat) : Int × Int := zs.getD j (0, 0)
theorem atR_map {n : Nat} {f : Nat → Int × Int} {j : Nat} (hj : j < n) : atR ((List.range n).map f) j = f j := by
  simp [atR, List.getD, hj]
def rowB (c : Nat) (xs bs : List Int) (zs : List (Int × Int)) (i : Nat) : Bool := decide (sumR (mxC c xs i) (atR zs) c = (bs.getD i 0, 1))
def irB (r c : Int) (xs bs : List Int) (zs : List (Int × Int)) : Bool := isMat r c xs && decide ((bs.length : Int) = r) && decide ((zs.length : Int) = c) && (List.range r.toNat).all (rowB c.toNat xs bs zs)
theorem irB_false {r c : Int} {xs bs : List Int} {zs : List (Int × Int)} (h : isMat r c xs = false ∨ (bs.length : Int) ≠ r ∨ (zs.length : Int) ≠ c) : irB r c xs bs zs = false := by
  unfold irB
  rcases h with h | h | h
  · rw [h]; rfl
  · rw [decide_eq_false h, Bool.and_false]; rfl
  · rw [decide_eq_false h, Bool.and_false]; rfl
theorem irB_row {r c i : Nat} {xs bs : List Int} {zs : List (Int × Int)} (hi : i < r) (h : rowB c xs bs zs i = false) : irB r c xs bs zs = false := by
  cases hb : irB r c xs bs zs with
  | false => rfl
  | true =>
    unfold irB at hb
    rw [Bool.and_eq_true, List.all_eq_true] at hb
    have := hb.2 i (List.mem_range.mpr hi)
    rw [show (c : Int).toNat = c from rfl, h] at this
    cases this
theorem irB_true {r c : Nat} {xs bs : List Int} {zs : List (Int × Int)} (h1 : isMat r c xs = true) (h2 : bs.length = r) (h3 : zs.length = c) (h : ∀ i, i < r → rowB c xs bs zs i = true) : irB r c xs bs zs = true := by
  unfold irB
  rw [h1, decide_eq_true (show (bs.length : Int) = r by omega), decide_eq_true (show (zs.length : Int) = c by omega)]
  exact List.all_eq_true.mpr fun i hi => h i (List.mem_range.mp hi)
theorem irB_says {r c : Int} {xs bs : List Int} {zs : List (Int × Int)} (h : irB r c xs bs zs = true) : ∃ R C : Nat, r = R ∧ c = C ∧ R ≤ 24 ∧ C ≤ 24 ∧ isMat r c xs = true ∧ bs.length = R ∧ zs.length = C ∧ ((0 < R ∨ C = 0) → RSol R C (mxC C xs) (fun i => bs.getD i 0) (atR zs)) := by
  unfold irB at h
  simp only [Bool.and_eq_true, decide_eq_true_eq, List.all_eq_true] at h
  obtain ⟨⟨⟨h1, h2⟩, h3⟩, h4⟩ := h
  obtain ⟨⟨r0, r1⟩, ⟨c0, c1⟩, -, -⟩ := isMat_says h1
  obtain ⟨R, rfl⟩ := Int.eq_ofNat_of_zero_le r0
  obtain ⟨C, rfl⟩ := Int.eq_ofNat_of_zero_le c0
  refine ⟨R, C, rfl, rfl, by omega, by omega, h1, by omega, by omega, fun hr => RSol.sums hr fun i hi => ?_⟩
  have := h4 i (List.mem_range.mpr hi)
  unfold rowB at this
  exact of_decide_eq_true this
theorem irB_sol {n : Nat} {xs bs : List Int} {zs : List (Int × Int)} (h : irB n n xs bs zs = true) : zs.length = n ∧ RSol n n (mxC n xs) (fun i => bs.getD i 0) (atR zs) := by
  obtain ⟨R, C, h1, h2, -, -, -, -, h3, h4⟩ := irB_says h
  obtain rfl : n = R := by omega
  obtain rfl : n = C := by omega
  exact ⟨h3, h4 (by omega)⟩
def rcL (n : Nat) (xs bs : List Int) (j : Nat) : List Int := tab n n fun i k => if k = j then bs.getD i 0 else xs.getD (i * n + k) 0
theorem rcL_length (n : Nat) (xs bs : List Int) (j : Nat) : (rcL n xs bs j).length = n * n := tab_length _ _ _
theorem rcL_rcX (n : Nat) (xs bs : List Int) (j : Nat) : EqX n (mxL n (rcL n xs bs j)) (rcX (mxL n xs) j fun i => bs.getD i 0) := fun i k hi hk => by
  unfold rcL
  rw [mxL_tab n _ i k hi hk]
  rfl
def sdX (r c : Int) (xs bs : List Int) : List (Int × Int) × Bool := if (sysB r c xs bs && (detOf r c xs).2 && decide ((detOf r c xs).1 ≠ 0) && (List.range r.toNat).all fun j => (detOf r c (rcL r.toNat xs bs j)).2) = true then ((List.range r.toNat).map fun j => mkRat (detOf r c (rcL r.toNat xs bs j)).1 (detOf r c xs).1, true) else ([], false)
theorem sdX_no {r c : Int} {xs bs : List Int} (h : sysB r c xs bs = false ∨ (detOf r c xs).2 = false ∨ (detOf r c xs).1 = 0) : sdX r c xs bs = ([], false) := by
  unfold sdX
  rcases h with h | h | h
  · rw [h]; rfl
  · rw [h, Bool.and_false]; rfl
  · rw [decide_eq_false (fun e => e h), Bool.and_false]; rfl
theorem sdX_bad {n j : Nat} {xs bs : List Int} (hj : j < n) (h : (detOf n n (rcL n xs bs j)).2 = false) : sdX n n xs bs = ([], false) := by
  unfold sdX
  refine if_neg fun h2 => ?_
  rw [Bool.and_eq_true, List.all_eq_true] at h2
  have := h2.2 j (List.mem_range.mpr hj)
  rw [show (n : Int).toNat = n from rfl, h] at this
  cases this
def sdUp (n : Nat) (xs bs : List Int) (d : Int) (j : Nat) : List (Int × Int) := (List.range j).map fun k => mkRat (detOf n n (rcL n xs bs k)).1 d
theorem sdUp_succ (n : Nat) (xs bs : List Int) (d : Int) (j : Nat) : sdUp n xs bs d (j + 1) = sdUp n xs bs d j ++ [mkRat (detOf n n (rcL n xs bs j)).1 d] := by simp [sdUp, List.range_succ]
theorem sdX_yes {n : Nat} {xs bs : List Int} (h1 : sysB n n xs bs = true) (h2 : (detOf n n xs).2 = true) (h3 : (detOf n n xs).1 ≠ 0) (h4 : ∀ j, j < n → (detOf n n (rcL n xs bs j)).2 = true) : sdX n n xs bs = (sdUp n xs bs (detOf n n xs).1 n, true) := by
  unfold sdX
  refine if_pos ?_
  rw [h1, h2, decide_eq_true h3]
  exact List.all_eq_true.mpr fun j hj => h4 j (List.mem_range.mp hj)
theorem mkRat_num {n d : Int} (hn : NumP n) (hd : NumP d) (h0 : d ≠ 0) : RatQ (mkRat n d) ∧ n * (mkRat n d).2 = (mkRat n d).1 * d := by
  rw [mkRat_in ⟨hn, hd⟩]
  obtain ⟨b1, b2, b3, b4⟩ := low_bd n d h0
  have f : Fits (lowN n d) (lowD n d) := by
    unfold NumP at hn hd
    refine ⟨by omega, by omega, by omega, by omega⟩
  obtain ⟨e, hr⟩ := low_fits h0 f
  rw [e]
  exact ⟨hr, (low_says e hr).2⟩
theorem sdX_says {r c : Int} {xs bs : List Int} (h : (sdX r c xs bs).2 = true) : ∃ n : Nat, r = n ∧ c = n ∧ n ≤ 6 ∧ sysB r c xs bs = true ∧ (detOf r c xs).2 = true ∧ det n (mxL n xs) ≠ 0 ∧ (sdX r c xs bs).1.length = n ∧ RSol n n (mxL n xs) (fun i => bs.getD i 0) (atR (sdX r c xs bs).1) := by
  by_cases hh : (sysB r c xs bs && (detOf r c xs).2 && decide ((detOf r c xs).1 ≠ 0) && (List.range r.toNat).all fun j => (detOf r c (rcL r.toNat xs bs j)).2) = true
  rotate_left
  · unfold sdX at h; rw [if_neg hh] at h; cases h
  simp only [Bool.and_eq_true, decide_eq_true_eq, List.all_eq_true] at hh
  obtain ⟨⟨⟨h1, h2⟩, h3⟩, h4⟩ := hh
  obtain ⟨n, rfl, rfl, h6, hl, hn, hb, hm⟩ := sysB_says h1
  have h4 : ∀ j, j < n → (detOf n n (rcL n xs bs j)).2 = true := fun j hj => h4 j (List.mem_range.mpr hj)
  have ed : ∀ ys : List Int, (detOf n n ys).2 = true → (detOf n n ys).1 = det n (mxL n ys) := fun ys hy => by
    obtain ⟨m, hm, -, -, -, -, -, -, e⟩ := detOf_says rfl hy
    obtain rfl : n = m := by omega
    exact e
  have hd : det n (mxL n xs) ≠ 0 := by rw [← ed xs h2]; exact h3
  rw [sdX_yes h1 h2 h3 h4]
  refine ⟨n, rfl, rfl, h6, h1, h2, hd, by simp [sdUp], RSol.cramer hd fun j hj => ?_⟩
  show RatQ (atR (sdUp n xs bs (detOf n n xs).1 n) j) ∧ _ * (atR (sdUp n xs bs (detOf n n xs).1 n) j).2 = (atR (sdUp n xs bs (detOf n n xs).1 n) j).1 * _
  unfold sdUp
  rw [atR_map hj, ← det_congr (rcL_rcX n xs bs j), ← ed _ (h4 j hj), ← ed _ h2]
  exact mkRat_num (detOf_num _ _ _) (detOf_num _ _ _) h3
def wdL (n : Nat) (xs bs : List Int) : List Int := tab n (n + 1) fun i j => if j < n then xs.getD (i * n + j) 0 else bs.getD i 0
theorem wdL_length (n : Nat) (xs bs : List Int) : (wdL n xs bs).length = n * (n + 1) := tab_length _ _ _
theorem wdL_nums {n : Nat} {xs bs : List Int} (hx : xs.length = n * n) (hn : nums xs = true) (hb : bs.length = n) (hm : nums bs = true) : nums (wdL n xs bs) = true := tab_nums fun i k hi hk => by
  split
  · next h => exact nums_at hn (by rw [hx]; exact idx_lt hi h)
  · exact nums_at hm (by omega)
def fullB (n : Nat) (pv : List Nat) : Bool := decide (n ≤ pv.length) && decide (0 < n → pv.getD (n - 1) 0 ≠ n)
def seUp (n : Nat) (ys : List Int) (i : Nat) : List (Int × Int) := (List.range i).map fun k => mkRat (ys.getD (k * (n + 1) + n) 0) (ys.getD (k * (n + 1) + k) 0)
theorem seUp_succ (n : Nat) (ys : List Int) (i : Nat) : seUp n ys (i + 1) = seUp n ys i ++ [mkRat (ys.getD (i * (n + 1) + n) 0) (ys.getD (i * (n + 1) + i) 0)] := by simp [seUp, List.range_succ]
def seX (r c : Int) (xs bs : List Int) : List (Int × Int) × Bool := if sysB r c xs bs = true then (match echM r.toNat (r.toNat + 1) (wdL r.toNat xs bs) with | some (ys, pv) => if fullB r.toNat pv = true then (seUp r.toNat ys r.toNat, true) else ([], false) | none => ([], false)) else ([], false)
theorem seX_sys {r c : Int} {xs bs : List Int} (h : sysB r c xs bs = false) : seX r c xs bs = ([], false) := by
  unfold seX; rw [h]; rfl
theorem seX_none {n : Nat} {xs bs : List Int} (h : sysB n n xs bs = true) (he : echM n (n + 1) (wdL n xs bs) = none) : seX n n xs bs = ([], false) := by
  unfold seX; rw [if_pos h]
  show (match echM n (n + 1) (wdL n xs bs) with | some (ys, pv) => if fullB n pv = true then (seUp n ys n, true) else ([], false) | none => ([], false)) = _
  rw [he]
theorem seX_some {n : Nat} {xs bs ys : List Int} {pv : List Nat} (h : sysB n n xs bs = true) (he : echM n (n + 1) (wdL n xs bs) = some (ys, pv)) : seX n n xs bs = if fullB n pv = true then (seUp n ys n, true) else ([], false) := by
  unfold seX; rw [if_pos h]
  show (match echM n (n + 1) (wdL n xs bs) with | some (ys, pv) => if fullB n pv = true then (seUp n ys n, true) else ([], false) | none => ([], false)) = _
  rw [he]
theorem seX_says {r c : Int} {xs bs : List Int} (h : (seX r c xs bs).2 = true) : ∃ n : Nat, r = n ∧ c = n ∧ n ≤ 6 ∧ sysB r c xs bs = true ∧ (seX r c xs bs).1.length = n ∧ RSol n n (mxL n xs) (fun i => bs.getD i 0) (atR (seX r c xs bs).1) := by
  cases hs : sysB r c xs bs with
  | false => rw [seX_sys hs] at h; cases h
  | true =>
    obtain ⟨n, rfl, rfl, h6, hl, hn, hb, hm⟩ := sysB_says hs
    cases he : echM n (n + 1) (wdL n xs bs) with
    | none => rw [seX_none hs he] at h; cases h
    | some p =>
      obtain ⟨ys, pv⟩ := p
      rw [seX_some hs he] at h ⊢
      by_cases hf : fullB n pv = true
      rotate_left
      · rw [if_neg hf] at h; cases h
      rw [if_pos hf]
      unfold fullB at hf
      simp only [Bool.and_eq_true, decide_eq_true_eq] at hf
      obtain ⟨E, -, S, hy, hyn, -⟩ := echM_says (wdL_length n xs bs) (wdL_nums hl hn hb hm) he
      have ht : pv.length = n := by have := E.le; omega
      rw [ht] at E
      have hp : ∀ k, k < n → pv.getD k 0 = k := inc_id (fun k hk => by
        have h1 := E.col (n - 1) (by omega)
        have h2 := hf.2 (by omega)
        have h1 : pv.getD (n - 1) 0 < n + 1 := h1
        rcases Nat.lt_or_ge k (n - 1) with h3 | h3
        · have h4 : pv.getD k 0 < pv.getD (n - 1) 0 := E.inc k (n - 1) h3 (by omega)
          omega
        · obtain rfl : k = n - 1 := by omega
          omega) E.inc
      refine ⟨n, rfl, rfl, h6, rfl, by simp [seUp], ?_⟩
      have hpos : ∀ k, k < n → 0 < mxC (n + 1) ys k k := fun k hk => by
        have := E.pos k hk
        rwa [hp k hk] at this
      refine RSol.echelon (A := mxC (n + 1) ys) (fun k i hk hi hne => ?_) (fun i hi => (S i hi).congr fun j hj => ?_) fun i hi => ?_
      · have := E.only k i hk hi hne
        rwa [hp k hk] at this
      · unfold wdL
        rw [mxC_tab hi hj]
        rfl
      · unfold seUp
        rw [atR_map hi]
        have h0 := hpos i hi
        exact mkRat_num (mx_nums hy hyn hi (by omega)) (mx_nums hy hyn hi (by omega)) (by show mxC (n + 1) ys i i ≠ 0; omega)
theorem same_list {n : Nat} {zs ws : List (Int × Int)} (h1 : zs.length = n) (h2 : ws.length = n) (h : ∀ j, j < n → atR zs j = atR ws j) : zs = ws := by
  refine List.ext_getElem (by omega) fun j a b => ?_
  have := h j (by omega)
  unfold atR at this
  simpa [List.getD, a, b] using this
theorem sd_se {r c : Int} {xs bs : List Int} (h1 : (sdX r c xs bs).2 = true) (h2 : (seX r c xs bs).2 = true) : (sdX r c xs bs).1 = (seX r c xs bs).1 := by
  obtain ⟨n, hn, -, -, -, -, hd, l1, s1⟩ := sdX_says h1
  obtain ⟨m, hm, -, -, -, l2, s2⟩ := seX_says h2
  obtain rfl : n = m := by omega
  exact same_list l1 l2 (s1.uniq hd s2)
theorem sd_ir {r c : Int} {xs bs : List Int} {zs : List (Int × Int)} (h1 : (sdX r c xs bs).2 = true) (h2 : irB r c xs bs zs = true) : (sdX r c xs bs).1 = zs := by
  obtain ⟨n, rfl, rfl, -, -, -, hd, l1, s1⟩ := sdX_says h1
  obtain ⟨l2, s2⟩ := irB_sol h2
  exact same_list l1 l2 (s1.uniq hd s2)
theorem se_ir {n : Nat} {xs bs : List Int} {zs : List (Int × Int)} (hd : det n (mxL n xs) ≠ 0) (h1 : (seX n n xs bs).2 = true) (h2 : irB n n xs bs zs = true) : (seX n n xs bs).1 = zs := by
  obtain ⟨m, hm, -, -, -, l1, s1⟩ := seX_says h1
  obtain rfl : n = m := by omega
  obtain ⟨l2, s2⟩ := irB_sol h2
  exact same_list l1 l2 (s1.uniq hd s2)
end Go.Proofs.YtcapddcmnjeloaaGreatDoor
end

section
/-
  Plain mathematics of chapter 8: what solutions over residues are, and what the composed laws of the chapter say of them. Nothing of a program is used.
-/
namespace Go.Proofs.YtcapddcmnjeloaaGreatDoor
def slF (p : Int) (u b : Nat → Int) : Nat → Int
  | 0 => 0
  | m + 1 => (slF p u b m + u m * (b m % p)) % p
theorem slF_can {p : Int} (hp : 0 < p) (u b : Nat → Int) : ∀ m, 0 ≤ slF p u b m ∧ slF p u b m < p
  | 0 => ⟨Int.le_refl _, hp⟩
  | m + 1 => ⟨Int.emod_nonneg _ (by omega), Int.emod_lt_of_pos _ hp⟩
theorem slF_cg {p : Int} (u b : Nat → Int) : ∀ m, Cg p (slF p u b m) (sumN m fun j => u j * b j)
  | 0 => Cg.refl _ _
  | m + 1 => (Cg.emod p _).trans ((slF_cg u b m).add ((Cg.refl p _).mul (Cg.emod p _)))
def solL (p : Int) (n : Nat) (vs bs : List Int) : List Int := (List.range n).map fun i => slF p (fun j => vs.getD (i * n + j) 0) (fun j => bs.getD j 0) n
theorem solL_length (p : Int) (n : Nat) (vs bs : List Int) : (solL p n vs bs).length = n := by unfold solL; rw [List.length_map, List.length_range]
theorem solL_at {p : Int} {n : Nat} {vs bs : List Int} {i : Nat} (hi : i < n) : (solL p n vs bs).getD i 0 = slF p (fun j => mxC n vs i j) (fun j => bs.getD j 0) n := by
  unfold solL mxC
  simp [List.getD, hi]
theorem solL_can {p : Int} (hp : 0 < p) {n : Nat} {vs bs : List Int} {i : Nat} (hi : i < n) : 0 ≤ (solL p n vs bs).getD i 0 ∧ (solL p n vs bs).getD i 0 < p := by
  rw [solL_at hi]
  exact slF_can hp _ _ _
end Go.Proofs.YtcapddcmnjeloaaGreatDoor
end

section
/-
  Chapter 1, in the model: GcdOf.
-/
namespace Go.Proofs.YtcapddcmnjeloaaGreatDoor
open Go.RowKit
set_option maxHeartbeats 400000 in
theorem sGcd (a b : Int) (w : World) (ha : -400000000 ≤ a ∧ a ≤ 400000000) (hb : -400000000 ≤ b ∧ b ≤ 400000000) :
    Calls Tryz.prog 143 #[.int .i64 a, .int .i64 b] w fun e w' => e = .returned (.int .i64 (Int.gcd a b : Int)) ∧ ∃ n, w' = w.drewN n := by
  obtain ⟨ha1, ha2⟩ := ha
  obtain ⟨hb1, hb2⟩ := hb
  go_enter Tryz.func143, Tryz.ntmps143
  go_wp2_with (go_at_call 56; refine (sIsNum_t _ _ (by omega) (by omega)).mono ?_; rintro e w' ⟨rfl, rfl⟩)
  go_loopw [0, 1] (fun x y wr => ∃ p q : Int, x = .int .i64 p ∧ y = .int .i64 q ∧ -400000000 ≤ p ∧ p ≤ 400000000 ∧ -400000000 ≤ q ∧ q ≤ 400000000 ∧ Int.gcd p q = Int.gcd a b ∧ ∃ n, wr = w.drewN n) (fun _ y _ => (intOf y).natAbs)
  case atStart => exact ⟨a, b, rfl, rfl, ha1, ha2, hb1, hb2, rfl, 0, rfl⟩
  case round =>
    obtain ⟨p, q, rfl, rfl, p1, p2, q1, q2, hg, n, rfl⟩ := hrel
    have HG := Lib.hid hg
    clear hg
    by_cases hq : q = 0
    · subst hq
      go_wp2
      all_goals
        go_ret
        exact ⟨by rw [← HG.out, Int.gcd_zero_right]; exact ret_int (by omega), n, rfl⟩
    · have t1 := tmod_small p q hq
      have t2 := gcd_round p q
      have b1 : -400000000 ≤ p.tmod q := by omega
      have b2 : p.tmod q ≤ 400000000 := by omega
      have T1 := Lib.hid t1
      have T2 := Lib.hid t2
      clear t1 t2
      have hq' : (q == 0) = false := by simpa using hq
      go_wp2
      go_quiet (fail)
      go_wp2
      go_roundw
      case rel => exact ⟨q, p.tmod q, rfl, rfl, q1, q2, b1, b2, T2.out.trans HG.out, _, by rw [World.drewN_drewN]⟩
      case measure => simpa [intOf] using T1.out
end Go.Proofs.YtcapddcmnjeloaaGreatDoor
end

section
/-
  Chapter 1, in the program: greatestDivisor.
-/
namespace Go.Proofs.YtcapddcmnjeloaaGreatDoor
open Go.RowKit
set_option maxHeartbeats 400000 in
theorem iGD (a b : Int) (w : World) (ha : -9000000000000000000 ≤ a ∧ a ≤ 9000000000000000000) (hb : -9000000000000000000 ≤ b ∧ b ≤ 9000000000000000000) :
    Calls Tryz.prog 142 #[.int .i64 a, .int .i64 b] w fun e w' => e = .returned (.int .i64 (Int.gcd a b : Int)) ∧ ∃ n, w' = w.drewN n := by
  obtain ⟨ha1, ha2⟩ := ha
  obtain ⟨hb1, hb2⟩ := hb
  go_enter Tryz.func142, Tryz.ntmps142
  go_wp2_with fail
  go_loopw [0, 1] (fun x y wr => ∃ p q : Int, x = .int .i64 p ∧ y = .int .i64 q ∧ -9000000000000000000 ≤ p ∧ p ≤ 9000000000000000000 ∧ -9000000000000000000 ≤ q ∧ q ≤ 9000000000000000000 ∧ Int.gcd p q = Int.gcd a b ∧ ∃ n, wr = w.drewN n) (fun _ y _ => (intOf y).natAbs)
  case atStart => exact ⟨a, b, rfl, rfl, ha1, ha2, hb1, hb2, rfl, 0, rfl⟩
  case round =>
    obtain ⟨p, q, rfl, rfl, p1, p2, q1, q2, hg, n, rfl⟩ := hrel
    have HG := Lib.hid hg
    clear hg
    by_cases hq : q = 0
    · subst hq
      go_wp2
      all_goals
        go_ret
        exact ⟨by rw [← HG.out, Int.gcd_zero_right]; exact ret_int (by omega), n, rfl⟩
    · have t1 := tmod_small p q hq
      have t2 := gcd_round p q
      have b1 : -9000000000000000000 ≤ p.tmod q := by omega
      have b2 : p.tmod q ≤ 9000000000000000000 := by omega
      have T1 := Lib.hid t1
      have T2 := Lib.hid t2
      clear t1 t2
      have hq' : (q == 0) = false := by simpa using hq
      go_wp2
      go_quiet (fail)
      go_wp2
      go_roundw
      case rel => exact ⟨q, p.tmod q, rfl, rfl, q1, q2, b1, b2, T2.out.trans HG.out, _, by rw [World.drewN_drewN]⟩
      case measure => simpa [intOf] using T1.out
end Go.Proofs.YtcapddcmnjeloaaGreatDoor
end

section
/-
  Chapter 1, in the program: GcdOf.
-/
namespace Go.Proofs.YtcapddcmnjeloaaGreatDoor
open Go.RowKit
theorem iGcd (a b : Int) (w : World) (ha : -400000000 ≤ a ∧ a ≤ 400000000) (hb : -400000000 ≤ b ∧ b ≤ 400000000) :
    Calls Tryz.prog 153 #[.int .i64 a, .int .i64 b] w fun e w' => e = .returned (.int .i64 (Int.gcd a b : Int)) ∧ ∃ n, w' = w.drewN n := by
  go_enter Tryz.func153, Tryz.ntmps153
  go_wp2_with fail
  refine (iIsNum_t _ _ ha.1 ha.2).mono ?_
  rintro e w' ⟨rfl, rfl⟩
  go_wp2_with fail
  refine (iIsNum_t _ _ hb.1 hb.2).mono ?_
  rintro e w' ⟨rfl, rfl⟩
  go_wp2_with fail
  refine (iGD a b _ (by omega) (by omega)).mono ?_
  rintro e w' ⟨rfl, n, rfl⟩
  go_wp2_with fail
  go_ret
  exact ⟨rfl, n, rfl⟩
end Go.Proofs.YtcapddcmnjeloaaGreatDoor
end

section
/-
  The model's quotient rounded down.
-/
namespace Go.Proofs.YtcapddcmnjeloaaGreatDoor
open Go.RowKit
end Go.Proofs.YtcapddcmnjeloaaGreatDoor
end

section
/-
  Chapter 1: Euclid's algorithm with coefficients, in the model and in the program.
-/
namespace Go.Proofs.YtcapddcmnjeloaaGreatDoor
open Go.RowKit
def egOut (r : Int × Int × Int) : Int × Int × Int := if r.1 < 0 then (-r.1, -r.2.1, -r.2.2) else r
def egAns (a b : Int) : Int × Int × Int := egOut (eg a 1 0 b 0 1)
def egVal (r : Int × Int × Int) : Value := .tuple #[.int .i64 r.1, .int .i64 r.2.1, .int .i64 r.2.2, .bool true]
theorem eg_neg {a b g x y : Int} (h : eg a 1 0 b 0 1 = (g, x, y)) (hg : g < 0) : egVal (egAns a b) = .tuple #[.int .i64 (-g), .int .i64 (-x), .int .i64 (-y), .bool true] := by
  unfold egAns; rw [h]; simp [egOut, hg, egVal]
theorem eg_pos {a b g x y : Int} (h : eg a 1 0 b 0 1 = (g, x, y)) (hg : ¬ g < 0) : egVal (egAns a b) = .tuple #[.int .i64 g, .int .i64 x, .int .i64 y, .bool true] := by
  unfold egAns; rw [h]; simp [egOut, hg, egVal]
set_option maxHeartbeats 400000 in
theorem sExt (a b : Int) (w : World) (ha : -400000000 ≤ a ∧ a ≤ 400000000) (hb : -400000000 ≤ b ∧ b ≤ 400000000) :
    Calls Tryz.prog 183 #[.int .i64 a, .int .i64 b] w fun e w' => e = .returned (egVal (egAns a b)) ∧ ∃ n, w' = w.drewN n := by
  have i0 := Inv.start a b ha hb
  have A := Lib.hid ha
  have B := Lib.hid hb
  have I0 := Lib.hid i0
  clear i0
  obtain ⟨ha1, ha2⟩ := ha
  obtain ⟨hb1, hb2⟩ := hb
  go_enter Tryz.func183, Tryz.ntmps183
  go_wp2_with (go_at_call 56; refine (sIsNum_t _ _ (by omega) (by omega)).mono ?_; rintro e w' ⟨rfl, rfl⟩)
  go_loopw [8, 9, 10, 11, 12, 13] (fun sg sx sy sh su sv wr => ∃ g x y h u v : Int, sg = .int .i64 g ∧ sx = .int .i64 x ∧ sy = .int .i64 y ∧ sh = .int .i64 h ∧ su = .int .i64 u ∧ sv = .int .i64 v ∧ Inv a b g x y h u v ∧ eg g x y h u v = eg a 1 0 b 0 1 ∧ ∃ n, wr = w.drewN n) (fun _ _ _ sh _ _ _ => (intOf sh).natAbs)
  case atStart => exact ⟨a, 1, 0, b, 0, 1, rfl, rfl, rfl, rfl, rfl, rfl, I0.out, rfl, 0, rfl⟩
  case round =>
    obtain ⟨g, x, y, h, u, v, rfl, rfl, rfl, rfl, rfl, rfl, i, hE, n, rfl⟩ := hrel
    have HE := Lib.hid hE
    have I := Lib.hid i
    clear hE
    have ⟨g1, g2⟩ := i.g0
    have ⟨h1, h2⟩ := i.h0
    have ⟨x1, x2⟩ := i.x0
    have ⟨y1, y2⟩ := i.y0
    have ⟨u1, u2⟩ := i.u0
    have ⟨v1, v2⟩ := i.v0
    clear i
    by_cases hh : h = 0
    · subst hh
      have HE2 : Hid (eg a 1 0 b 0 1 = (g, x, y)) := by rw [← HE.out, eg_end]; exact rfl
      by_cases hg : g < 0
      · go_wp2
        refine bodyPost_ret (retFour rfl _ _ _) rfl ?_
        exact ⟨by rw [eg_neg HE2.out hg]; rfl, n, rfl⟩
      · go_wp2
        refine bodyPost_ret (retFour rfl _ _ _) rfl ?_
        exact ⟨by rw [eg_pos HE2.out (by omega)]; rfl, n, rfl⟩
    · have hh' : (h == 0) = false := by simpa using hh
      obtain ⟨⟨m1, m2⟩, ⟨m3, m4⟩, ⟨m5, m6⟩, m7, m8⟩ := I.out.fits A.out B.out hh
      have J := Lib.hid (I.out.step A.out B.out hh)
      have E := Lib.hid (eg_step g x y h u v hh)
      have L := Lib.hid (rem_lt g h hh)
      go_wp2
      go_roundw
      case rel => exact ⟨h, u, v, _, _, _, rfl, rfl, rfl, rfl, rfl, rfl, J.out, E.out.symm.trans HE.out, n, rfl⟩
      case measure => simpa [intOf] using L.out
set_option maxHeartbeats 400000 in
theorem lessT (g x y h u v q : Int) (w : World) (g1 : -1000000000 ≤ g) (g2 : g ≤ 1000000000) (x1 : -1000000000 ≤ x) (x2 : x ≤ 1000000000) (y1 : -1000000000 ≤ y) (y2 : y ≤ 1000000000)
    (h1 : -1000000000 ≤ q * h) (h2 : q * h ≤ 1000000000) (u1 : -1000000000 ≤ q * u) (u2 : q * u ≤ 1000000000) (v1 : -1000000000 ≤ q * v) (v2 : q * v ≤ 1000000000) :
    Calls Tryz.prog 166 #[.agg #[.int .i64 g, .int .i64 x, .int .i64 y], .agg #[.int .i64 h, .int .i64 u, .int .i64 v], .int .i64 q] w fun e w' =>
      e = .returned (.agg #[.int .i64 (g - q * h), .int .i64 (x - q * u), .int .i64 (y - q * v)]) ∧ Below w.heap.size w w' := by
  go_enter Tryz.func166, Tryz.ntmps166
  go_wp2
  refine bodyPost_ret (v := .agg #[.int .i64 (g - q * h), .int .i64 (x - q * u), .int .i64 (y - q * v)]) (by simp [results, Tryz.results166, go_sem]) rfl ⟨rfl, ?_⟩
  exact (((Below.refl _ _).alloc (Nat.le_refl _) _).alloc (by simp) _).alloc (by simp; omega) _
set_option maxHeartbeats 4000000 in
theorem iExt (a b : Int) (w : World) (ha : -400000000 ≤ a ∧ a ≤ 400000000) (hb : -400000000 ≤ b ∧ b ≤ 400000000) :
    Calls Tryz.prog 180 #[.int .i64 a, .int .i64 b] w fun e w' => e = .returned (egVal (egAns a b)) ∧ Below w.heap.size w w' := by
  have i0 := Inv.start a b ha hb
  have A := Lib.hid ha
  have B := Lib.hid hb
  have I0 := Lib.hid i0
  clear i0
  obtain ⟨ha1, ha2⟩ := ha
  obtain ⟨hb1, hb2⟩ := hb
  go_enter Tryz.func180, Tryz.ntmps180
  go_wp2_with (go_at_call 90; refine (iIsNum_t _ _ (by omega) (by omega)).mono ?_; rintro e w' ⟨rfl, rfl⟩)
  go_loopg [] b.natAbs (fun k wr => ∃ g x y h u v : Int, k = h.natAbs ∧ Inv a b g x y h u v ∧ eg g x y h u v = eg a 1 0 b 0 1 ∧ Below w.heap.size w wr ∧
      Blk3 wr w.heap.size 182 (.int .i64 g) (.int .i64 x) (.int .i64 y) ∧ Blk3 wr (w.heap.size + 1) 182 (.int .i64 h) (.int .i64 u) (.int .i64 v))
  case atStart =>
    refine ⟨a, 1, 0, b, 0, 1, rfl, I0.out, rfl, ?_, (Blk3.new _ _ _ _ _).old _, ?_⟩
    · exact ((Below.refl _ _).alloc (Nat.le_refl _) _).alloc (by simp) _
    · have := Blk3.new (w.alloc (.cells #[.int .i64 a, .int .i64 1, .int .i64 0] 182)) 182 (.int .i64 b) (.int .i64 0) (.int .i64 1)
      simpa using this
  case round =>
    obtain ⟨g, x, y, h, u, v, hk, i, hE, hbel, k1, k2⟩ := hrel
    have HK := Lib.hid hk
    have HE := Lib.hid hE
    have I := Lib.hid i
    have K1 := Lib.hid k1
    have K2 := Lib.hid k2
    have BEL := Lib.hid hbel
    have c0 := k1.cell0
    have c1 := k1.cell1
    have c2 := k1.cell2
    have d0 := k2.cell0
    have d1 := k2.cell1
    have d2 := k2.cell2
    have f0 := k1.free 0
    have f1 := k1.free 1
    have f2 := k1.free 2
    have e0 := k2.free 0
    have e1 := k2.free 1
    have e2 := k2.free 2
    have hz := k2.lt
    have hz1 := k1.lt
    clear hE k1 k2 hbel hk
    have ⟨g1, g2⟩ := i.g0
    have ⟨h1, h2⟩ := i.h0
    have ⟨x1, x2⟩ := i.x0
    have ⟨y1, y2⟩ := i.y0
    have ⟨u1, u2⟩ := i.u0
    have ⟨v1, v2⟩ := i.v0
    clear i
    by_cases hh : h = 0
    · subst hh
      have HE2 : Hid (eg a 1 0 b 0 1 = (g, x, y)) := by rw [← HE.out, eg_end]; exact rfl
      by_cases hg : g < 0
      · go_wp2_with fail
        refine (lessT 0 0 0 g x y 1 _ (by omega) (by omega) (by omega) (by omega) (by omega) (by omega) (by omega) (by omega) (by omega) (by omega) (by omega) (by omega)).mono ?_
        rintro e w1 ⟨rfl, hb1⟩
        obtain ⟨C0, C1, C2, F0, F1, F2⟩ := (K1.out.keep hb1 hz1).all
        clear c0 c1 c2 d0 d1 d2 f0 f1 f2 e0 e1 e2
        go_wp2_with fail
        go_quiet (fail)
        go_wp2_with fail
        refine bodyPost_ret (retFour rfl _ _ _) rfl ?_
        exact ⟨by rw [eg_neg HE2.out hg]; rfl, below_drewN ((((BEL.out.trans (hb1.mono (by omega))).setCell (Nat.le_refl _) _).setCell (Nat.le_refl _) _).setCell (Nat.le_refl _) _) _⟩
      · go_wp2_with fail
        go_quiet (fail)
        go_wp2_with fail
        refine bodyPost_ret (retFour rfl _ _ _) rfl ?_
        exact ⟨by rw [eg_pos HE2.out (by omega)]; rfl, below_drewN BEL.out _⟩
    · have hh' : (h == 0) = false := by simpa using hh
      obtain ⟨⟨m1, m2⟩, ⟨m3, m4⟩, ⟨m5, m6⟩, m7, m8⟩ := I.out.fits A.out B.out hh
      have J := Lib.hid (I.out.step A.out B.out hh)
      have E := Lib.hid (eg_step g x y h u v hh)
      have L := Lib.hid (rem_lt g h hh)
      go_wp2_with fail
      go_region_with (go_at_call 166; refine (lessT _ _ _ _ _ _ _ _ (by omega) (by omega) (by omega) (by omega) (by omega) (by omega) (by omega) (by omega) (by omega) (by omega) (by omega) (by omega)).mono ?_; rintro e w1 ⟨rfl, hb1⟩; obtain ⟨C0, C1, C2, F0, F1, F2⟩ := ((K1.out.drewN _).keep hb1 hz1).all; obtain ⟨D0, D1, D2, G0, G1, G2⟩ := ((K2.out.drewN _).keep hb1 hz).all)
      all_goals
        go_wp2_with fail
        go_roundg (g - g.tdiv h * h).natAbs
        case measure => rw [HK.out]; exact L.out
        case rel =>
          refine ⟨h, u, v, _, _, _, rfl, J.out, E.out.symm.trans HE.out, ?_, ?_, ?_⟩
          · exact (((((((below_drewN BEL.out _).trans (hb1.mono (Nat.le_of_lt hz1))).setCell (Nat.le_refl _) _).setCell (Nat.le_refl _) _).setCell (Nat.le_refl _) _).setCell (Nat.le_succ _) _).setCell (Nat.le_succ _) _).setCell (Nat.le_succ _) _
          · exact (((((((K1.out.drewN _).keep hb1 hz1).set0 _).set1 _).set2 _).far (by simp) _).far (by simp) _).far (by simp) _
          · exact (((((((K2.out.drewN _).keep hb1 hz).far (by simp) _).far (by simp) _).far (by simp) _).set0 _).set1 _).set2 _
theorem sExt_f (a b : Int) (w : World) (h : ¬ ((-400000000 ≤ a ∧ a ≤ 400000000) ∧ (-400000000 ≤ b ∧ b ≤ 400000000))) :
    Calls Tryz.prog 183 #[.int .i64 a, .int .i64 b] w fun e w' => e = .returned (.tuple #[.int .i64 0, .int .i64 0, .int .i64 0, .bool false]) ∧ w = w' := by
  by_cases ha : -400000000 ≤ a ∧ a ≤ 400000000
  · have hb : b < -400000000 ∨ 400000000 < b := by omega
    clear h
    go_enter Tryz.func183, Tryz.ntmps183
    go_wp2_with fail
    refine (sIsNum_t _ _ ha.1 ha.2).mono ?_
    rintro e w' ⟨rfl, rfl⟩
    go_wp2_with fail
    refine (sIsNum_f _ _ hb).mono ?_
    rintro e w' ⟨rfl, rfl⟩
    go_wp2_with fail
    refine bodyPost_ret (retFour rfl _ _ _) rfl ?_
    exact ⟨rfl, rfl⟩
  · have ha' : a < -400000000 ∨ 400000000 < a := by omega
    clear h ha
    go_enter Tryz.func183, Tryz.ntmps183
    go_wp2_with fail
    refine (sIsNum_f _ _ ha').mono ?_
    rintro e w' ⟨rfl, rfl⟩
    go_wp2_with fail
    refine bodyPost_ret (retFour rfl _ _ _) rfl ?_
    exact ⟨rfl, rfl⟩
theorem iExt_f (a b : Int) (w : World) (h : ¬ ((-400000000 ≤ a ∧ a ≤ 400000000) ∧ (-400000000 ≤ b ∧ b ≤ 400000000))) :
    Calls Tryz.prog 180 #[.int .i64 a, .int .i64 b] w fun e w' => e = .returned (.tuple #[.int .i64 0, .int .i64 0, .int .i64 0, .bool false]) ∧ w = w' := by
  by_cases ha : -400000000 ≤ a ∧ a ≤ 400000000
  · have hb : b < -400000000 ∨ 400000000 < b := by omega
    clear h
    go_enter Tryz.func180, Tryz.ntmps180
    go_wp2_with fail
    refine (iIsNum_t _ _ ha.1 ha.2).mono ?_
    rintro e w' ⟨rfl, rfl⟩
    go_wp2_with fail
    refine (iIsNum_f _ _ hb).mono ?_
    rintro e w' ⟨rfl, rfl⟩
    go_wp2_with fail
    refine bodyPost_ret (retFour rfl _ _ _) rfl ?_
    exact ⟨rfl, rfl⟩
  · have ha' : a < -400000000 ∨ 400000000 < a := by omega
    clear h ha
    go_enter Tryz.func180, Tryz.ntmps180
    go_wp2_with fail
    refine (iIsNum_f _ _ ha').mono ?_
    rintro e w' ⟨rfl, rfl⟩
    go_wp2_with fail
    refine bodyPost_ret (retFour rfl _ _ _) rfl ?_
    exact ⟨rfl, rfl⟩
theorem eg_last (n : Nat) : ∀ a b g x y h u v : Int, h.natAbs = n → -400000000 ≤ a ∧ a ≤ 400000000 → -400000000 ≤ b ∧ b ≤ 400000000 → Inv a b g x y h u v →
    ∃ g' x' y' u' v' : Int, eg g x y h u v = (g', x', y') ∧ Inv a b g' x' y' 0 u' v' := by
  induction n using Nat.strongRecOn with
  | ind n ih =>
    intro a b g x y h u v hn ha hb i
    by_cases hh : h = 0
    · subst hh
      exact ⟨g, x, y, u, v, eg_end _ _ _ _ _, i⟩
    · have l := rem_lt g h hh
      rw [eg_step g x y h u v hh]
      exact ih _ (by omega) a b _ _ _ _ _ _ rfl ha hb (i.step ha hb hh)
theorem egAns_is (a b : Int) (ha : -400000000 ≤ a ∧ a ≤ 400000000) (hb : -400000000 ≤ b ∧ b ≤ 400000000) :
    ∃ x y : Int, egAns a b = ((Int.gcd a b : Int), x, y) ∧ a * x + b * y = (Int.gcd a b : Int) ∧ -400000000 ≤ x ∧ x ≤ 400000000 ∧ -400000000 ≤ y ∧ y ≤ 400000000 := by
  obtain ⟨g, x, y, u, v, he, i⟩ := eg_last _ a b a 1 0 b 0 1 rfl ha hb (Inv.start a b ha hb)
  have l := i.last
  have gc := i.gc
  have x0 := i.x0
  have y0 := i.y0
  unfold egAns egOut
  rw [he]
  by_cases hg : g < 0
  · refine ⟨-x, -y, ?_, ?_, by omega, by omega, by omega, by omega⟩
    · simp only [hg, if_true]
      rw [show -g = (Int.gcd a b : Int) from by omega]
    · rw [Int.mul_neg, Int.mul_neg]; omega
  · refine ⟨x, y, ?_, by omega, by omega, by omega, by omega, by omega⟩
    simp only [hg, if_false]
    rw [show g = (Int.gcd a b : Int) from by omega]
end Go.Proofs.YtcapddcmnjeloaaGreatDoor
end

section
/-
  Chapter 8, in the model: residues from 0 on, IsPrime, InverseModulo.
-/
namespace Go.Proofs.YtcapddcmnjeloaaGreatDoor
set_option maxRecDepth 100000
open Go.RowKit
theorem ivM_no1 {p a : Int} (h : prmB p = false) : ivM p a = (0, false) := by unfold ivM; rw [h]; rfl
theorem ivM_no2 {p a : Int} (h : ¬ NumP a) : ivM p a = (0, false) := by unfold ivM; rw [decide_eq_false h, Bool.and_false, Bool.false_and]; rfl
theorem ivM_no3 {p a : Int} (h : a % p = 0) : ivM p a = (0, false) := by unfold ivM; rw [decide_eq_false (by omega : ¬ a % p ≠ 0), Bool.and_false]; rfl
theorem ivM_yes {p a y : Int} (h1 : prmB p = true) (h2 : NumP a) (h : a % p = y) (h3 : y ≠ 0) : ivM p a = (invF p y, true) := by
  unfold ivM
  rw [h1, decide_eq_true h2, h, decide_eq_true h3]; rfl
end Go.Proofs.YtcapddcmnjeloaaGreatDoor
end
