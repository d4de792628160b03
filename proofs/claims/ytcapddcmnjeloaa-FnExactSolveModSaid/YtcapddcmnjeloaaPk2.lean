/-
  Texts of this seat, joined: PrimL · Blk4 · RowS · RowMath · EchL · RowTo · ModE · ModF · ModB · SpnT · EchLaw
-/
import Derived.IntWalk
import Derived.Test.YtcapddcmnjeloaaPk1

section
/-
  Plain mathematics of chapter 7: primitive rows. Nothing of a program is used.
-/
namespace Go.Proofs.Ytcapddcmnjeloaa

/-- The greatest common divisor of the first n. -/
def gcdN : Nat → (Nat → Int) → Int
  | 0, _ => 0
  | n + 1, f => ((gcdN n f).gcd (f n) : Int)
/-- The sign of the first one that is not 0. -/
def sgnN : Nat → (Nat → Int) → Int
  | 0, _ => 0
  | n + 1, f => if sgnN n f = 0 ∧ f n ≠ 0 then (if f n < 0 then -1 else 1) else sgnN n f
theorem gcdN_nonneg (n : Nat) (f : Nat → Int) : 0 ≤ gcdN n f := by
  cases n with
  | zero => exact Int.le_refl _
  | succ n => exact Int.natCast_nonneg _
theorem gcdN_dvd {n : Nat} {f : Nat → Int} : ∀ j, j < n → gcdN n f ∣ f j := by
  induction n with
  | zero => intro j hj; omega
  | succ n ih =>
    intro j hj
    rcases Nat.lt_or_ge j n with h | h
    · exact Int.dvd_trans (Int.gcd_dvd_left ..) (ih j h)
    · obtain rfl : j = n := by omega
      exact Int.gcd_dvd_right ..
theorem gcdN_max {n : Nat} {f : Nat → Int} {g : Int} : (∀ j, j < n → g ∣ f j) → g ∣ gcdN n f := by
  induction n with
  | zero => intro _; exact Int.dvd_zero g
  | succ n ih => intro h; exact Int.dvd_coe_gcd (ih fun j hj => h j (by omega)) (h n (by omega))
theorem gcdN_none {n : Nat} {f : Nat → Int} (h : gcdN n f = 0) : ∀ j, j < n → f j = 0 := fun j hj => by
  have := gcdN_dvd (f := f) j hj
  rw [h] at this
  exact Int.zero_dvd.mp this
theorem gcdN_all {n : Nat} {f : Nat → Int} (h : ∀ j, j < n → f j = 0) : gcdN n f = 0 := by
  induction n with
  | zero => rfl
  | succ n ih =>
    show ((gcdN n f).gcd (f n) : Int) = 0
    rw [ih fun j hj => h j (by omega), h n (by omega)]
    rfl
theorem gcdN_congr {n : Nat} {f g : Nat → Int} (h : ∀ j, j < n → f j = g j) : gcdN n f = gcdN n g := by
  induction n with
  | zero => rfl
  | succ n ih =>
    show ((gcdN n f).gcd (f n) : Int) = ((gcdN n g).gcd (g n) : Int)
    rw [ih fun j hj => h j (by omega), h n (by omega)]
theorem gcdN_num {n : Nat} {f : Nat → Int} (h : ∀ j, j < n → NumP (f j)) : NumP (gcdN n f) := by
  have h0 := gcdN_nonneg n f
  by_cases hz : gcdN n f = 0
  · rw [hz]; exact ⟨by decide, by decide⟩
  · have : ∃ j, j < n ∧ f j ≠ 0 := Classical.byContradiction fun hn => hz (gcdN_all fun j hj => Classical.byContradiction fun h1 => hn ⟨j, hj, h1⟩)
    obtain ⟨j, hj, hfj⟩ := this
    have hd := gcdN_dvd (f := f) j hj
    have hb := h j hj
    unfold NumP at hb ⊢
    have hle : gcdN n f ≤ (f j).natAbs := by
      refine Int.le_of_dvd (by omega) ?_
      exact Int.dvd_natAbs.mpr hd
    omega
theorem sgnN_congr {n : Nat} {f g : Nat → Int} (h : ∀ j, j < n → f j = g j) : sgnN n f = sgnN n g := by
  induction n with
  | zero => rfl
  | succ n ih =>
    show (if sgnN n f = 0 ∧ f n ≠ 0 then (if f n < 0 then (-1 : Int) else 1) else sgnN n f) = (if sgnN n g = 0 ∧ g n ≠ 0 then (if g n < 0 then (-1 : Int) else 1) else sgnN n g)
    rw [ih fun j hj => h j (by omega), h n (by omega)]
theorem sgnN_or (n : Nat) (f : Nat → Int) : sgnN n f = 0 ∨ sgnN n f = 1 ∨ sgnN n f = -1 := by
  induction n with
  | zero => exact .inl rfl
  | succ n ih =>
    have e : sgnN (n + 1) f = if sgnN n f = 0 ∧ f n ≠ 0 then (if f n < 0 then (-1 : Int) else 1) else sgnN n f := rfl
    rw [e]
    by_cases h : sgnN n f = 0 ∧ f n ≠ 0
    · rw [if_pos h]
      by_cases h2 : f n < 0
      · rw [if_pos h2]; exact .inr (.inr rfl)
      · rw [if_neg h2]; exact .inr (.inl rfl)
    · rw [if_neg h]; exact ih
theorem sgnN_none {n : Nat} {f : Nat → Int} : sgnN n f = 0 → ∀ j, j < n → f j = 0 := by
  induction n with
  | zero => intro _ j hj; omega
  | succ n ih =>
    intro h j hj
    have h' : (if sgnN n f = 0 ∧ f n ≠ 0 then (if f n < 0 then (-1 : Int) else 1) else sgnN n f) = 0 := h
    by_cases hc : sgnN n f = 0 ∧ f n ≠ 0
    · rw [if_pos hc] at h'
      split at h' <;> cases h'
    · rw [if_neg hc] at h'
      rcases Nat.lt_or_ge j n with h1 | h1
      · exact ih h' j h1
      · obtain rfl : j = n := by omega
        exact Classical.byContradiction fun h2 => hc ⟨h', h2⟩
theorem sgnN_all {n : Nat} {f : Nat → Int} (h : ∀ j, j < n → f j = 0) : sgnN n f = 0 := by
  induction n with
  | zero => rfl
  | succ n ih =>
    show (if sgnN n f = 0 ∧ f n ≠ 0 then (if f n < 0 then (-1 : Int) else 1) else sgnN n f) = 0
    rw [if_neg (fun hc => hc.2 (h n (by omega)))]
    exact ih fun j hj => h j (by omega)
/-- The sign is that of the first one. -/
theorem sgnN_first {n : Nat} {f : Nat → Int} {j : Nat} (hj : j < n) (h0 : ∀ i, i < j → f i = 0) (hn : f j ≠ 0) : sgnN n f = if f j < 0 then -1 else 1 := by
  induction n with
  | zero => omega
  | succ n ih =>
    show (if sgnN n f = 0 ∧ f n ≠ 0 then (if f n < 0 then (-1 : Int) else 1) else sgnN n f) = _
    rcases Nat.lt_or_ge j n with h | h
    · have e := ih h
      rw [if_neg (fun hc => by rw [e] at hc; have := hc.1; split at this <;> cases this)]
      exact e
    · obtain rfl : j = n := by omega
      rw [if_pos ⟨sgnN_all h0, hn⟩]
/-- A row without its divisor, with its sign. -/
def prV (c : Nat) (v : Nat → Int) : Nat → Int := fun j => if gcdN c v = 0 then v j else (sgnN c v * v j).tdiv (gcdN c v)
theorem prV_congr {c : Nat} {u v : Nat → Int} (h : ∀ j, j < c → u j = v j) : ∀ j, j < c → prV c u j = prV c v j := fun j hj => by
  unfold prV
  rw [gcdN_congr h, sgnN_congr h, h j hj]
/-- A row whose divisor is 1 (or 0) and whose first number that is not 0 is positive. -/
def Norm (c : Nat) (v : Nat → Int) : Prop := (gcdN c v = 0 ∨ gcdN c v = 1) ∧ (sgnN c v = 0 ∨ sgnN c v = 1)
theorem Norm.congr {c : Nat} {u v : Nat → Int} (h : Norm c u) (e : ∀ j, j < c → v j = u j) : Norm c v := by
  unfold Norm at *
  rw [gcdN_congr e, sgnN_congr e]
  exact h
theorem prV_mul {c : Nat} {v : Nat → Int} {j : Nat} (hj : j < c) (hg : gcdN c v ≠ 0) : gcdN c v * prV c v j = sgnN c v * v j := by
  unfold prV
  rw [if_neg hg]
  exact Int.mul_tdiv_cancel' (Int.dvd_trans (gcdN_dvd j hj) (Int.dvd_mul_left _ _))
theorem prV_id {c : Nat} {v : Nat → Int} (h : Norm c v) {j : Nat} (hj : j < c) : prV c v j = v j := by
  by_cases hg : gcdN c v = 0
  · unfold prV; rw [if_pos hg]
  · have h1 : gcdN c v = 1 := h.1.resolve_left hg
    have hs : sgnN c v = 1 := h.2.resolve_left (fun e => hg (gcdN_all (sgnN_none e)))
    have := prV_mul hj hg
    rw [h1, hs, Int.one_mul, Int.one_mul] at this
    exact this
theorem sgnN_ne {c : Nat} {v : Nat → Int} (hg : gcdN c v ≠ 0) : sgnN c v ≠ 0 := fun e => hg (gcdN_all (sgnN_none e))
theorem prV_zero {c : Nat} {v : Nat → Int} {j : Nat} (hj : j < c) : prV c v j = 0 ↔ v j = 0 := by
  by_cases hg : gcdN c v = 0
  · unfold prV; rw [if_pos hg]
  · have e := prV_mul hj hg
    have hs := sgnN_ne hg
    constructor
    · intro h
      rw [h, Int.mul_zero] at e
      rcases Int.mul_eq_zero.mp e.symm with h1 | h1
      · exact absurd h1 hs
      · exact h1
    · intro h
      rw [h, Int.mul_zero] at e
      rcases Int.mul_eq_zero.mp e with h1 | h1
      · exact absurd h1 hg
      · exact h1
theorem exists_first {c : Nat} {v : Nat → Int} (h : ∃ j, j < c ∧ v j ≠ 0) : ∃ j, j < c ∧ v j ≠ 0 ∧ ∀ i, i < j → v i = 0 := by
  obtain ⟨j, hj, hv⟩ := h
  induction j using Nat.strongRecOn with
  | ind j ih =>
    by_cases h : ∃ i, i < j ∧ v i ≠ 0
    · obtain ⟨i, hi, hvi⟩ := h
      exact ih i hi (by omega) hvi
    · exact ⟨j, hj, hv, fun i hi => Classical.byContradiction fun h1 => h ⟨i, hi, h1⟩⟩
theorem prV_norm (c : Nat) (v : Nat → Int) : Norm c (prV c v) := by
  by_cases hg : gcdN c v = 0
  · have h0 := gcdN_none hg
    have h1 : ∀ j, j < c → prV c v j = 0 := fun j hj => (prV_zero hj).mpr (h0 j hj)
    exact ⟨.inl (gcdN_all h1), .inl (sgnN_all h1)⟩
  · have g0 := gcdN_nonneg c v
    have hs := sgnN_ne hg
    have hne : ∃ j, j < c ∧ v j ≠ 0 := Classical.byContradiction fun hn => hg (gcdN_all fun j hj => Classical.byContradiction fun h1 => hn ⟨j, hj, h1⟩)
    refine ⟨.inr ?_, .inr ?_⟩
    · -- the product of both divisors divides all
      obtain ⟨e, he⟩ : ∃ e, gcdN c (prV c v) = e := ⟨_, rfl⟩
      have e0 := gcdN_nonneg c (prV c v)
      have hd : gcdN c v * e ∣ gcdN c v := gcdN_max fun j hj => by
        obtain ⟨q, hq⟩ := gcdN_dvd (f := prV c v) j hj
        have := prV_mul hj hg
        rw [hq, he] at this
        rcases sgnN_or c v with h1 | h1 | h1
        · exact absurd h1 hs
        · rw [h1, Int.one_mul] at this
          exact ⟨q, by rw [← this]; grind⟩
        · rw [h1] at this
          exact ⟨-q, by grind⟩
      obtain ⟨k, hk⟩ := hd
      have h1 : gcdN c v * (e * k) = gcdN c v * 1 := by rw [Int.mul_one, ← Int.mul_assoc]; exact hk.symm
      have h2 : e * k = 1 := Int.eq_of_mul_eq_mul_left hg h1
      rw [he] at e0 ⊢
      exact Int.eq_one_of_mul_eq_one_right e0 h2
    · obtain ⟨j, hj, hvj, h0⟩ := exists_first hne
      have hp : prV c v j ≠ 0 := fun e => hvj ((prV_zero hj).mp e)
      rw [sgnN_first hj (fun i hi => (prV_zero (by omega)).mpr (h0 i hi)) hp]
      have e := prV_mul hj hg
      have es := sgnN_first hj h0 hvj
      rw [es] at e
      rw [if_neg]
      intro hneg
      have hl : gcdN c v * prV c v j < 0 := Int.mul_neg_of_pos_of_neg (by omega) hneg
      split at e <;> omega
theorem prV_num {c : Nat} {v : Nat → Int} (h : ∀ j, j < c → NumP (v j)) {j : Nat} (hj : j < c) : NumP (prV c v j) := by
  unfold prV
  split
  · exact h j hj
  · have hb := h j hj
    have g0 := gcdN_nonneg c v
    obtain ⟨x, hx⟩ : ∃ x, sgnN c v * v j = x := ⟨_, rfl⟩
    have hxb : NumP x := by
      rw [← hx]
      unfold NumP at hb ⊢
      rcases sgnN_or c v with h1 | h1 | h1 <;> rw [h1] <;> omega
    rw [hx]
    unfold NumP at hxb ⊢
    have : (x.tdiv (gcdN c v)).natAbs ≤ x.natAbs := by
      rw [Int.natAbs_tdiv]
      exact Nat.div_le_self _ _
    omega
/-- A row and the primitive one span the same. -/
theorem prV_in {r c i : Nat} {A : Mx} (hi : i < r) {v : Nat → Int} (h : ∀ j, j < c → A i j = v j) : InSp r c A (prV c v) := by
  by_cases hg : gcdN c v = 0
  · exact (InSp.row hi).congr fun j hj => by unfold prV; rw [if_pos hg, h j hj]
  · refine InSp.of_mul hg (((InSp.row (c := c) hi).add (InSp.zero r c A) (sgnN c v) 0).congr fun j hj => ?_)
    rw [prV_mul hj hg, h j hj]; simp
theorem of_prV {r c i : Nat} {A : Mx} (hi : i < r) {v : Nat → Int} (h : ∀ j, j < c → A i j = prV c v j) : InSp r c A v := by
  by_cases hg : gcdN c v = 0
  · exact (InSp.row hi).congr fun j hj => by rw [h j hj]; unfold prV; rw [if_pos hg]
  · refine InSp.of_mul (sgnN_ne hg) (((InSp.row (c := c) hi).add (InSp.zero r c A) (gcdN c v) 0).congr fun j hj => ?_)
    rw [h j hj, ← prV_mul hj hg]; simp
theorem Norm.prim {c : Nat} {v : Nat → Int} (h : Norm c v) {j : Nat} (hj : j < c) (hv : v j ≠ 0) : Prim c v := fun g hg hd => by
  have h1 : gcdN c v = 1 := h.1.resolve_left (fun e => hv (gcdN_none e j hj))
  have := gcdN_max hd
  rw [h1] at this
  have := Int.le_of_dvd (by decide) this
  omega
theorem Norm.pos {c : Nat} {v : Nat → Int} (h : Norm c v) {j : Nat} (hj : j < c) (h0 : ∀ i, i < j → v i = 0) (hv : v j ≠ 0) : 0 < v j := by
  have e := sgnN_first hj h0 hv
  have hs : sgnN c v = 1 := h.2.resolve_left (fun e => hv (sgnN_none e j hj))
  rw [hs] at e
  split at e
  · cases e
  · omega
end Go.Proofs.Ytcapddcmnjeloaa
end

section
/-
  A block of four cells.
-/
namespace Go.Proofs.Ytcapddcmnjeloaa
open Go.RowKit

/-- A block of four cells, none of them frozen. -/
def Blk4 (w : World) (b : Nat) (t : TypeId) (p q r s : Value) : Prop := w.heap[b]? = some (.cells #[p, q, r, s] t (0, 0))
theorem Blk4.cell0 {w : World} {b : Nat} {t : TypeId} {p q r s : Value} (h : Blk4 w b t p q r s) : w.cell? ⟨b, 0, none⟩ = some p := by unfold Blk4 at h; simp [World.cell?, h]
theorem Blk4.cell1 {w : World} {b : Nat} {t : TypeId} {p q r s : Value} (h : Blk4 w b t p q r s) : w.cell? ⟨b, 1, none⟩ = some q := by unfold Blk4 at h; simp [World.cell?, h]
theorem Blk4.cell2 {w : World} {b : Nat} {t : TypeId} {p q r s : Value} (h : Blk4 w b t p q r s) : w.cell? ⟨b, 2, none⟩ = some r := by unfold Blk4 at h; simp [World.cell?, h]
theorem Blk4.cell3 {w : World} {b : Nat} {t : TypeId} {p q r s : Value} (h : Blk4 w b t p q r s) : w.cell? ⟨b, 3, none⟩ = some s := by unfold Blk4 at h; simp [World.cell?, h]
theorem Blk4.free {w : World} {b : Nat} {t : TypeId} {p q r s : Value} (h : Blk4 w b t p q r s) (o : Nat) : w.frozen? ⟨b, o, none⟩ = false := by unfold Blk4 at h; simp [World.frozen?, h]
theorem Blk4.lt {w : World} {b : Nat} {t : TypeId} {p q r s : Value} (h : Blk4 w b t p q r s) : b < w.heap.size := lt_of_block h
theorem Blk4.all {w : World} {b : Nat} {t : TypeId} {p q r s : Value} (h : Blk4 w b t p q r s) : w.cell? ⟨b, 0, none⟩ = some p ∧ w.cell? ⟨b, 1, none⟩ = some q ∧ w.cell? ⟨b, 2, none⟩ = some r ∧ w.cell? ⟨b, 3, none⟩ = some s :=
  ⟨h.cell0, h.cell1, h.cell2, h.cell3⟩
theorem Blk4.keep {w : World} {b : Nat} {t : TypeId} {p q r s : Value} (h : Blk4 w b t p q r s) {w' : World} {B : Nat} (hb : Below B w w') (hB : b < B) : Blk4 w' b t p q r s := (hb.block b hB).trans h
theorem Blk4.step {w : World} {b : Nat} {t : TypeId} {p q r s : Value} (h : Blk4 w b t p q r s) {w' : World} (hb : Below w.heap.size w w') : Blk4 w' b t p q r s := h.keep hb h.lt
theorem Blk4.at_ {w : World} {b : Nat} (t : TypeId) (p q r s : Value) (hb : b = w.heap.size) : Blk4 (w.alloc (.cells #[p, q, r, s] t)) b t p q r s := by
  subst hb; unfold Blk4; show (w.heap.push _)[w.heap.size]? = _
  rw [Array.getElem?_push, if_pos rfl]
theorem Blk4.old {w : World} {b : Nat} {t : TypeId} {p q r s : Value} (h : Blk4 w b t p q r s) (o : Obj) : Blk4 (w.alloc o) b t p q r s := (Below.heap_alloc w o b h.lt).trans h
theorem Blk4.keepOne {w : World} {b : Nat} {t : TypeId} {p q r s : Value} (h : Blk4 w b t p q r s) {w' : World} {c : Nat} (hg : w.grownBy w' (some c)) (hne : b ≠ c) : Blk4 w' b t p q r s := (hg.block b h.lt (by simpa using hne)).trans h
end Go.Proofs.Ytcapddcmnjeloaa
end

section
/-
  Chapter 5, in the model: sums and products with a mark for what is beyond the limit; IsRowOp.
-/
namespace Go.Proofs.Ytcapddcmnjeloaa
open Go.RowKit

def badN : Int := -4611686018427387904
def fitB (n : Int) : Int := if NumP n then n else badN
def addB (a b : Int) : Int := if a = badN ∨ b = badN then badN else fitB (wrap64 (a + b))
def mulB (a b : Int) : Int := if a = badN ∨ b = badN then badN else fitB (wrap64 (a * b))
theorem sFit (n : Int) (w : World) : Calls Try.prog 124 #[.int .i64 n] w fun e w' => e = .returned (.int .i64 (fitB n)) ∧ w = w' := by
  by_cases h : NumP n
  · have E : Hid (fitB n = n) := by show fitB n = n; unfold fitB; rw [if_pos h]
    obtain ⟨h1, h2⟩ := h
    go_enter Try.func124, Try.ntmps124
    go_wp2_with fail
    refine (sIn_t n (-400000000) 400000000 _ h1 h2).mono ?_
    rintro e w' ⟨rfl, rfl⟩
    go_wp2_with fail
    go_ret
    exact ⟨by rw [E.out]; rfl, rfl⟩
  · have E : Hid (fitB n = badN) := by show fitB n = _; unfold fitB; rw [if_neg h]
    have h' : n < -400000000 ∨ 400000000 < n := by unfold NumP at h; omega
    clear h
    go_enter Try.func124, Try.ntmps124
    go_wp2_with fail
    refine (sIn_f n (-400000000) 400000000 _ h').mono ?_
    rintro e w' ⟨rfl, rfl⟩
    go_wp2_with fail
    go_ret
    exact ⟨by rw [E.out]; rfl, rfl⟩
theorem sAddB (a b : Int) (w : World) : Calls Try.prog 115 #[.int .i64 a, .int .i64 b] w fun e w' => e = .returned (.int .i64 (addB a b)) ∧ w = w' := by
  by_cases h1 : a = -4611686018427387904
  · have E : Hid (addB a b = badN) := by show addB a b = _; unfold addB; rw [if_pos (.inl h1)]
    have n1 : (a == -4611686018427387904) = true := by simpa using h1
    clear h1
    go_enter Try.func115, Try.ntmps115
    go_wp2_with fail
    go_ret
    exact ⟨by rw [E.out]; rfl, rfl⟩
  · have n1 : (a == -4611686018427387904) = false := by simpa using h1
    by_cases h2 : b = -4611686018427387904
    · have E : Hid (addB a b = badN) := by show addB a b = _; unfold addB; rw [if_pos (.inr h2)]
      have n2 : (b == -4611686018427387904) = true := by simpa using h2
      clear h1 h2
      go_enter Try.func115, Try.ntmps115
      go_wp2_with fail
      go_ret
      exact ⟨by rw [E.out]; rfl, rfl⟩
    · have E : Hid (addB a b = fitB (wrap64 (a + b))) := by show addB a b = _; unfold addB; rw [if_neg (by rintro (h | h); exact h1 h; exact h2 h)]
      have n2 : (b == -4611686018427387904) = false := by simpa using h2
      clear h1 h2
      go_enter Try.func115, Try.ntmps115
      go_wp2_with fail
      refine (sFit _ _).mono ?_
      rintro e w' ⟨rfl, rfl⟩
      go_wp2_with fail
      go_ret
      exact ⟨by rw [E.out]; rfl, rfl⟩
theorem sMulB (a b : Int) (w : World) : Calls Try.prog 114 #[.int .i64 a, .int .i64 b] w fun e w' => e = .returned (.int .i64 (mulB a b)) ∧ w = w' := by
  by_cases h1 : a = -4611686018427387904
  · have E : Hid (mulB a b = badN) := by show mulB a b = _; unfold mulB; rw [if_pos (.inl h1)]
    have n1 : (a == -4611686018427387904) = true := by simpa using h1
    clear h1
    go_enter Try.func114, Try.ntmps114
    go_wp2_with fail
    go_ret
    exact ⟨by rw [E.out]; rfl, rfl⟩
  · have n1 : (a == -4611686018427387904) = false := by simpa using h1
    by_cases h2 : b = -4611686018427387904
    · have E : Hid (mulB a b = badN) := by show mulB a b = _; unfold mulB; rw [if_pos (.inr h2)]
      have n2 : (b == -4611686018427387904) = true := by simpa using h2
      clear h1 h2
      go_enter Try.func114, Try.ntmps114
      go_wp2_with fail
      go_ret
      exact ⟨by rw [E.out]; rfl, rfl⟩
    · have E : Hid (mulB a b = fitB (wrap64 (a * b))) := by show mulB a b = _; unfold mulB; rw [if_neg (by rintro (h | h); exact h1 h; exact h2 h)]
      have n2 : (b == -4611686018427387904) = false := by simpa using h2
      clear h1 h2
      go_enter Try.func114, Try.ntmps114
      go_wp2_with fail
      refine (sFit _ _).mono ?_
      rintro e w' ⟨rfl, rfl⟩
      go_wp2_with fail
      go_ret
      exact ⟨by rw [E.out]; rfl, rfl⟩
theorem sIn (n a b : Int) (w : World) : Calls Try.prog 96 #[.int .i64 n, .int .i64 a, .int .i64 b] w fun e w' => e = .returned (.bool (decide (a ≤ n ∧ n ≤ b))) ∧ w = w' := by
  by_cases h : a ≤ n ∧ n ≤ b
  · rw [decide_eq_true h]; exact sIn_t n a b w h.1 h.2
  · rw [decide_eq_false h]; exact sIn_f n a b w (by omega)
theorem sIsNum (n : Int) (w : World) : Calls Try.prog 59 #[.int .i64 n] w fun e w' => e = .returned (.bool (decide (NumP n))) ∧ w = w' := by
  by_cases h : NumP n
  · rw [decide_eq_true h]; exact sIsNum_t n w h.1 h.2
  · rw [decide_eq_false h]; exact sIsNum_f n w (by unfold NumP at h; omega)

/-! ### IsRowOp -/
/-- Kind, the two rows and the number, for so many rows. -/
def rangeOp (k i j t rows : Int) : Bool := decide (0 ≤ k ∧ k ≤ 2) && decide (0 ≤ rows ∧ rows ≤ 24) && decide (0 ≤ i ∧ i ≤ rows - 1) && decide (0 ≤ j ∧ j ≤ rows - 1) && decide (NumP t)
def isOp (k i j t rows : Int) : Bool := rangeOp k i j t rows && (if k = 1 then decide (j = i ∧ t = 0) else if k = 0 then decide (j ≠ i ∧ t = 0) else decide (j ≠ i))
end Go.Proofs.Ytcapddcmnjeloaa
end

section
/-
  Plain mathematics of chapter 5: an operation on rows, cell by cell. Nothing of a program is used.
-/
namespace Go.Proofs.Ytcapddcmnjeloaa

/-- What the cell p becomes. -/
def opAt (k : Int) (I J : Nat) (t : Int) (C : Nat) (xs : List Int) (p : Nat) : Int :=
  if k = 0 then (if p / C = I then xs.getD (J * C + p % C) 0 else if p / C = J then xs.getD (I * C + p % C) 0 else xs.getD p 0)
  else if k = 1 then (if p / C = I then mulB (xs.getD p 0) (-1) else xs.getD p 0)
  else (if p / C = I then addB (xs.getD p 0) (mulB (xs.getD (J * C + p % C) 0) t) else xs.getD p 0)
/-- The columns before q are done. -/
def opTo (k : Int) (I J : Nat) (t : Int) (C : Nat) (xs : List Int) (q : Nat) : List Int := (List.range xs.length).map fun p => if p % C < q then opAt k I J t C xs p else xs.getD p 0
def opL (k : Int) (I J : Nat) (t : Int) (C : Nat) (xs : List Int) : List Int := (List.range xs.length).map (opAt k I J t C xs)
theorem opTo_length (k : Int) (I J : Nat) (t : Int) (C : Nat) (xs : List Int) (q : Nat) : (opTo k I J t C xs q).length = xs.length := by simp [opTo]
theorem opL_length (k : Int) (I J : Nat) (t : Int) (C : Nat) (xs : List Int) : (opL k I J t C xs).length = xs.length := by simp [opL]
theorem opTo_getD (k : Int) (I J : Nat) (t : Int) (C : Nat) (xs : List Int) (q p : Nat) (hp : p < xs.length) : (opTo k I J t C xs q).getD p 0 = if p % C < q then opAt k I J t C xs p else xs.getD p 0 := by
  simp [opTo, List.getD, hp]
theorem opTo_zero (k : Int) (I J : Nat) (t : Int) (C : Nat) (xs : List Int) : opTo k I J t C xs 0 = xs := by
  refine list_getD (opTo_length _ _ _ _ _ _ _) fun p hp => ?_
  rw [opTo_length] at hp
  rw [opTo_getD _ _ _ _ _ _ _ _ hp, if_neg (by omega)]
theorem opTo_all (k : Int) (I J : Nat) (t : Int) (C : Nat) (xs : List Int) (h : xs.length = 0 ∨ 0 < C) : opTo k I J t C xs C = opL k I J t C xs := by
  unfold opTo opL
  refine List.map_congr_left fun p hp => ?_
  have hp := List.mem_range.mp hp
  rw [if_pos (Nat.mod_lt p (by omega))]
theorem opTo_at (k : Int) (I J : Nat) (t : Int) (C : Nat) (xs : List Int) (q i : Nat) (hq : q < C) (hp : i * C + q < xs.length) : (opTo k I J t C xs q).getD (i * C + q) 0 = xs.getD (i * C + q) 0 := by
  rw [opTo_getD _ _ _ _ _ _ _ _ hp, idx_mod hq, if_neg (by omega)]
theorem opTo_next {k : Int} {I J : Nat} {t : Int} {C : Nat} {xs L : List Int} {q : Nat} (hl : L.length = xs.length) (h : ∀ p : Nat, p < xs.length → L.getD p 0 = if p % C = q then opAt k I J t C xs p else (opTo k I J t C xs q).getD p 0) : L = opTo k I J t C xs (q + 1) := by
  refine list_getD (by rw [hl, opTo_length]) fun p hp => ?_
  rw [hl] at hp
  rw [h p hp, opTo_getD _ _ _ _ _ _ _ _ hp, opTo_getD _ _ _ _ _ _ _ _ hp]
  by_cases e : p % C = q
  · rw [if_pos e, if_pos (by omega)]
  · rw [if_neg e]
    by_cases e2 : p % C < q
    · rw [if_pos e2, if_pos (by omega)]
    · rw [if_neg e2, if_neg (by omega)]
theorem split_idx {C p q : Nat} (h : p % C = q) : p = p / C * C + q := by
  have := Nat.div_add_mod p C
  rw [Nat.mul_comm] at this
  omega
theorem op_swap (I J : Nat) (t : Int) (C R : Nat) (xs : List Int) (q : Nat) (hl : xs.length = R * C) (hI : I < R) (hJ : J < R) (hq : q < C) :
    ((opTo 0 I J t C xs q).set (I * C + q) (xs.getD (J * C + q) 0)).set (J * C + q) (xs.getD (I * C + q) 0) = opTo 0 I J t C xs (q + 1) ∨ I = J := by
  by_cases hIJ : I = J
  · exact .inr hIJ
  refine .inl (opTo_next (by rw [List.length_set, List.length_set, opTo_length]) fun p hp => ?_)
  have a1 : I * C + q < xs.length := by rw [hl]; exact idx_lt hI hq
  have a2 : J * C + q < xs.length := by rw [hl]; exact idx_lt hJ hq
  rw [getD_set _ _ _ _ (by rw [List.length_set, opTo_length]; exact a2), getD_set _ _ _ _ (by rw [opTo_length]; exact a1)]
  by_cases e : p % C = q
  · rw [if_pos e]
    have sp := split_idx e
    unfold opAt
    rw [if_pos rfl, e]
    by_cases e1 : p / C = I
    · have : p = I * C + q := by rw [← e1]; exact sp
      rw [if_pos e1, if_neg (fun h => hIJ (by rw [← e1, h, idx_div hq])), if_pos this]
    · rw [if_neg e1]
      by_cases e2 : p / C = J
      · have : p = J * C + q := by rw [← e2]; exact sp
        rw [if_pos e2, if_pos this]
      · rw [if_neg e2, if_neg (fun h => e2 (by rw [h, idx_div hq])), if_neg (fun h => e1 (by rw [h, idx_div hq])), opTo_getD _ _ _ _ _ _ _ _ hp, if_neg (by omega)]
  · rw [if_neg e, if_neg (fun h => e (by rw [h, idx_mod hq])), if_neg (fun h => e (by rw [h, idx_mod hq]))]
theorem op_one (k : Int) (I J : Nat) (t : Int) (C R : Nat) (xs : List Int) (q : Nat) (z : Int) (hl : xs.length = R * C) (hI : I < R) (hq : q < C) (hk : k = 1 ∨ k = 2) (hz : z = opAt k I J t C xs (I * C + q)) :
    (opTo k I J t C xs q).set (I * C + q) z = opTo k I J t C xs (q + 1) := by
  refine opTo_next (by rw [List.length_set, opTo_length]) fun p hp => ?_
  have a1 : I * C + q < xs.length := by rw [hl]; exact idx_lt hI hq
  rw [getD_set _ _ _ _ (by rw [opTo_length]; exact a1)]
  by_cases e : p % C = q
  · rw [if_pos e]
    have sp := split_idx e
    by_cases e1 : p / C = I
    · have : p = I * C + q := by rw [← e1]; exact sp
      rw [if_pos this, hz, this]
    · rw [if_neg (fun h => e1 (by rw [h, idx_div hq])), opTo_getD _ _ _ _ _ _ _ _ hp, if_neg (by omega)]
      unfold opAt
      rcases hk with rfl | rfl
      · rw [if_neg (by decide), if_pos rfl, if_neg e1]
      · rw [if_neg (by decide), if_neg (by decide), if_neg e1]
  · rw [if_neg e, if_neg (fun h => e (by rw [h, idx_mod hq]))]
theorem opAt_one (I J : Nat) (t : Int) (C : Nat) (xs : List Int) {q : Nat} (hq : q < C) : opAt 1 I J t C xs (I * C + q) = mulB (xs.getD (I * C + q) 0) (-1) := by
  unfold opAt
  rw [if_neg (by decide), if_pos rfl, idx_div hq, if_pos rfl]
theorem opAt_two (I J : Nat) (t : Int) (C : Nat) (xs : List Int) {q : Nat} (hq : q < C) : opAt 2 I J t C xs (I * C + q) = addB (xs.getD (I * C + q) 0) (mulB (xs.getD (J * C + q) 0) t) := by
  unfold opAt
  rw [if_neg (by decide), if_neg (by decide), idx_div hq, if_pos rfl, idx_mod hq]
end Go.Proofs.Ytcapddcmnjeloaa
end

section
/-
  Plain mathematics of chapter 7: elimination over lists of cells with primitive rows ends in the echelon form. Nothing of a program is used.
-/
namespace Go.Proofs.Ytcapddcmnjeloaa

/-- The matrix of a list of cells, c columns. -/
def mxC (c : Nat) (xs : List Int) : Mx := fun i j => xs.getD (i * c + j) 0
theorem mxC_tab {r c : Nat} {f : Nat → Nat → Int} {i j : Nat} (hi : i < r) (hj : j < c) : mxC c (tab r c f) i j = f i j := tab_at r c f hi hj
/-- One row made primitive. -/
def prL (r c i : Nat) (xs : List Int) : List Int := tab r c fun p q => if p = i then prV c (mxC c xs i) q else mxC c xs p q
/-- The rows before i made primitive. -/
def prTo (r c i : Nat) (xs : List Int) : List Int := tab r c fun p q => if p < i then prV c (mxC c xs p) q else mxC c xs p q
/-- A row less a multiple of another one, so that there is 0 in column j. -/
def rdV (j : Nat) (u v : Nat → Int) : Nat → Int := fun k => (v j).tdiv ((u j).gcd (v j)) * u k - (u j).tdiv ((u j).gcd (v j)) * v k
def rowN (c : Nat) (v : Nat → Int) : Bool := nums ((List.range c).map v)
def rdL (r c t j i : Nat) (xs : List Int) : List Int := tab r c fun p q => if p = i then prV c (rdV j (mxC c xs i) (mxC c xs t)) q else mxC c xs p q
/-- k rows from row i on without the cell in column j. -/
def elimR (r c t j : Nat) : Nat → Nat → List Int → Option (List Int)
  | 0, _, xs => some xs
  | k + 1, i, xs => if i = t ∨ mxC c xs i j = 0 then elimR r c t j k (i + 1) xs
    else if rowN c (rdV j (mxC c xs i) (mxC c xs t)) = true then elimR r c t j k (i + 1) (rdL r c t j i xs) else none
/-- The first row from p on (k rows are left) with a cell in column j that is not 0. -/
def fstR (c j : Nat) (xs : List Int) : Nat → Nat → Nat
  | 0, p => p
  | k + 1, p => if mxC c xs p j = 0 then fstR c j xs k (p + 1) else p
/-- The rows p and t swapped. -/
def swC (p t c : Nat) (xs : List Int) : List Int := if p = t then xs else opL 0 p t 0 c xs
/-- k columns from column j on. -/
def echC (r c : Nat) : Nat → Nat → List Int → List Nat → Option (List Int × List Nat)
  | 0, _, xs, pv => some (xs, pv)
  | k + 1, j, xs, pv =>
    if pv.length < r then
      if fstR c j xs (r - pv.length) pv.length = r then echC r c k (j + 1) xs pv
      else match elimR r c pv.length j r 0 (swC (fstR c j xs (r - pv.length) pv.length) pv.length c xs) with
        | none => none
        | some ys => echC r c k (j + 1) ys (pv ++ [j])
    else some (xs, pv)
def echM (r c : Nat) (xs : List Int) : Option (List Int × List Nat) := echC r c c 0 (prTo r c r xs) []
theorem fstR_says {c j : Nat} {xs : List Int} : ∀ {k p : Nat}, p ≤ fstR c j xs k p ∧ fstR c j xs k p ≤ p + k ∧ (∀ q, p ≤ q → q < fstR c j xs k p → mxC c xs q j = 0) ∧ (fstR c j xs k p < p + k → mxC c xs (fstR c j xs k p) j ≠ 0) := by
  intro k
  induction k with
  | zero => intro p; exact ⟨Nat.le_refl _, Nat.le_refl _, fun q h1 h2 => absurd h2 (by show ¬ q < p; omega), fun h => absurd h (by show ¬ p < p + 0; omega)⟩
  | succ k ih =>
    intro p
    by_cases h : mxC c xs p j = 0
    · have e : fstR c j xs (k + 1) p = fstR c j xs k (p + 1) := if_pos h
      rw [e]
      obtain ⟨h1, h2, h3, h4⟩ := ih (p := p + 1)
      refine ⟨by omega, by omega, fun q h5 h6 => ?_, fun h5 => h4 (by omega)⟩
      rcases Nat.lt_or_ge p q with h7 | h7
      · exact h3 q h7 h6
      · obtain rfl : q = p := by omega
        exact h
    · have e : fstR c j xs (k + 1) p = p := if_neg h
      rw [e]
      exact ⟨Nat.le_refl _, by omega, fun q h1 h2 => by omega, fun _ => h⟩
theorem fstR_eq {c j : Nat} {xs : List Int} : ∀ {k p q : Nat}, p ≤ q → q ≤ p + k → (∀ i, p ≤ i → i < q → mxC c xs i j = 0) → (q < p + k → mxC c xs q j ≠ 0) → fstR c j xs k p = q := by
  intro k
  induction k with
  | zero => intro p q h1 h2 _ _; show p = q; omega
  | succ k ih =>
    intro p q h1 h2 hz hn
    show (if mxC c xs p j = 0 then fstR c j xs k (p + 1) else p) = q
    rcases Nat.lt_or_ge p q with h | h
    · rw [if_pos (hz p (Nat.le_refl _) h)]
      exact ih (by omega) (by omega) (fun i h3 h4 => hz i (by omega) h4) (fun h3 => hn (by omega))
    · obtain rfl : p = q := by omega
      rw [if_neg (hn (by omega))]
theorem opL_swapC {r c p t i j : Nat} {xs : List Int} (hx : xs.length = r * c) (hi : i < r) (hj : j < c) : mxC c (opL 0 p t 0 c xs) i j = mxC c xs (if i = p then t else if i = t then p else i) j := by
  have hp : i * c + j < xs.length := by rw [hx]; exact idx_lt hi hj
  unfold mxC opL
  simp only [List.getD, List.getElem?_map, List.getElem?_range hp, Option.map_some, Option.getD_some]
  unfold opAt
  rw [if_pos rfl, idx_div hj, idx_mod hj]
  by_cases h1 : i = p
  · rw [if_pos h1, if_pos h1]; rfl
  · rw [if_neg h1, if_neg h1]
    by_cases h2 : i = t
    · rw [if_pos h2, if_pos h2]; rfl
    · rw [if_neg h2, if_neg h2]; rfl
theorem swC_at {r c p t i j : Nat} {xs : List Int} (hx : xs.length = r * c) (hi : i < r) (hj : j < c) : mxC c (swC p t c xs) i j = mxC c xs (if i = p then t else if i = t then p else i) j := by
  unfold swC
  by_cases h : p = t
  · rw [if_pos h, h]
    by_cases h1 : i = t
    · rw [if_pos h1, h1]
    · rw [if_neg h1, if_neg h1]
  · rw [if_neg h, opL_swapC hx hi hj]
theorem swC_length (p t c : Nat) (xs : List Int) : (swC p t c xs).length = xs.length := by unfold swC; split; rfl; exact opL_length _ _ _ _ _ _
theorem gcd_pos' {x y : Int} (hy : y ≠ 0) : 0 < (x.gcd y : Int) := by
  have := Int.gcd_pos_of_ne_zero_right x hy
  omega
theorem rdV_col {u v : Nat → Int} {j : Nat} : rdV j u v j = 0 := by
  unfold rdV
  obtain ⟨a, ha⟩ : ((u j).gcd (v j) : Int) ∣ u j := Int.gcd_dvd_left ..
  obtain ⟨b, hb⟩ : ((u j).gcd (v j) : Int) ∣ v j := Int.gcd_dvd_right ..
  by_cases hg : ((u j).gcd (v j) : Int) = 0
  · rw [hg]; simp
  · obtain ⟨g, hgg⟩ : ∃ g, ((u j).gcd (v j) : Int) = g := ⟨_, rfl⟩
    rw [hgg] at ha hb hg ⊢
    have e1 : (u j).tdiv g = a := by rw [ha, Int.mul_tdiv_cancel_left _ hg]
    have e2 : (v j).tdiv g = b := by rw [hb, Int.mul_tdiv_cancel_left _ hg]
    rw [e1, e2, ha, hb]
    grind
theorem rdV_fac {u v : Nat → Int} {j : Nat} (hv : 0 < v j) : 0 < (v j).tdiv ((u j).gcd (v j)) := by
  obtain ⟨b, hb⟩ : ((u j).gcd (v j) : Int) ∣ v j := Int.gcd_dvd_right ..
  have hg := gcd_pos' (x := u j) (show v j ≠ 0 by omega)
  obtain ⟨g, hgg⟩ : ∃ g, ((u j).gcd (v j) : Int) = g := ⟨_, rfl⟩
  rw [hgg] at hb hg ⊢
  rw [hb, Int.mul_tdiv_cancel_left _ (by omega)]
  rw [hb] at hv
  exact Int.pos_of_mul_pos_right hv hg
theorem rdV_left {u v : Nat → Int} {j q : Nat} (hv : v q = 0) : rdV j u v q = (v j).tdiv ((u j).gcd (v j)) * u q := by
  unfold rdV
  rw [hv, Int.mul_zero]; omega
theorem InSp.prV {r c : Nat} {A : Mx} {v : Nat → Int} (h : InSp r c A v) : InSp r c A (prV c v) := by
  by_cases hg : gcdN c v = 0
  · exact h.congr fun j hj => by unfold Go.Proofs.Ytcapddcmnjeloaa.prV; rw [if_pos hg]
  · refine InSp.of_mul hg ((h.add (InSp.zero r c A) (sgnN c v) 0).congr fun j hj => ?_)
    rw [prV_mul hj hg]; simp
/-- What holds in the middle: the columns before j are done, those of the pivots pv among them. -/
structure EInv (r c : Nat) (M : Mx) (xs : List Int) (pv : List Nat) (j : Nat) : Prop where
  len : xs.length = r * c
  num : nums xs = true
  le : pv.length ≤ r
  jc : j ≤ c
  toM : SubSp r r c (mxC c xs) M
  ofM : SubSp r r c M (mxC c xs)
  norm : ∀ i, i < r → Norm c (mxC c xs i)
  col : ∀ k, k < pv.length → pv.getD k 0 < j
  inc : ∀ k l, k < l → l < pv.length → pv.getD k 0 < pv.getD l 0
  ne : ∀ k, k < pv.length → mxC c xs k (pv.getD k 0) ≠ 0
  only : ∀ k i, k < pv.length → i < r → i ≠ k → mxC c xs i (pv.getD k 0) = 0
  left : ∀ k q, k < pv.length → q < pv.getD k 0 → mxC c xs k q = 0
  rest : ∀ i q, pv.length ≤ i → i < r → q < j → mxC c xs i q = 0
theorem mx_nums {r c : Nat} {xs : List Int} (hx : xs.length = r * c) (h : nums xs = true) {i j : Nat} (hi : i < r) (hj : j < c) : NumP (mxC c xs i j) := nums_at h (by rw [hx]; exact idx_lt hi hj)
theorem tab_nums {r c : Nat} {f : Nat → Nat → Int} (h : ∀ i j, i < r → j < c → NumP (f i j)) : nums (tab r c f) = true := nums_true fun p hp => by
  rw [tab_length] at hp
  have hc : 0 < c := by
    rcases Nat.eq_zero_or_pos c with e | e
    · subst e; omega
    · exact e
  have e : p = p / c * c + p % c := by rw [Nat.mul_comm]; exact (Nat.div_add_mod p c).symm
  rw [e, tab_at r c _ (Nat.div_lt_of_lt_mul (by rw [Nat.mul_comm]; exact hp)) (Nat.mod_lt p hc)]
  exact h _ _ (Nat.div_lt_of_lt_mul (by rw [Nat.mul_comm]; exact hp)) (Nat.mod_lt p hc)
theorem EInv.start {r c : Nat} {xs : List Int} (hx : xs.length = r * c) (hn : nums xs = true) : EInv r c (mxC c xs) (prTo r c r xs) [] 0 where
  len := tab_length _ _ _
  num := tab_nums fun i j hi hj => by
    rw [if_pos hi]
    exact prV_num (fun q hq => mx_nums hx hn hi hq) hj
  le := Nat.zero_le _
  jc := Nat.zero_le _
  toM := fun i hi => (InSp.prV (InSp.row (A := mxC c xs) hi)).congr fun j hj => by
    show mxC c (tab r c _) i j = _
    rw [mxC_tab hi hj, if_pos hi]
  ofM := fun i hi => of_prV hi fun j hj => by
    show mxC c (tab r c _) i j = _
    rw [mxC_tab hi hj, if_pos hi]
  norm := fun i hi => (prV_norm c (mxC c xs i)).congr fun j hj => by
    show mxC c (tab r c _) i j = _
    rw [mxC_tab hi hj, if_pos hi]
  col := fun k hk => absurd hk (Nat.not_lt_zero _)
  inc := fun k l _ hl => absurd hl (Nat.not_lt_zero _)
  ne := fun k hk => absurd hk (Nat.not_lt_zero _)
  only := fun k i hk => absurd hk (Nat.not_lt_zero _)
  left := fun k q hk => absurd hk (Nat.not_lt_zero _)
  rest := fun i q _ _ hq => absurd hq (Nat.not_lt_zero _)
/-- A column without a pivot. -/
theorem EInv.skip {r c : Nat} {M : Mx} {xs : List Int} {pv : List Nat} {j : Nat} (h : EInv r c M xs pv j) (hj : j < c) (hz : ∀ i, pv.length ≤ i → i < r → mxC c xs i j = 0) : EInv r c M xs pv (j + 1) :=
  { h with
    jc := hj
    col := fun k hk => by have := h.col k hk; omega
    rest := fun i q hi hir hq => by
      rcases Nat.lt_or_ge q j with h1 | h1
      · exact h.rest i q hi hir h1
      · obtain rfl : q = j := by omega
        exact hz i hi hir }
/-- The pivot's row is swapped with row t. -/
theorem EInv.swap {r c : Nat} {M : Mx} {xs : List Int} {pv : List Nat} {j p : Nat} (h : EInv r c M xs pv j) (hp : pv.length ≤ p) (hpr : p < r) : EInv r c M (swC p pv.length c xs) pv j := by
  have at_ : ∀ i q, i < r → q < c → mxC c (swC p pv.length c xs) i q = mxC c xs (if i = p then pv.length else if i = pv.length then p else i) q := fun i q hi hq => swC_at h.len hi hq
  have low : ∀ i q, i < pv.length → q < c → mxC c (swC p pv.length c xs) i q = mxC c xs i q := fun i q hi hq => by rw [at_ i q (by omega) hq, if_neg (by omega), if_neg (by omega)]
  have big : ∀ i, pv.length ≤ i → i < r → pv.length ≤ (if i = p then pv.length else if i = pv.length then p else i) ∧ (if i = p then pv.length else if i = pv.length then p else i) < r := fun i h1 h2 => by
    split
    · omega
    · split <;> omega
  have any : ∀ i, i < r → (if i = p then pv.length else if i = pv.length then p else i) < r := fun i hi => by
    split
    · omega
    · split <;> omega
  refine ⟨by rw [swC_length]; exact h.len, ?_, h.le, h.jc, ?_, ?_, ?_, h.col, h.inc, ?_, ?_, ?_, ?_⟩
  · refine nums_true fun k hk => ?_
    rw [swC_length, h.len] at hk
    have hc : 0 < c := by
      rcases Nat.eq_zero_or_pos c with e | e
      · subst e; omega
      · exact e
    have e : k = k / c * c + k % c := by rw [Nat.mul_comm]; exact (Nat.div_add_mod k c).symm
    have h1 : k / c < r := Nat.div_lt_of_lt_mul (by rw [Nat.mul_comm]; exact hk)
    have := at_ (k / c) (k % c) h1 (Nat.mod_lt k hc)
    unfold mxC at this
    rw [e, this]
    exact mx_nums h.len h.num (any _ h1) (Nat.mod_lt k hc)
  · intro i hi
    exact (h.toM _ (any i hi)).congr fun q hq => at_ i q hi hq
  · intro i hi
    refine SubSp.mem (A := mxC c xs) (fun i hi => ?_) (h.ofM i hi)
    refine (InSp.row (A := mxC c (swC p pv.length c xs)) (any i hi)).congr fun q hq => ?_
    rw [at_ _ q (any i hi) hq]
    by_cases e1 : i = p
    · rw [if_pos e1]
      by_cases e2 : pv.length = p
      · rw [if_pos e2, e1, e2]
      · rw [if_neg e2, if_pos rfl, e1]
    · rw [if_neg e1]
      by_cases e2 : i = pv.length
      · rw [if_pos e2, if_pos rfl, e2]
      · rw [if_neg e2, if_neg e1, if_neg e2]
  · intro i hi
    exact (h.norm _ (any i hi)).congr fun q hq => at_ i q hi hq
  · intro k hk
    have := h.col k hk
    have := h.jc
    rw [low k _ hk (by omega)]
    exact h.ne k hk
  · intro k i hk hi hne
    have h1 := h.col k hk
    have h2 := h.jc
    rw [at_ i _ hi (by omega)]
    refine h.only k _ hk (any i hi) ?_
    split
    · omega
    · split <;> omega
  · intro k q hk hq
    have h1 := h.col k hk
    have h2 := h.jc
    rw [low k q hk (by omega)]
    exact h.left k q hk hq
  · intro i q hi hir hq
    have h2 := h.jc
    rw [at_ i q hir (by omega)]
    exact h.rest _ q (big i hi hir).1 (big i hi hir).2 hq
/-- One row without its cell in column j. -/
theorem EInv.reduce {r c : Nat} {M : Mx} {xs : List Int} {pv : List Nat} {j i : Nat} (h : EInv r c M xs pv j) (ht : pv.length < r) (hj : j < c) (hi : i < r) (hit : i ≠ pv.length) (hy : mxC c xs pv.length j ≠ 0) (hn : rowN c (rdV j (mxC c xs i) (mxC c xs pv.length)) = true) :
    EInv r c M (rdL r c pv.length j i xs) pv j ∧ (∀ p q, p < r → q < c → p ≠ i → mxC c (rdL r c pv.length j i xs) p q = mxC c xs p q) ∧ mxC c (rdL r c pv.length j i xs) i j = 0 := by
  obtain ⟨v, hv⟩ : ∃ v, rdV j (mxC c xs i) (mxC c xs pv.length) = v := ⟨_, rfl⟩
  have hyp : 0 < mxC c xs pv.length j := (h.norm _ ht).pos hj (fun q hq => h.rest _ q (Nat.le_refl _) ht hq) hy
  have fac := rdV_fac (u := mxC c xs i) (v := mxC c xs pv.length) (j := j) hyp
  have oth : ∀ p q, p < r → q < c → p ≠ i → mxC c (rdL r c pv.length j i xs) p q = mxC c xs p q := fun p q hp hq hne => by unfold rdL; rw [mxC_tab hp hq, if_neg hne]
  have own : ∀ q, q < c → mxC c (rdL r c pv.length j i xs) i q = prV c v q := fun q hq => by unfold rdL; rw [mxC_tab hi hq, if_pos rfl, hv]
  have lft : ∀ q, q < j → v q = (mxC c xs pv.length j).tdiv ((mxC c xs i j).gcd (mxC c xs pv.length j)) * mxC c xs i q := fun q hq => by rw [← hv]; exact rdV_left (h.rest _ q (Nat.le_refl _) ht hq)
  have zer : ∀ q, q < j → (mxC c (rdL r c pv.length j i xs) i q = 0 ↔ mxC c xs i q = 0) := fun q hq => by
    rw [own q (by omega), prV_zero (by omega), lft q hq]
    constructor
    · intro e; exact (Int.mul_eq_zero.mp e).resolve_left (by omega)
    · intro e; rw [e, Int.mul_zero]
  have vn : ∀ q, q < c → NumP (v q) := fun q hq => by
    have := nums_at hn (j := q) (by simpa using hq)
    rw [hv] at this
    simpa [List.getD, hq] using this
  have hvin : InSp r c (mxC c xs) v := ((InSp.row (c := c) hi).add (InSp.row ht) ((mxC c xs pv.length j).tdiv ((mxC c xs i j).gcd (mxC c xs pv.length j))) (-((mxC c xs i j).tdiv ((mxC c xs i j).gcd (mxC c xs pv.length j))))).congr fun q hq => by
    rw [← hv]; unfold rdV; grind
  refine ⟨⟨tab_length _ _ _, ?_, h.le, h.jc, ?_, ?_, ?_, h.col, h.inc, ?_, ?_, ?_, ?_⟩, oth, ?_⟩
  · refine tab_nums fun p q hp hq => ?_
    by_cases e : p = i
    · rw [if_pos e, hv]; exact prV_num vn hq
    · rw [if_neg e]; exact mx_nums h.len h.num hp hq
  · intro p hp
    by_cases e : p = i
    · subst e
      exact (h.toM.mem hvin.prV).congr own
    · exact (h.toM p hp).congr fun q hq => oth p q hp hq e
  · refine SubSp.trans h.ofM fun p hp => ?_
    by_cases e : p = i
    · subst e
      have hv' : InSp r c (mxC c (rdL r c pv.length j p xs)) v := of_prV hp own
      have ht' : InSp r c (mxC c (rdL r c pv.length j p xs)) (mxC c xs pv.length) := (InSp.row (c := c) ht).congr fun q hq => (oth _ q ht hq (fun e => hit e.symm)).symm
      refine InSp.of_mul (d := (mxC c xs pv.length j).tdiv ((mxC c xs p j).gcd (mxC c xs pv.length j))) (by omega) ((hv'.add ht' 1 ((mxC c xs p j).tdiv ((mxC c xs p j).gcd (mxC c xs pv.length j)))).congr fun q hq => ?_)
      rw [← hv]; unfold rdV; grind
    · exact (InSp.row (A := mxC c (rdL r c pv.length j i xs)) hp).congr fun q hq => (oth p q hp hq e).symm
  · intro p hp
    by_cases e : p = i
    · subst e
      exact (prV_norm c v).congr own
    · exact (h.norm p hp).congr fun q hq => oth p q hp hq e
  · intro k hk
    have h1 := h.col k hk
    by_cases e : k = i
    · subst e
      exact fun e => h.ne k hk ((zer _ h1).mp e)
    · rw [oth k _ (by omega) (by omega) e]; exact h.ne k hk
  · intro k p hk hp hne
    have h1 := h.col k hk
    by_cases e : p = i
    · subst e
      exact (zer _ h1).mpr (h.only k p hk hp hne)
    · rw [oth p _ hp (by omega) e]; exact h.only k p hk hp hne
  · intro k q hk hq
    have h1 := h.col k hk
    by_cases e : k = i
    · subst e
      exact (zer q (by omega)).mpr (h.left k q hk hq)
    · rw [oth k q (by omega) (by omega) e]; exact h.left k q hk hq
  · intro p q hp hpr hq
    by_cases e : p = i
    · subst e
      exact (zer q hq).mpr (h.rest p q hp hpr hq)
    · rw [oth p q hpr (by omega) e]; exact h.rest p q hp hpr hq
  · rw [own j hj, prV_zero hj, ← hv]
    exact rdV_col
theorem EInv.elim {r c : Nat} {M : Mx} {pv : List Nat} {j : Nat} (ht : pv.length < r) (hj : j < c) : ∀ (k i : Nat) (xs ys : List Int), i + k = r → EInv r c M xs pv j → mxC c xs pv.length j ≠ 0 → (∀ p, p < i → p ≠ pv.length → mxC c xs p j = 0) → elimR r c pv.length j k i xs = some ys →
    EInv r c M ys pv j ∧ mxC c ys pv.length j ≠ 0 ∧ ∀ p, p < r → p ≠ pv.length → mxC c ys p j = 0 := by
  intro k
  induction k with
  | zero =>
    intro i xs ys hik h hy hz he
    obtain rfl : i = r := by omega
    injection he with he
    subst he
    exact ⟨h, hy, fun p hp hne => hz p hp hne⟩
  | succ k ih =>
    intro i xs ys hik h hy hz he
    have he' : (if i = pv.length ∨ mxC c xs i j = 0 then elimR r c pv.length j k (i + 1) xs else if rowN c (rdV j (mxC c xs i) (mxC c xs pv.length)) = true then elimR r c pv.length j k (i + 1) (rdL r c pv.length j i xs) else none) = some ys := he
    by_cases h1 : i = pv.length ∨ mxC c xs i j = 0
    · rw [if_pos h1] at he'
      refine ih (i + 1) xs ys (by omega) h hy (fun p hp hne => ?_) he'
      rcases Nat.lt_or_ge p i with h2 | h2
      · exact hz p h2 hne
      · obtain rfl : p = i := by omega
        exact h1.resolve_left hne
    · rw [if_neg h1] at he'
      by_cases h2 : rowN c (rdV j (mxC c xs i) (mxC c xs pv.length)) = true
      · rw [if_pos h2] at he'
        have hi : i < r := by omega
        have hit : i ≠ pv.length := fun e => h1 (.inl e)
        obtain ⟨hr, ho, h0⟩ := h.reduce ht hj hi hit hy h2
        refine ih (i + 1) _ ys (by omega) hr (by rw [ho _ _ ht hj (fun e => hit e.symm)]; exact hy) (fun p hp hne => ?_) he'
        by_cases e : p = i
        · rw [e]; exact h0
        · rw [ho p j (by omega) hj e]; exact hz p (by omega) hne
      · rw [if_neg h2] at he'
        cases he'
/-- A column with a pivot. -/
theorem EInv.pivot {r c : Nat} {M : Mx} {xs : List Int} {pv : List Nat} {j : Nat} (h : EInv r c M xs pv j) (ht : pv.length < r) (hj : j < c) (hy : mxC c xs pv.length j ≠ 0) (hz : ∀ p, p < r → p ≠ pv.length → mxC c xs p j = 0) : EInv r c M xs (pv ++ [j]) (j + 1) := by
  have hl : (pv ++ [j]).length = pv.length + 1 := by simp
  have old : ∀ k, k < pv.length → (pv ++ [j]).getD k 0 = pv.getD k 0 := fun k hk => by rw [List.getD, List.getD, List.getElem?_append_left hk]
  have new : (pv ++ [j]).getD pv.length 0 = j := by simp [List.getD]
  refine ⟨h.len, h.num, by omega, hj, h.toM, h.ofM, h.norm, ?_, ?_, ?_, ?_, ?_, ?_⟩
  · intro k hk
    rcases Nat.lt_or_ge k pv.length with h1 | h1
    · rw [old k h1]; have := h.col k h1; omega
    · obtain rfl : k = pv.length := by omega
      rw [new]; omega
  · intro k l hkl hll
    rcases Nat.lt_or_ge l pv.length with h1 | h1
    · rw [old k (by omega), old l h1]; exact h.inc k l hkl h1
    · obtain rfl : l = pv.length := by omega
      rw [old k hkl, new]; exact h.col k hkl
  · intro k hk
    rcases Nat.lt_or_ge k pv.length with h1 | h1
    · rw [old k h1]; exact h.ne k h1
    · obtain rfl : k = pv.length := by omega
      rw [new]; exact hy
  · intro k i hk hi hne
    rcases Nat.lt_or_ge k pv.length with h1 | h1
    · rw [old k h1]; exact h.only k i h1 hi hne
    · obtain rfl : k = pv.length := by omega
      rw [new]; exact hz i hi hne
  · intro k q hk hq
    rcases Nat.lt_or_ge k pv.length with h1 | h1
    · rw [old k h1] at hq; exact h.left k q h1 hq
    · obtain rfl : k = pv.length := by omega
      rw [new] at hq; exact h.rest _ q (Nat.le_refl _) ht hq
  · intro i q hi hir hq
    rcases Nat.lt_or_ge q j with h1 | h1
    · exact h.rest i q (by omega) hir h1
    · obtain rfl : q = j := by omega
      exact hz i hir (by omega)
theorem EInv.all {r c : Nat} {M : Mx} : ∀ (k j : Nat) (xs : List Int) (pv : List Nat) (ys : List Int) (qv : List Nat), j + k = c → EInv r c M xs pv j → echC r c k j xs pv = some (ys, qv) → ∃ j', EInv r c M ys qv j' ∧ (j' = c ∨ qv.length = r) := by
  intro k
  induction k with
  | zero =>
    intro j xs pv ys qv hjk h he
    injection he with he
    injection he with e1 e2
    subst e1 e2
    obtain rfl : j = c := by omega
    exact ⟨j, h, .inl rfl⟩
  | succ k ih =>
    intro j xs pv ys qv hjk h he
    have he' : (if pv.length < r then
      if fstR c j xs (r - pv.length) pv.length = r then echC r c k (j + 1) xs pv
      else match elimR r c pv.length j r 0 (swC (fstR c j xs (r - pv.length) pv.length) pv.length c xs) with
        | none => none
        | some ys => echC r c k (j + 1) ys (pv ++ [j])
    else some (xs, pv)) = some (ys, qv) := he
    have hj : j < c := by omega
    by_cases ht : pv.length < r
    · rw [if_pos ht] at he'
      obtain ⟨f1, f2, f3, f4⟩ := fstR_says (c := c) (j := j) (xs := xs) (k := r - pv.length) (p := pv.length)
      by_cases hp : fstR c j xs (r - pv.length) pv.length = r
      · rw [if_pos hp] at he'
        refine ih (j + 1) xs pv ys qv (by omega) (h.skip hj fun i h1 h2 => f3 i h1 (by omega)) he'
      · rw [if_neg hp] at he'
        generalize fstR c j xs (r - pv.length) pv.length = p at f1 f2 f3 f4 hp he'
        have hs := h.swap f1 (show p < r by omega)
        have hy : mxC c (swC p pv.length c xs) pv.length j ≠ 0 := by
          rw [swC_at h.len ht hj]
          by_cases e : pv.length = p
          · rw [if_pos e, e]; exact f4 (by omega)
          · rw [if_neg e, if_pos rfl]; exact f4 (by omega)
        cases hel : elimR r c pv.length j r 0 (swC p pv.length c xs) with
        | none => rw [hel] at he'; cases he'
        | some zs =>
          rw [hel] at he'
          obtain ⟨h1, h2, h3⟩ := EInv.elim ht hj r 0 _ zs (by omega) hs hy (fun p hp => by omega) hel
          exact ih (j + 1) zs (pv ++ [j]) ys qv (by omega) (h1.pivot ht hj h2 h3) he'
    · rw [if_neg ht] at he'
      injection he' with he'
      injection he' with e1 e2
      subst e1 e2
      exact ⟨j, h, .inr (by have := h.le; omega)⟩
theorem EInv.ech {r c : Nat} {M : Mx} {xs : List Int} {pv : List Nat} {j : Nat} (h : EInv r c M xs pv j) (he : j = c ∨ pv.length = r) : Ech r c (mxC c xs) (fun k => pv.getD k 0) pv.length where
  le := h.le
  col := fun k hk => by have := h.col k hk; have := h.jc; omega
  inc := h.inc
  pos := fun k hk => by
    have h1 := h.col k hk
    have h2 := h.jc
    have h3 := h.le
    exact (h.norm k (by omega)).pos (by omega) (fun q hq => h.left k q hk hq) (h.ne k hk)
  only := h.only
  left := h.left
  rest := fun i q hi hir hq => by
    rcases he with e | e
    · exact h.rest i q hi hir (by omega)
    · omega
  prim := fun k hk => by
    have h1 := h.col k hk
    have h2 := h.jc
    have h3 := h.le
    exact (h.norm k (by omega)).prim (show pv.getD k 0 < c by omega) (h.ne k hk)
/-- What the elimination ends in is the echelon form of the matrix. -/
theorem echM_says {r c : Nat} {xs ys : List Int} {pv : List Nat} (hx : xs.length = r * c) (hn : nums xs = true) (h : echM r c xs = some (ys, pv)) :
    Ech r c (mxC c ys) (fun k => pv.getD k 0) pv.length ∧ SubSp r r c (mxC c ys) (mxC c xs) ∧ SubSp r r c (mxC c xs) (mxC c ys) ∧ ys.length = r * c ∧ nums ys = true ∧ ∀ i, i < r → Norm c (mxC c ys i) := by
  obtain ⟨j, h, e⟩ := EInv.all c 0 _ [] ys pv (by omega) (EInv.start hx hn) h
  exact ⟨h.ech e, h.toM, h.ofM, h.len, h.num, h.norm⟩
end Go.Proofs.Ytcapddcmnjeloaa
end

section
/-
  Plain mathematics of chapter 7: a row that is written cell by cell. Nothing of a program is used.
-/
namespace Go.Proofs.Ytcapddcmnjeloaa

/-- The first k cells of row i are those of v. -/
def rowTo (r c i : Nat) (v : Nat → Int) (xs : List Int) (k : Nat) : List Int := tab r c fun p q => if p = i ∧ q < k then v q else mxC c xs p q
def rowL (r c i : Nat) (v : Nat → Int) (xs : List Int) : List Int := tab r c fun p q => if p = i then v q else mxC c xs p q
theorem rowTo_length (r c i : Nat) (v : Nat → Int) (xs : List Int) (k : Nat) : (rowTo r c i v xs k).length = r * c := tab_length _ _ _
theorem rowTo_at {r c i : Nat} {v : Nat → Int} {xs : List Int} {k p q : Nat} (hp : p < r) (hq : q < c) : (rowTo r c i v xs k).getD (p * c + q) 0 = if p = i ∧ q < k then v q else mxC c xs p q := tab_at r c _ hp hq
theorem rowTo_old {r c i : Nat} {v : Nat → Int} {xs : List Int} {k p q : Nat} (hp : p < r) (hq : q < c) (h : p ≠ i ∨ k ≤ q) : (rowTo r c i v xs k).getD (p * c + q) 0 = xs.getD (p * c + q) 0 := by
  rw [rowTo_at hp hq, if_neg (by omega)]; rfl
theorem rowTo_zero {r c i : Nat} {v : Nat → Int} {xs : List Int} (hx : xs.length = r * c) : rowTo r c i v xs 0 = xs := by
  refine (tab_ext hx fun p q _ _ => ?_).symm
  rw [if_neg (by omega)]; rfl
theorem rowTo_step {r c i : Nat} {v : Nat → Int} {xs : List Int} {k : Nat} (hi : i < r) (hk : k < c) : (rowTo r c i v xs k).set (i * c + k) (v k) = rowTo r c i v xs (k + 1) := by
  refine tab_ext (by rw [List.length_set, rowTo_length]) fun p q hp hq => ?_
  rw [getD_set _ _ _ _ (by rw [rowTo_length]; exact idx_lt hi hk), rowTo_at hp hq]
  by_cases e : p * c + q = i * c + k
  · obtain ⟨rfl, rfl⟩ := idx_inj hq hk e
    rw [if_pos (by omega), if_pos (by omega)]
  · have ne : ¬ (p = i ∧ q = k) := by rintro ⟨rfl, rfl⟩; exact e rfl
    rw [if_neg (by omega)]
    by_cases h : p = i ∧ q < k
    · rw [if_pos h, if_pos (by omega)]
    · rw [if_neg h, if_neg (by omega)]
theorem rowTo_all {r c i : Nat} {v : Nat → Int} {xs : List Int} : rowTo r c i v xs c = rowL r c i v xs := by
  refine tab_ext (rowTo_length _ _ _ _ _ _) fun p q hp hq => ?_
  rw [rowTo_at hp hq]
  by_cases h : p = i
  · rw [if_pos ⟨h, hq⟩, if_pos h]
  · rw [if_neg (fun h1 => h h1.1), if_neg h]
theorem rowL_length (r c i : Nat) (v : Nat → Int) (xs : List Int) : (rowL r c i v xs).length = r * c := tab_length _ _ _
theorem rowL_own {r c i q : Nat} {v : Nat → Int} {xs : List Int} (hi : i < r) (hq : q < c) : mxC c (rowL r c i v xs) i q = v q := by unfold rowL; rw [mxC_tab hi hq, if_pos rfl]
theorem rowL_oth {r c i p q : Nat} {v : Nat → Int} {xs : List Int} (hp : p < r) (hq : q < c) (h : p ≠ i) : mxC c (rowL r c i v xs) p q = mxC c xs p q := by unfold rowL; rw [mxC_tab hp hq, if_neg h]
theorem rowL_congr {r c i : Nat} {u v : Nat → Int} {xs : List Int} (h : ∀ q, q < c → u q = v q) : rowL r c i u xs = rowL r c i v xs := by
  refine tab_ext (rowL_length _ _ _ _ _) fun p q hp hq => ?_
  by_cases e : p = i
  · subst e; rw [if_pos rfl]; exact (rowL_own hp hq).trans (h q hq)
  · rw [if_neg e]; exact rowL_oth hp hq e
theorem rowL_self {r c i : Nat} {v : Nat → Int} {xs : List Int} (hx : xs.length = r * c) (h : i < r → ∀ q, q < c → v q = mxC c xs i q) : rowL r c i v xs = xs := by
  refine (tab_ext hx fun p q hp hq => ?_).symm
  by_cases e : p = i
  · subst e; rw [if_pos rfl, h hp q hq]; rfl
  · rw [if_neg e]; rfl
theorem rowL_twice {r c i : Nat} {u v : Nat → Int} {xs : List Int} : rowL r c i u (rowL r c i v xs) = rowL r c i u xs := by
  refine tab_ext (rowL_length _ _ _ _ _) fun p q hp hq => ?_
  by_cases e : p = i
  · subst e; rw [if_pos rfl]; exact rowL_own hp hq
  · rw [if_neg e]; exact (rowL_oth hp hq e).trans (rowL_oth hp hq e)
theorem prL_row (r c i : Nat) (xs : List Int) : prL r c i xs = rowL r c i (prV c (mxC c xs i)) xs := rfl
theorem rdL_row (r c t j i : Nat) (xs : List Int) : rdL r c t j i xs = rowL r c i (prV c (rdV j (mxC c xs i) (mxC c xs t))) xs := rfl
/-- A row reduced, then made primitive. -/
theorem rdL_prim {r c t j i : Nat} {xs : List Int} (hi : i < r) : prL r c i (rowL r c i (rdV j (mxC c xs i) (mxC c xs t)) xs) = rdL r c t j i xs := by
  rw [prL_row, rdL_row, rowL_twice]
  exact rowL_congr fun q hq => prV_congr (fun k hk => rowL_own hi hk) q hq
theorem prTo_zero {r c : Nat} {xs : List Int} (hx : xs.length = r * c) : prTo r c 0 xs = xs := by
  refine (tab_ext hx fun p q _ _ => ?_).symm
  rw [if_neg (by omega)]; rfl
theorem prTo_length (r c i : Nat) (xs : List Int) : (prTo r c i xs).length = r * c := tab_length _ _ _
theorem prTo_step {r c i : Nat} {xs : List Int} (hi : i < r) : prL r c i (prTo r c i xs) = prTo r c (i + 1) xs := by
  have at_ : ∀ {p q k : Nat}, p < r → q < c → mxC c (prTo r c k xs) p q = if p < k then prV c (mxC c xs p) q else mxC c xs p q := fun hp hq => mxC_tab hp hq
  refine tab_ext (tab_length _ _ _) fun p q hp hq => ?_
  by_cases e : p = i
  · subst e
    rw [if_pos (by omega)]
    refine (rowL_own hp hq).trans (prV_congr (fun k hk => ?_) q hq)
    rw [at_ hp hk, if_neg (by omega)]
  · refine (rowL_oth hp hq e).trans ?_
    rw [at_ hp hq]
    by_cases h : p < i
    · rw [if_pos h, if_pos (by omega)]
    · rw [if_neg h, if_neg (by omega)]
theorem prTo_nums {r c i : Nat} {xs : List Int} (hx : xs.length = r * c) (hn : nums xs = true) : nums (prTo r c i xs) = true := tab_nums fun p q hp hq => by
  by_cases h : p < i
  · rw [if_pos h]; exact prV_num (fun k hk => mx_nums hx hn hp hk) hq
  · rw [if_neg h]; exact mx_nums hx hn hp hq
theorem rowL_nums {r c i : Nat} {v : Nat → Int} {xs : List Int} (hx : xs.length = r * c) (hn : nums xs = true) (hv : ∀ q, q < c → NumP (v q)) : nums (rowL r c i v xs) = true := tab_nums fun p q hp hq => by
  by_cases h : p = i
  · rw [if_pos h]; exact hv q hq
  · rw [if_neg h]; exact mx_nums hx hn hp hq
theorem rowN_iff {c : Nat} {v : Nat → Int} : rowN c v = true ↔ ∀ q, q < c → NumP (v q) := by
  unfold rowN
  constructor
  · intro h q hq
    have := nums_at h (j := q) (by simpa using hq)
    simpa [List.getD, hq] using this
  · intro h
    refine nums_true fun q hq => ?_
    have hq' : q < c := by simpa using hq
    simpa [List.getD, hq'] using h q hq'
theorem elimR_skip {r c t j k i : Nat} {xs : List Int} (h : i = t ∨ mxC c xs i j = 0) : elimR r c t j (k + 1) i xs = elimR r c t j k (i + 1) xs := if_pos h
theorem elimR_on {r c t j k i : Nat} {xs : List Int} (h : ¬ (i = t ∨ mxC c xs i j = 0)) (h2 : rowN c (rdV j (mxC c xs i) (mxC c xs t)) = true) : elimR r c t j (k + 1) i xs = elimR r c t j k (i + 1) (rdL r c t j i xs) := by
  show (if i = t ∨ mxC c xs i j = 0 then _ else if rowN c _ = true then _ else _) = _
  rw [if_neg h, if_pos h2]
theorem elimR_bad {r c t j k i : Nat} {xs : List Int} (h : ¬ (i = t ∨ mxC c xs i j = 0)) (h2 : rowN c (rdV j (mxC c xs i) (mxC c xs t)) ≠ true) : elimR r c t j (k + 1) i xs = none := by
  show (if i = t ∨ mxC c xs i j = 0 then _ else if rowN c _ = true then _ else _) = _
  rw [if_neg h, if_neg h2]
theorem echC_end {r c k j : Nat} {xs : List Int} {pv : List Nat} (h : ¬ pv.length < r) : echC r c k j xs pv = some (xs, pv) := by
  cases k with
  | zero => rfl
  | succ k =>
    show (if pv.length < r then _ else some (xs, pv)) = _
    rw [if_neg h]
theorem echC_skip {r c k j : Nat} {xs : List Int} {pv : List Nat} (h : pv.length < r) (hf : fstR c j xs (r - pv.length) pv.length = r) : echC r c (k + 1) j xs pv = echC r c k (j + 1) xs pv := by
  show (if pv.length < r then if fstR c j xs (r - pv.length) pv.length = r then _ else _ else _) = _
  rw [if_pos h, if_pos hf]
theorem echC_none {r c k j p : Nat} {xs : List Int} {pv : List Nat} (h : pv.length < r) (hf : fstR c j xs (r - pv.length) pv.length = p) (hp : p ≠ r) (he : elimR r c pv.length j r 0 (swC p pv.length c xs) = none) : echC r c (k + 1) j xs pv = none := by
  show (if pv.length < r then if fstR c j xs (r - pv.length) pv.length = r then _ else match elimR r c pv.length j r 0 (swC (fstR c j xs (r - pv.length) pv.length) pv.length c xs) with | none => none | some ys => echC r c k (j + 1) ys (pv ++ [j]) else _) = _
  rw [if_pos h, hf, if_neg hp, he]
theorem echC_on {r c k j p : Nat} {xs ys : List Int} {pv : List Nat} (h : pv.length < r) (hf : fstR c j xs (r - pv.length) pv.length = p) (hp : p ≠ r) (he : elimR r c pv.length j r 0 (swC p pv.length c xs) = some ys) : echC r c (k + 1) j xs pv = echC r c k (j + 1) ys (pv ++ [j]) := by
  show (if pv.length < r then if fstR c j xs (r - pv.length) pv.length = r then _ else match elimR r c pv.length j r 0 (swC (fstR c j xs (r - pv.length) pv.length) pv.length c xs) with | none => none | some ys => echC r c k (j + 1) ys (pv ++ [j]) else _) = _
  rw [if_pos h, hf, if_neg hp, he]
theorem rdL_nums {r c t j i : Nat} {xs : List Int} (hx : xs.length = r * c) (hn : nums xs = true) (h2 : rowN c (rdV j (mxC c xs i) (mxC c xs t)) = true) : nums (rdL r c t j i xs) = true := rowL_nums hx hn fun _ hq => prV_num (rowN_iff.mp h2) hq
theorem rdL_length (r c t j i : Nat) (xs : List Int) : (rdL r c t j i xs).length = r * c := tab_length _ _ _
end Go.Proofs.Ytcapddcmnjeloaa
end

section
/-
  Plain mathematics of chapter 8: elimination over residues, over lists of cells. Nothing of a program is used.
-/
namespace Go.Proofs.Ytcapddcmnjeloaa

/-- What holds in the middle: the columns before j (of the first n) are done, those of the pivots pv among them. -/
structure PInv (p : Int) (r c n : Nat) (M : Mx) (xs : List Int) (pv : List Nat) (j : Nat) : Prop where
  len : xs.length = r * c
  can : ∀ i q, i < r → q < c → 0 ≤ mxC c xs i q ∧ mxC c xs i q < p
  le : pv.length ≤ r
  jn : j ≤ n
  nc : n ≤ c
  toM : SubP p r r c (mxC c xs) M
  ofM : SubP p r r c M (mxC c xs)
  col : ∀ k, k < pv.length → pv.getD k 0 < j
  inc : ∀ k l, k < l → l < pv.length → pv.getD k 0 < pv.getD l 0
  one : ∀ k, k < pv.length → mxC c xs k (pv.getD k 0) = 1
  only : ∀ k i, k < pv.length → i < r → i ≠ k → mxC c xs i (pv.getD k 0) = 0
  left : ∀ k q, k < pv.length → q < pv.getD k 0 → mxC c xs k q = 0
  rest : ∀ i q, pv.length ≤ i → i < r → q < j → mxC c xs i q = 0
theorem PInv.start {p : Int} {r c n : Nat} {M : Mx} {xs : List Int} (hx : xs.length = r * c) (hn : n ≤ c) (hc : ∀ i q, i < r → q < c → 0 ≤ mxC c xs i q ∧ mxC c xs i q < p) (hM : ∀ i q, i < r → q < c → Cg p (mxC c xs i q) (M i q)) : PInv p r c n M xs [] 0 where
  len := hx
  can := hc
  le := Nat.zero_le _
  jn := Nat.zero_le _
  nc := hn
  toM := SubP.of_cg hM
  ofM := SubP.of_cg fun i q hi hq => (hM i q hi hq).symm
  col := fun k hk => absurd hk (Nat.not_lt_zero k)
  inc := fun _ l _ hl => absurd hl (Nat.not_lt_zero l)
  one := fun k hk => absurd hk (Nat.not_lt_zero k)
  only := fun k _ hk => absurd hk (Nat.not_lt_zero k)
  left := fun k _ hk => absurd hk (Nat.not_lt_zero k)
  rest := fun _ q _ _ hq => absurd hq (Nat.not_lt_zero q)
section
variable {p : Int} {r c n : Nat} {M : Mx} {xs : List Int} {pv : List Nat} {j : Nat}
theorem PInv.skip (h : PInv p r c n M xs pv j) (hj : j < n) (hz : ∀ i, pv.length ≤ i → i < r → mxC c xs i j = 0) : PInv p r c n M xs pv (j + 1) :=
  { h with
    jn := hj
    col := fun k hk => by have := h.col k hk; omega
    rest := fun i q hi hir hq => by
      rcases Nat.lt_or_ge q j with h1 | h1
      · exact h.rest i q hi hir h1
      · obtain rfl : q = j := by omega
        exact hz i hi hir }
theorem PInv.swap (h : PInv p r c n M xs pv j) {s : Nat} (hs : pv.length ≤ s) (hsr : s < r) : PInv p r c n M (swC s pv.length c xs) pv j := by
  have hjn := h.jn
  have hnc := h.nc
  have at_ : ∀ i q, i < r → q < c → mxC c (swC s pv.length c xs) i q = mxC c xs (if i = s then pv.length else if i = pv.length then s else i) q := fun i q hi hq => swC_at h.len hi hq
  have low : ∀ i q, i < pv.length → q < c → mxC c (swC s pv.length c xs) i q = mxC c xs i q := fun i q hi hq => by rw [at_ i q (by omega) hq, if_neg (by omega), if_neg (by omega)]
  have big : ∀ i, pv.length ≤ i → i < r → pv.length ≤ (if i = s then pv.length else if i = pv.length then s else i) ∧ (if i = s then pv.length else if i = pv.length then s else i) < r := fun i h1 h2 => by
    split
    · omega
    · split <;> omega
  have any : ∀ i, i < r → (if i = s then pv.length else if i = pv.length then s else i) < r := fun i hi => by
    split
    · omega
    · split <;> omega
  refine ⟨by rw [swC_length]; exact h.len, ?_, h.le, h.jn, h.nc, ?_, ?_, h.col, h.inc, ?_, ?_, ?_, ?_⟩
  · intro i q hi hq
    rw [at_ i q hi hq]
    exact h.can _ q (any i hi) hq
  · intro i hi
    exact (h.toM _ (any i hi)).congr fun q hq => Cg.of_eq (at_ i q hi hq)
  · refine h.ofM.trans fun i hi => ?_
    refine (InP.row (A := mxC c (swC s pv.length c xs)) (any i hi)).congr fun q hq => Cg.of_eq ?_
    rw [at_ _ q (any i hi) hq]
    by_cases e1 : i = s
    · rw [if_pos e1]
      by_cases e2 : pv.length = s
      · rw [if_pos e2, e1, e2]
      · rw [if_neg e2, if_pos rfl, e1]
    · rw [if_neg e1]
      by_cases e2 : i = pv.length
      · rw [if_pos e2, if_pos rfl, e2]
      · rw [if_neg e2, if_neg e1, if_neg e2]
  · intro k hk
    have := h.col k hk
    rw [low k _ hk (by omega)]
    exact h.one k hk
  · intro k i hk hi hne
    have h1 := h.col k hk
    rw [at_ i _ hi (by omega)]
    refine h.only k _ hk (any i hi) ?_
    split
    · omega
    · split <;> omega
  · intro k q hk hq
    have h1 := h.col k hk
    rw [low k q hk (by omega)]
    exact h.left k q hk hq
  · intro i q hi hir hq
    rw [at_ i q hir (by omega)]
    exact h.rest _ q (big i hi hir).1 (big i hi hir).2 hq
/-- One row is replaced. -/
theorem PInv.put (h : PInv p r c n M xs pv j) {i : Nat} {v : Nat → Int} (hi : i < r) (hcan : ∀ q, q < c → 0 ≤ v q ∧ v q < p) (hin : InP p r c (mxC c xs) v) (hback : InP p r c (mxC c (rowL r c i v xs)) (mxC c xs i)) (hz : ∀ q, q < j → mxC c xs i q = 0 → v q = 0) (h1 : i < pv.length → v (pv.getD i 0) = 1) : PInv p r c n M (rowL r c i v xs) pv j := by
  have hjn := h.jn
  have hnc := h.nc
  have own : ∀ q, q < c → mxC c (rowL r c i v xs) i q = v q := fun q hq => rowL_own hi hq
  have oth : ∀ a q, a < r → q < c → a ≠ i → mxC c (rowL r c i v xs) a q = mxC c xs a q := fun a q ha hq hne => rowL_oth ha hq hne
  refine ⟨rowL_length _ _ _ _ _, ?_, h.le, h.jn, h.nc, ?_, ?_, h.col, h.inc, ?_, ?_, ?_, ?_⟩
  · intro a q ha hq
    by_cases e : a = i
    · rw [e, own q hq]; exact hcan q hq
    · rw [oth a q ha hq e]; exact h.can a q ha hq
  · intro a ha
    by_cases e : a = i
    · rw [e]; exact (h.toM.mem hin).congr fun q hq => Cg.of_eq (own q hq)
    · exact (h.toM a ha).congr fun q hq => Cg.of_eq (oth a q ha hq e)
  · refine h.ofM.trans fun a ha => ?_
    by_cases e : a = i
    · rw [e]; exact hback
    · exact (InP.row (A := mxC c (rowL r c i v xs)) ha).congr fun q hq => Cg.of_eq (oth a q ha hq e).symm
  · intro k hk
    have hc := h.col k hk
    by_cases e : k = i
    · rw [e, own _ (by rw [← e]; omega)]; exact h1 (by omega)
    · rw [oth k _ (by have := h.le; omega) (by omega) e]; exact h.one k hk
  · intro k a hk ha hne
    have hc := h.col k hk
    by_cases e : a = i
    · rw [e, own _ (by omega)]
      exact hz _ hc (by rw [← e]; exact h.only k a hk ha hne)
    · rw [oth a _ ha (by omega) e]; exact h.only k a hk ha hne
  · intro k q hk hq
    have hc := h.col k hk
    by_cases e : k = i
    · rw [e, own _ (by omega)]
      exact hz _ (by omega) (by rw [← e]; exact h.left k q hk hq)
    · rw [oth k _ (by have := h.le; omega) (by omega) e]; exact h.left k q hk hq
  · intro a q ha har hq
    by_cases e : a = i
    · rw [e, own _ (by omega)]
      exact hz _ hq (by rw [← e]; exact h.rest a q ha har hq)
    · rw [oth a _ har (by omega) e]; exact h.rest a q ha har hq
theorem res_can {p : Int} (hp : 0 < p) (z : Int) : 0 ≤ z % p ∧ z % p < p := ⟨Int.emod_nonneg _ (by omega), Int.emod_lt_of_pos _ hp⟩
/-- The pivot's row is divided by its pivot. -/
def scV (p z : Int) (u : Nat → Int) : Nat → Int := fun q => (u q * z) % p
theorem PInv.scale (h : PInv p r c n M xs pv j) (hp : Prm p) (ht : pv.length < r) (hj : j < n) {z : Int} (hz : InvP p (mxC c xs pv.length j) z) :
    PInv p r c n M (rowL r c pv.length (scV p z (mxC c xs pv.length)) xs) pv j ∧ mxC c (rowL r c pv.length (scV p z (mxC c xs pv.length)) xs) pv.length j = 1 := by
  have hp0 : 0 < p := by have := hp.1; omega
  have hnc := h.nc
  have e1 : scV p z (mxC c xs pv.length) j = 1 := by
    show (mxC c xs pv.length j * z) % p = 1
    rw [Cg.emod_eq hp0 hz]
    exact Int.emod_eq_of_lt (by omega) (by have := hp.1; omega)
  refine ⟨h.put ht (fun q _ => res_can hp0 _) ?_ ?_ ?_ (fun hlt => absurd hlt (Nat.lt_irrefl _)), by rw [rowL_own ht (by omega)]; exact e1⟩
  · refine (((InP.row (p := p) (c := c) (A := mxC c xs) ht).add InP.zero z 0)).congr fun q _ => (Cg.emod p _).trans (Cg.of_eq ?_)
    rw [Int.mul_zero, Int.add_zero, Int.mul_comm]
  · refine ((InP.row (p := p) (c := c) (A := mxC c (rowL r c pv.length (scV p z (mxC c xs pv.length)) xs)) ht).add InP.zero (mxC c xs pv.length j) 0).congr fun q hq => ?_
    rw [rowL_own ht hq, Int.mul_zero, Int.add_zero]
    have h1 : Cg p (scV p z (mxC c xs pv.length) q) (mxC c xs pv.length q * z) := Cg.emod p _
    refine (Cg.trans (h1.mul_left _) ?_).symm
    have h2 : Cg p (mxC c xs pv.length j * z * mxC c xs pv.length q) (1 * mxC c xs pv.length q) := Cg.mul hz (Cg.refl _ _)
    rw [Int.one_mul] at h2
    refine Cg.trans (Cg.of_eq ?_) h2
    grind
  · intro q hq h0
    show (mxC c xs pv.length q * z) % p = 0
    rw [h0, Int.zero_mul]
    exact Int.zero_emod p
/-- A row less a multiple of the pivot's row. -/
def lsV (p x : Int) (u v : Nat → Int) : Nat → Int := fun q => (u q - x * v q) % p
theorem PInv.less (h : PInv p r c n M xs pv j) (hp : Prm p) (ht : pv.length < r) (hj : j < n) {i : Nat} (hi : i < r) (hit : i ≠ pv.length) (h1 : mxC c xs pv.length j = 1) :
    PInv p r c n M (rowL r c i (lsV p (mxC c xs i j) (mxC c xs i) (mxC c xs pv.length)) xs) pv j ∧ (∀ a q, a < r → q < c → a ≠ i → mxC c (rowL r c i (lsV p (mxC c xs i j) (mxC c xs i) (mxC c xs pv.length)) xs) a q = mxC c xs a q) ∧ mxC c (rowL r c i (lsV p (mxC c xs i j) (mxC c xs i) (mxC c xs pv.length)) xs) i j = 0 := by
  have hp0 : 0 < p := by have := hp.1; omega
  have hnc := h.nc
  have hjn := h.jn
  have same : ∀ q, q < c → mxC c xs pv.length q = 0 → lsV p (mxC c xs i j) (mxC c xs i) (mxC c xs pv.length) q = mxC c xs i q := fun q hq h0 => by
    show (mxC c xs i q - mxC c xs i j * mxC c xs pv.length q) % p = mxC c xs i q
    rw [h0, Int.mul_zero, Int.sub_zero]
    have := h.can i q hi hq
    exact Int.emod_eq_of_lt this.1 this.2
  refine ⟨h.put hi (fun q _ => res_can hp0 _) ?_ ?_ ?_ ?_, fun a q ha hq hne => rowL_oth ha hq hne, ?_⟩
  · refine ((InP.row (p := p) (c := c) (A := mxC c xs) hi).add (InP.row ht) 1 (-(mxC c xs i j))).congr fun q _ => (Cg.emod p _).trans (Cg.of_eq ?_)
    rw [Int.one_mul, Int.neg_mul]; omega
  · have hR : InP p r c (mxC c (rowL r c i (lsV p (mxC c xs i j) (mxC c xs i) (mxC c xs pv.length)) xs)) (mxC c xs pv.length) := (InP.row (A := mxC c (rowL r c i (lsV p (mxC c xs i j) (mxC c xs i) (mxC c xs pv.length)) xs)) ht).congr fun q hq => Cg.of_eq (rowL_oth ht hq (fun e => hit e.symm)).symm
    refine ((InP.row (p := p) (c := c) (A := mxC c (rowL r c i (lsV p (mxC c xs i j) (mxC c xs i) (mxC c xs pv.length)) xs)) hi).add hR 1 (mxC c xs i j)).congr fun q hq => ?_
    rw [rowL_own hi hq, Int.one_mul]
    have h2 : Cg p (lsV p (mxC c xs i j) (mxC c xs i) (mxC c xs pv.length) q) (mxC c xs i q - mxC c xs i j * mxC c xs pv.length q) := Cg.emod p _
    exact (Cg.trans (h2.add (Cg.refl p _)) (Cg.of_eq (by omega))).symm
  · intro q hq h0
    rw [same q (by omega) (h.rest _ q (Nat.le_refl _) ht hq)]
    exact h0
  · intro hlt
    have hc := h.col i hlt
    rw [same _ (by omega) (h.rest _ _ (Nat.le_refl _) ht hc)]
    exact h.one i hlt
  · rw [rowL_own hi (by omega)]
    show (mxC c xs i j - mxC c xs i j * mxC c xs pv.length j) % p = 0
    rw [h1, Int.mul_one, Int.sub_self]
    exact Int.zero_emod p
theorem PInv.pivot (h : PInv p r c n M xs pv j) (ht : pv.length < r) (hj : j < n) (h1 : mxC c xs pv.length j = 1) (hz : ∀ i, i < r → i ≠ pv.length → mxC c xs i j = 0) : PInv p r c n M xs (pv ++ [j]) (j + 1) := by
  have hl : (pv ++ [j]).length = pv.length + 1 := by simp
  have old : ∀ k, k < pv.length → (pv ++ [j]).getD k 0 = pv.getD k 0 := fun k hk => by rw [List.getD, List.getD, List.getElem?_append_left hk]
  have new : (pv ++ [j]).getD pv.length 0 = j := by simp [List.getD]
  refine ⟨h.len, h.can, by omega, hj, h.nc, h.toM, h.ofM, ?_, ?_, ?_, ?_, ?_, ?_⟩
  · intro k hk
    rcases Nat.lt_or_ge k pv.length with h1 | h1
    · rw [old k h1]; have := h.col k h1; omega
    · obtain rfl : k = pv.length := by omega
      rw [new]; omega
  · intro k l hkl hll
    rcases Nat.lt_or_ge l pv.length with h1 | h1
    · rw [old k (by omega), old l h1]; exact h.inc k l hkl h1
    · obtain rfl : l = pv.length := by omega
      rw [old k hkl, new]; exact h.col k hkl
  · intro k hk
    rcases Nat.lt_or_ge k pv.length with h2 | h2
    · rw [old k h2]; exact h.one k h2
    · obtain rfl : k = pv.length := by omega
      rw [new]; exact h1
  · intro k i hk hi hne
    rcases Nat.lt_or_ge k pv.length with h1 | h1
    · rw [old k h1]; exact h.only k i h1 hi hne
    · obtain rfl : k = pv.length := by omega
      rw [new]; exact hz i hi hne
  · intro k q hk hq
    rcases Nat.lt_or_ge k pv.length with h1 | h1
    · rw [old k h1] at hq; exact h.left k q h1 hq
    · obtain rfl : k = pv.length := by omega
      rw [new] at hq; exact h.rest _ q (Nat.le_refl _) ht hq
  · intro i q hi hir hq
    rcases Nat.lt_or_ge q j with h1 | h1
    · exact h.rest i q (by omega) hir h1
    · obtain rfl : q = j := by omega
      exact hz i hir (by omega)
theorem PInv.ref (h : PInv p r c n M xs pv j) (he : j = n ∨ pv.length = r) : RefP r n (mxC c xs) (fun k => pv.getD k 0) pv.length where
  le := h.le
  col := fun k hk => by have := h.col k hk; have := h.jn; omega
  inc := h.inc
  one := h.one
  only := h.only
  left := h.left
  rest := fun i q hi hir hq => by
    rcases he with e | e
    · exact h.rest i q hi hir (by omega)
    · omega
end
/-! ### The determinant on the way -/
/-- The determinant of M is d times that of the cells. -/
def DInv (p : Int) (n : Nat) (M : Mx) (xs : List Int) (d : Int) : Prop := Cg p (det n M) (d * det n (mxC n xs))
theorem DInv.swap {p : Int} {n s t : Nat} {M : Mx} {xs : List Int} {d : Int} (h : DInv p n M xs d) (hx : xs.length = n * n) (hs : s < n) (ht : t < n) (hne : s ≠ t) : DInv p n M (swC s t n xs) ((-d) % p) := by
  have e : det n (mxC n (swC s t n xs)) = -det n (mxC n xs) := by
    rw [← det_swap (mxC n xs) hs ht hne]
    refine det_congr fun a b ha hb => ?_
    rw [swC_at hx ha hb]
    unfold swR
    by_cases h1 : a = s
    · rw [if_pos h1, if_pos h1]
    · rw [if_neg h1, if_neg h1]
      by_cases h2 : a = t
      · rw [if_pos h2, if_pos h2]
      · rw [if_neg h2, if_neg h2]
  unfold DInv
  rw [e]
  refine h.trans (Cg.symm (((Cg.emod p (-d)).mul (Cg.refl p _)).trans (Cg.of_eq ?_)))
  rw [Int.neg_mul_neg]
theorem DInv.scale {p : Int} {n t : Nat} {M : Mx} {xs : List Int} {d a z : Int} (h : DInv p n M xs d) (ht : t < n) (hz : InvP p a z) : DInv p n M (rowL n n t (scV p z (mxC n xs t)) xs) ((d * a) % p) := by
  have e : Cg p (det n (mxC n (rowL n n t (scV p z (mxC n xs t)) xs))) (z * det n (mxC n xs)) := by
    rw [← det_scale (mxC n xs) z ht]
    refine det_cg fun x y hx hy => ?_
    unfold stR
    by_cases h1 : x = t
    · rw [if_pos h1, h1, rowL_own ht hy]
      exact (Cg.emod p _).trans (Cg.of_eq (Int.mul_comm _ _))
    · rw [if_neg h1, rowL_oth hx hy h1]; exact Cg.refl _ _
  refine h.trans (Cg.symm (((Cg.emod p (d * a)).mul e).trans ?_))
  have h2 : Cg p (d * det n (mxC n xs) * (a * z)) (d * det n (mxC n xs) * 1) := Cg.mul_left _ hz
  rw [Int.mul_one] at h2
  exact Cg.trans (Cg.of_eq (by grind)) h2
theorem DInv.less {p : Int} {n i t : Nat} {M : Mx} {xs : List Int} {d x : Int} (h : DInv p n M xs d) (hi : i < n) (ht : t < n) (hne : i ≠ t) : DInv p n M (rowL n n i (lsV p x (mxC n xs i) (mxC n xs t)) xs) d := by
  have e : Cg p (det n (mxC n (rowL n n i (lsV p x (mxC n xs i) (mxC n xs t)) xs))) (det n (mxC n xs)) := by
    rw [← det_less (mxC n xs) x hi ht hne]
    refine det_cg fun a b ha hb => ?_
    unfold stR
    by_cases h1 : a = i
    · rw [if_pos h1, h1, rowL_own hi hb]
      exact Cg.emod p _
    · rw [if_neg h1, rowL_oth ha hb h1]; exact Cg.refl _ _
  exact h.trans (Cg.mul_left d e).symm
end Go.Proofs.Ytcapddcmnjeloaa
end

section
/-
  Plain mathematics of chapter 8: the elimination over residues as a function of lists. Nothing of a program is used.
-/
namespace Go.Proofs.Ytcapddcmnjeloaa

/-- The inverse of a residue, the least one from 0 on; 0 where there is none. -/
def invF (p a : Int) : Int := match (List.range p.toNat).find? (fun (x : Nat) => decide ((a * (x : Int)) % p = 1)) with
  | some x => (x : Int)
  | none => 0
theorem invF_of {p a x : Int} (hp : Prm p) (h0 : 0 ≤ x) (h1 : x < p) (h : InvP p a x) : invF p a = x := by
  have hp0 : 0 < p := by have := hp.1; omega
  have hx : (a * ((x.toNat : Nat) : Int)) % p = 1 := by
    rw [Int.toNat_of_nonneg h0, Cg.emod_eq hp0 h]
    exact Int.emod_eq_of_lt (by omega) (by have := hp.1; omega)
  unfold invF
  cases hf : (List.range p.toNat).find? (fun (x : Nat) => decide ((a * (x : Int)) % p = 1)) with
  | none =>
    have := List.find?_eq_none.mp hf x.toNat (List.mem_range.mpr (by omega))
    exact absurd (decide_eq_true hx) this
  | some y =>
    have h2 := List.find?_some hf
    have h3 := List.mem_range.mp (List.mem_of_find?_eq_some hf)
    have h4 : (a * (y : Int)) % p = 1 := of_decide_eq_true h2
    show (y : Int) = x
    have h5 : InvP p a y := by
      unfold InvP
      refine Cg.of_emod ?_
      rw [h4]
      exact (Int.emod_eq_of_lt (by omega) (by have := hp.1; omega)).symm
    exact Cg.eq ⟨by omega, by omega⟩ ⟨h0, h1⟩ (InvP.uniq hp h5 h)
/-- k rows from row i on without their cells in the pivot's column. -/
def clP (p : Int) (r c t j : Nat) : Nat → Nat → List Int → List Int
  | 0, _, xs => xs
  | k + 1, i, xs => if i = t ∨ mxC c xs i j = 0 then clP p r c t j k (i + 1) xs else clP p r c t j k (i + 1) (rowL r c i (lsV p (mxC c xs i j) (mxC c xs i) (mxC c xs t)) xs)
/-- k columns from column j on. -/
def elP (p : Int) (r c : Nat) : Nat → Nat → List Int → List Nat → Int → List Int × List Nat × Int
  | 0, _, xs, pv, d => (xs, pv, d)
  | k + 1, j, xs, pv, d =>
    if pv.length < r then
      if fstR c j xs (r - pv.length) pv.length = r then elP p r c k (j + 1) xs pv d
      else elP p r c k (j + 1)
        (clP p r c pv.length j r 0 (rowL r c pv.length (scV p (invF p (mxC c (swC (fstR c j xs (r - pv.length) pv.length) pv.length c xs) pv.length j)) (mxC c (swC (fstR c j xs (r - pv.length) pv.length) pv.length c xs) pv.length)) (swC (fstR c j xs (r - pv.length) pv.length) pv.length c xs)))
        (pv ++ [j])
        (((if fstR c j xs (r - pv.length) pv.length = pv.length then d else (-d) % p) * mxC c (swC (fstR c j xs (r - pv.length) pv.length) pv.length c xs) pv.length j) % p)
    else (xs, pv, d)
theorem clP_skip {p : Int} {r c t j k i : Nat} {xs : List Int} (h : i = t ∨ mxC c xs i j = 0) : clP p r c t j (k + 1) i xs = clP p r c t j k (i + 1) xs := if_pos h
theorem clP_on {p : Int} {r c t j k i : Nat} {xs : List Int} (h : ¬ (i = t ∨ mxC c xs i j = 0)) : clP p r c t j (k + 1) i xs = clP p r c t j k (i + 1) (rowL r c i (lsV p (mxC c xs i j) (mxC c xs i) (mxC c xs t)) xs) := if_neg h
theorem elP_end {p : Int} {r c k j : Nat} {xs : List Int} {pv : List Nat} {d : Int} (h : ¬ pv.length < r) : elP p r c k j xs pv d = (xs, pv, d) := by
  cases k with
  | zero => rfl
  | succ k => exact if_neg h
theorem elP_skip {p : Int} {r c k j : Nat} {xs : List Int} {pv : List Nat} {d : Int} (h : pv.length < r) (hf : fstR c j xs (r - pv.length) pv.length = r) : elP p r c (k + 1) j xs pv d = elP p r c k (j + 1) xs pv d := by
  show (if pv.length < r then _ else _) = _
  rw [if_pos h, if_pos hf]
theorem elP_on {p : Int} {r c k j s : Nat} {xs : List Int} {pv : List Nat} {d : Int} (h : pv.length < r) (hf : fstR c j xs (r - pv.length) pv.length = s) (hs : s ≠ r) :
    elP p r c (k + 1) j xs pv d = elP p r c k (j + 1) (clP p r c pv.length j r 0 (rowL r c pv.length (scV p (invF p (mxC c (swC s pv.length c xs) pv.length j)) (mxC c (swC s pv.length c xs) pv.length)) (swC s pv.length c xs))) (pv ++ [j]) (((if s = pv.length then d else (-d) % p) * mxC c (swC s pv.length c xs) pv.length j) % p) := by
  show (if pv.length < r then _ else _) = _
  rw [if_pos h, hf, if_neg hs]
/-- What the inverse is one of. -/
def HasInv (p : Int) : Prop := ∀ a : Int, ¬ p ∣ a → ∃ x : Int, 0 ≤ x ∧ x < p ∧ InvP p a x
theorem HasInv.inv {p : Int} (h : HasInv p) (hp : Prm p) {a : Int} (ha : ¬ p ∣ a) : InvP p a (invF p a) ∧ 0 ≤ invF p a ∧ invF p a < p := by
  obtain ⟨x, h0, h1, hx⟩ := h a ha
  rw [invF_of hp h0 h1 hx]
  exact ⟨hx, h0, h1⟩
theorem can_nd {p a : Int} (h : 0 ≤ a ∧ a < p) (h0 : a ≠ 0) : ¬ p ∣ a := fun hd => by
  have := Int.le_of_dvd (by omega) hd
  omega
theorem PInv.clear {p : Int} (hp : Prm p) {r c n : Nat} {M : Mx} {pv : List Nat} {j : Nat} (ht : pv.length < r) (hj : j < n) : ∀ (k i : Nat) (xs : List Int), i + k = r → PInv p r c n M xs pv j → mxC c xs pv.length j = 1 → (∀ a, a < i → a ≠ pv.length → mxC c xs a j = 0) →
    PInv p r c n M (clP p r c pv.length j k i xs) pv j ∧ mxC c (clP p r c pv.length j k i xs) pv.length j = 1 ∧ (∀ a, a < r → a ≠ pv.length → mxC c (clP p r c pv.length j k i xs) a j = 0) ∧ (r = c → ∀ d, DInv p r M xs d → DInv p r M (clP p r c pv.length j k i xs) d) := by
  intro k
  induction k with
  | zero =>
    intro i xs hik h h1 hz
    obtain rfl : i = r := by omega
    exact ⟨h, h1, hz, fun _ _ h => h⟩
  | succ k ih =>
    intro i xs hik h h1 hz
    by_cases hs : i = pv.length ∨ mxC c xs i j = 0
    · rw [clP_skip hs]
      refine ih (i + 1) xs (by omega) h h1 fun a ha hne => ?_
      rcases Nat.lt_or_ge a i with h2 | h2
      · exact hz a h2 hne
      · obtain rfl : a = i := by omega
        exact hs.resolve_left hne
    · rw [clP_on hs]
      have hi : i < r := by omega
      have hit : i ≠ pv.length := fun e => hs (.inl e)
      obtain ⟨h2, h3, h4⟩ := h.less hp ht hj hi hit h1
      have hnc := h.nc
      obtain ⟨e1, e2, e3, e4⟩ := ih (i + 1) _ (by omega) h2 (by rw [h3 _ _ ht (by omega) (fun e => hit e.symm)]; exact h1) fun a ha hne => by
        by_cases e : a = i
        · rw [e]; exact h4
        · rw [h3 a j (by omega) (by omega) e]; exact hz a (by omega) hne
      exact ⟨e1, e2, e3, fun hrc d hd => e4 hrc d (by subst hrc; exact hd.less hi ht hit)⟩
theorem PInv.all {p : Int} (hp : Prm p) (hI : HasInv p) {r c n : Nat} {M : Mx} : ∀ (k j : Nat) (xs : List Int) (pv : List Nat) (d : Int), j + k = n → PInv p r c n M xs pv j → 0 ≤ d ∧ d < p →
    (∃ j', PInv p r c n M (elP p r c k j xs pv d).1 (elP p r c k j xs pv d).2.1 j' ∧ (j' = n ∨ (elP p r c k j xs pv d).2.1.length = r)) ∧ (0 ≤ (elP p r c k j xs pv d).2.2 ∧ (elP p r c k j xs pv d).2.2 < p) ∧ (r = c → DInv p r M xs d → DInv p r M (elP p r c k j xs pv d).1 (elP p r c k j xs pv d).2.2) := by
  have hp0 : 0 < p := by have := hp.1; omega
  intro k
  induction k with
  | zero =>
    intro j xs pv d hjk h hd
    obtain rfl : j = n := by omega
    exact ⟨⟨j, h, .inl rfl⟩, hd, fun _ h => h⟩
  | succ k ih =>
    intro j xs pv d hjk h hd
    have hnc := h.nc
    have hj : j < n := by omega
    by_cases ht : pv.length < r
    · obtain ⟨f1, f2, f3, f4⟩ := fstR_says (c := c) (j := j) (xs := xs) (k := r - pv.length) (p := pv.length)
      by_cases hf : fstR c j xs (r - pv.length) pv.length = r
      · rw [elP_skip ht hf]
        exact ih (j + 1) xs pv d (by omega) (h.skip hj fun i h1 h2 => f3 i h1 (by omega)) hd
      · obtain ⟨s, hs⟩ : ∃ s, fstR c j xs (r - pv.length) pv.length = s := ⟨_, rfl⟩
        rw [elP_on ht hs (by omega)]
        rw [hs] at f1 f2 f3 f4 hf
        have hsr : s < r := by omega
        have h1 := h.swap f1 hsr
        have hy : mxC c (swC s pv.length c xs) pv.length j ≠ 0 := by
          rw [swC_at h.len ht (by omega)]
          by_cases e : pv.length = s
          · rw [if_pos e, e]; exact f4 (by omega)
          · rw [if_neg e, if_pos rfl]; exact f4 (by omega)
        have hnd := can_nd (h1.can _ _ ht (show j < c by omega)) hy
        obtain ⟨hz, -, -⟩ := hI.inv hp hnd
        obtain ⟨h2, h3⟩ := h1.scale hp ht hj hz
        obtain ⟨e1, e2, e3, e4⟩ := PInv.clear hp ht hj r 0 _ (by omega) h2 h3 (fun a ha => absurd ha (Nat.not_lt_zero a))
        have h5 := e1.pivot ht hj e2 e3
        obtain ⟨g1, g2, g3⟩ := ih (j + 1) _ (pv ++ [j]) (((if s = pv.length then d else (-d) % p) * mxC c (swC s pv.length c xs) pv.length j) % p) (by omega) h5 (res_can hp0 _)
        refine ⟨g1, g2, fun hrc hD => g3 hrc (e4 hrc _ ?_)⟩
        subst hrc
        refine DInv.scale ?_ ht hz
        by_cases e : s = pv.length
        · rw [if_pos e]
          unfold swC
          rw [if_pos e]; exact hD
        · rw [if_neg e]
          exact hD.swap h.len hsr ht e
    · rw [elP_end ht]
      exact ⟨⟨j, h, .inr (show pv.length = r by have := h.le; omega)⟩, hd, fun _ h => h⟩
end Go.Proofs.Ytcapddcmnjeloaa
end

section
/-
  Plain mathematics of chapter 8: primes up to the limit, inverses of residues. Nothing of a program is used.
-/
namespace Go.Proofs.Ytcapddcmnjeloaa

/-- The check of IsPrime. -/
def prmB (p : Int) : Bool := decide (2 ≤ p ∧ p ≤ 10000) && (List.range 101).all fun d => decide (¬ (2 ≤ d ∧ ((d : Nat) : Int) * (d : Int) ≤ p ∧ (d : Int) ∣ p))
theorem prmB_says {p : Int} (h : prmB p = true) : Prm p ∧ p ≤ 10000 := by
  unfold prmB at h
  rw [Bool.and_eq_true, decide_eq_true_eq, List.all_eq_true] at h
  obtain ⟨⟨h1, h2⟩, h3⟩ := h
  refine ⟨⟨h1, fun d hd hdd hdv => ?_⟩, h2⟩
  have hd1 : d ≤ 100 := by
    rcases Int.lt_or_le 100 d with h4 | h4
    · have : (101 : Int) * 101 ≤ d * d := Int.mul_le_mul (by omega) (by omega) (by omega) (by omega)
      omega
    · exact h4
  obtain ⟨e, rfl⟩ := Int.eq_ofNat_of_zero_le (show 0 ≤ d by omega)
  have h4 := of_decide_eq_true (h3 e (List.mem_range.mpr (by omega)))
  exact h4 ⟨by omega, hdd, hdv⟩
theorem prmB_true {p : Int} (h1 : 2 ≤ p ∧ p ≤ 10000) (h2 : ∀ d : Nat, 2 ≤ d → (d : Int) * (d : Int) ≤ p → ¬ (d : Int) ∣ p) : prmB p = true := by
  unfold prmB
  rw [Bool.and_eq_true, decide_eq_true_eq, List.all_eq_true]
  exact ⟨h1, fun d _ => decide_eq_true fun h => h2 d h.1 h.2.1 h.2.2⟩
theorem prmB_out {p : Int} (h : p < 2 ∨ 10000 < p) : prmB p = false := by
  unfold prmB
  rw [decide_eq_false (by omega), Bool.false_and]
theorem prmB_div {p : Int} {d : Nat} (hd : 2 ≤ d) (hdd : (d : Int) * (d : Int) ≤ p) (hdv : (d : Int) ∣ p) : prmB p = false := by
  cases h : prmB p with
  | false => rfl
  | true => exact absurd hdv ((prmB_says h).1.2 d (by omega) hdd)
/-- Every number and its divisor are combinations. -/
theorem bez : ∀ b a : Nat, ∃ x y : Int, (a : Int) * x + (b : Int) * y = (Nat.gcd a b : Nat) := by
  intro b
  induction b using Nat.strongRecOn with
  | ind b ih =>
    intro a
    rcases Nat.eq_zero_or_pos b with h | h
    · subst h
      exact ⟨1, 0, by simp⟩
    · obtain ⟨x, y, e⟩ := ih (a % b) (Nat.mod_lt a h) b
      refine ⟨y, x - ((a / b : Nat) : Int) * y, ?_⟩
      have e1 : Nat.gcd a b = Nat.gcd b (a % b) := by rw [Nat.gcd_comm a b, Nat.gcd_rec b a, Nat.gcd_comm]
      have e2 : (a : Int) = (b : Int) * ((a / b : Nat) : Int) + ((a % b : Nat) : Int) := by
        rw [← Int.natCast_mul, ← Int.natCast_add, Nat.div_add_mod]
      rw [e1, ← e]
      generalize ((a / b : Nat) : Int) = u at e2 ⊢
      generalize ((a % b : Nat) : Int) = v at e2 ⊢
      rw [e2]
      grind
theorem Prm.hasInv {p : Int} (h : Prm p) : HasInv p := fun a ha => by
  have hp0 : 0 < p := by have := h.1; omega
  obtain ⟨n, hn⟩ := Int.eq_ofNat_of_zero_le (Int.emod_nonneg a (show p ≠ 0 by omega))
  obtain ⟨q, hq⟩ := Int.eq_ofNat_of_zero_le (show 0 ≤ p by omega)
  obtain ⟨x, y, e⟩ := bez q n
  have hna : ¬ p ∣ (n : Int) := fun hd => ha (by
    have h1 : Cg p a (a % p) := (Cg.emod p a).symm
    rw [hn] at h1
    exact Cg.zero.mp (h1.trans (Cg.zero.mpr hd)))
  have hg := h.gcd hna
  have hg2 : (Nat.gcd n q : Nat) = 1 := by
    have : ((n : Int).gcd p) = Nat.gcd n q := by rw [hq]; rfl
    omega
  rw [hg2] at e
  refine ⟨x % p, Int.emod_nonneg _ (by omega), Int.emod_lt_of_pos _ hp0, ?_⟩
  have h1 : Cg p (a * (x % p)) ((n : Int) * x) := by
    rw [← hn]
    exact (Cg.emod p a).symm.mul (Cg.emod p x)
  refine Cg.trans h1 ⟨-y, ?_⟩
  rw [hq, Int.mul_neg]
  have e' : (n : Int) * x + (q : Int) * y = 1 := e
  omega
/-- What InverseModulo gives. -/
def ivM (p a : Int) : Int × Bool := if (prmB p && decide (NumP a) && decide (a % p ≠ 0)) = true then (invF p (a % p), true) else (0, false)
theorem emod_nd {p a : Int} (hp : 0 < p) (h : a % p ≠ 0) : ¬ p ∣ a % p := can_nd (res_can hp a) h
theorem invF_ext {p a g x y : Int} (hp : Prm p) (h : a * x + p * y = g) (hg : g = 1) : invF p a = x % p := by
  have hp0 : 0 < p := by have := hp.1; omega
  refine invF_of hp (Int.emod_nonneg _ (by omega)) (Int.emod_lt_of_pos _ hp0) ?_
  refine ((Cg.refl p a).mul (Cg.emod p x)).trans ⟨-y, ?_⟩
  rw [Int.mul_neg]
  omega
/-- The residues of all cells. -/
def resL (p : Int) (xs : List Int) : List Int := xs.map fun z => z % p
theorem resL_at {p : Int} {xs : List Int} (k : Nat) : (resL p xs).getD k 0 = xs.getD k 0 % p := by
  unfold resL
  rcases Nat.lt_or_ge k xs.length with h | h
  · simp [List.getD, h]
  · simp [List.getD, List.getElem?_eq_none h]
/-- What ReduceMod gives. -/
def redM (r c p : Int) (xs : List Int) : MR := if (isMat r c xs && prmB p) = true then ⟨true, r, c, resL p xs⟩ else MR.no
/-- Cells that are residues. -/
def CanL (p : Int) (xs : List Int) : Prop := ∀ k, k < xs.length → 0 ≤ xs.getD k 0 ∧ xs.getD k 0 < p
theorem resL_can {p : Int} (hp : 0 < p) (xs : List Int) : CanL p (resL p xs) := fun k _ => by rw [resL_at]; exact res_can hp _
theorem CanL.mx {p : Int} {r c : Nat} {xs : List Int} (h : CanL p xs) (hx : xs.length = r * c) {i j : Nat} (hi : i < r) (hj : j < c) : 0 ≤ mxC c xs i j ∧ mxC c xs i j < p := h _ (by rw [hx]; exact idx_lt hi hj)
theorem CanL.of {p : Int} {r c : Nat} {xs : List Int} (hx : xs.length = r * c) (h : ∀ i j, i < r → j < c → 0 ≤ mxC c xs i j ∧ mxC c xs i j < p) : CanL p xs := fun k hk => by
  rw [hx] at hk
  have hc : 0 < c := by
    rcases Nat.eq_zero_or_pos c with e | e
    · subst e; omega
    · exact e
  have e : k = k / c * c + k % c := by rw [Nat.mul_comm]; exact (Nat.div_add_mod k c).symm
  have := h (k / c) (k % c) (Nat.div_lt_of_lt_mul (by rw [Nat.mul_comm]; exact hk)) (Nat.mod_lt k hc)
  unfold mxC at this
  rw [← e] at this
  exact this
theorem CanL.sw {p : Int} {r c s t : Nat} {xs : List Int} (h : CanL p xs) (hx : xs.length = r * c) (hs : s < r) (ht : t < r) : CanL p (swC s t c xs) := CanL.of (by rw [swC_length]; exact hx) fun i j hi hj => by
  rw [swC_at hx hi hj]
  refine h.mx hx ?_ hj
  split
  · exact ht
  · split <;> omega
theorem CanL.row {p : Int} {r c i : Nat} {v : Nat → Int} {xs : List Int} (h : CanL p xs) (hx : xs.length = r * c) (hv : ∀ q, q < c → 0 ≤ v q ∧ v q < p) : CanL p (rowL r c i v xs) := CanL.of (rowL_length _ _ _ _ _) fun a j ha hj => by
  by_cases e : a = i
  · rw [e, rowL_own (by omega) hj]; exact hv j hj
  · rw [rowL_oth ha hj e]; exact h.mx hx ha hj
end Go.Proofs.Ytcapddcmnjeloaa
end

section
/-
  Plain mathematics of chapter 7: the rank of a matrix turned over; products. Nothing of a program is used.
-/
namespace Go.Proofs.Ytcapddcmnjeloaa

theorem sumN_skip (n a : Nat) (ha : a < n + 1) (f : Nat → Int) : sumN (n + 1) f = f a + sumN n fun i => f (skp a i) := by
  induction n generalizing a with
  | zero =>
    obtain rfl : a = 0 := by omega
    show sumN 0 f + f 0 = _
    simp [sumN]
  | succ n ih =>
    rcases Nat.lt_or_ge a (n + 1) with h | h
    · have e := ih a h
      have e2 : skp a n = n + 1 := by unfold skp; rw [if_neg (by omega)]
      have : sumN (n + 1) (fun i => f (skp a i)) = sumN n (fun i => f (skp a i)) + f (skp a n) := rfl
      rw [this, e2]
      show sumN (n + 1) f + f (n + 1) = _
      rw [e, Int.add_assoc]
    · obtain rfl : a = n + 1 := by omega
      show sumN (n + 1) f + f (n + 1) = _
      rw [Int.add_comm]
      congr 1
      refine sumN_congr fun i hi => ?_
      unfold skp
      rw [if_pos (by omega)]
/-- More unknowns than equations: there is a solution that is not 0. -/
theorem ker_some : ∀ (t s : Nat) (C : Mx), t < s → ∃ l : Nat → Int, (∃ i, i < s ∧ l i ≠ 0) ∧ ∀ j, j < t → (sumN s fun i => l i * C i j) = 0 := by
  intro t
  induction t with
  | zero => intro s C hs; exact ⟨fun _ => 1, ⟨0, hs, by decide⟩, fun j hj => by omega⟩
  | succ t ih =>
    intro s C hs
    by_cases hz : ∀ i, i < s → C i t = 0
    · obtain ⟨l, hl, h0⟩ := ih s C (by omega)
      refine ⟨l, hl, fun j hj => ?_⟩
      rcases Nat.lt_or_ge j t with h | h
      · exact h0 j h
      · obtain rfl : j = t := by omega
        exact sumN_all_zero fun i hi => by rw [hz i hi, Int.mul_zero]
    · have : ∃ a, a < s ∧ C a t ≠ 0 := Classical.byContradiction fun hn => hz fun i hi => Classical.byContradiction fun h => hn ⟨i, hi, h⟩
      obtain ⟨a, ha, hat⟩ := this
      obtain ⟨s, rfl⟩ : ∃ m, s = m + 1 := ⟨s - 1, by omega⟩
      obtain ⟨l, ⟨b, hb, hlb⟩, h0⟩ := ih s (fun i j => C a t * C (skp a i) j - C (skp a i) t * C a j) (by omega)
      have hself : ∀ i, skp a i ≠ a := fun i => skp_ne a i
      let L : Nat → Int := fun i => if i = a then -(sumN s fun i => l i * C (skp a i) t) else C a t * l (unskp a i)
      have LA : L a = -(sumN s fun i => l i * C (skp a i) t) := if_pos rfl
      have LS : ∀ i, L (skp a i) = C a t * l i := fun i => by
        show (if skp a i = a then _ else _) = _
        rw [if_neg (hself i), unskp_skp]
      refine ⟨L, ⟨skp a b, skp_lt hb, by rw [LS]; exact Int.mul_ne_zero hat hlb⟩, fun j hj => ?_⟩
      rw [sumN_skip s a ha, LA, Int.neg_mul, sumN_mul]
      have e1 : (sumN s fun i => L (skp a i) * C (skp a i) j) = sumN s fun i => C a t * l i * C (skp a i) j := sumN_congr fun i _ => by rw [LS]
      rw [e1]
      rcases Nat.lt_or_ge j t with h | h
      · have := h0 j h
        have e2 : (sumN s fun i => C a t * l i * C (skp a i) j) = sumN s (fun i => l i * (C a t * C (skp a i) j - C (skp a i) t * C a j)) + sumN s (fun i => l i * C (skp a i) t * C a j) := by
          rw [← sumN_add]
          exact sumN_congr fun i _ => by grind
        rw [e2, this]
        omega
      · obtain rfl : j = t := by omega
        have e2 : (sumN s fun i => C a j * l i * C (skp a i) j) = sumN s (fun i => l i * C (skp a i) j * C a j) := sumN_congr fun i _ => by grind
        rw [e2]
        omega
/-- One divisor for all. -/
theorem one_den {r c s : Nat} {A B : Mx} (h : SubSp r s c A B) : ∃ (d : Int) (K : Mx), d ≠ 0 ∧ ∀ i j, i < r → j < c → d * A i j = sumN s fun k => K i k * B k j := by
  induction r with
  | zero => exact ⟨1, fun _ _ => 0, by decide, fun i j hi => by omega⟩
  | succ r ih =>
    obtain ⟨d, K, hd, hK⟩ := ih fun i hi => h i (by omega)
    obtain ⟨e, k, he, hk⟩ := h r (by omega)
    refine ⟨d * e, fun i j => if i = r then d * k j else e * K i j, Int.mul_ne_zero hd he, fun i j hi hj => ?_⟩
    by_cases hir : i = r
    · subst hir
      have e1 : (sumN s fun l => (if i = i then d * k l else e * K i l) * B l j) = sumN s fun l => d * (k l * B l j) := sumN_congr fun l _ => by rw [if_pos rfl, Int.mul_assoc]
      show _ = sumN s fun l => (if i = i then d * k l else e * K i l) * B l j
      rw [e1, ← sumN_mul_left, ← hk j hj, Int.mul_assoc]
    · have e1 : (sumN s fun l => (if i = r then d * k l else e * K i l) * B l j) = sumN s fun l => e * (K i l * B l j) := sumN_congr fun l _ => by rw [if_neg hir, Int.mul_assoc]
      show _ = sumN s fun l => (if i = r then d * k l else e * K i l) * B l j
      rw [e1, ← sumN_mul_left, ← hK i j (by omega) hj]
      grind
/-- An echelon form inside the span of t rows has at most t pivots. -/
theorem Ech.few {r c s : Nat} {B : Mx} {q : Nat → Nat} (h : Ech r c B q s) {t : Nat} {K : Mx} (hs : SubSp r t c B K) : s ≤ t := by
  refine Classical.byContradiction fun hn => ?_
  obtain ⟨d, C, hd, hC⟩ := one_den hs
  obtain ⟨l, ⟨i, hi, hli⟩, h0⟩ := ker_some t s C (by omega)
  have hr : s ≤ r := h.le
  have hz : ∀ j, j < c → (sumN s fun i => l i * (d * B i j)) = 0 := fun j hj => by
    have e : (sumN s fun i => l i * (d * B i j)) = sumN s fun i => sumN t fun k => l i * C i k * K k j := sumN_congr fun i hi => by
      rw [hC i j (by omega) hj, sumN_mul_left]
      exact sumN_congr fun k _ => by rw [Int.mul_assoc]
    rw [e, sumN_swap]
    refine sumN_all_zero fun k hk => ?_
    rw [← sumN_mul, h0 k hk, Int.zero_mul]
  have := hz (q i) (h.col i hi)
  rw [sumN_one hi (fun k hk hne => by rw [h.only i k hi (by omega) hne, Int.mul_zero, Int.mul_zero])] at this
  have hp := h.pos i hi
  rcases Int.mul_eq_zero.mp this with h1 | h1
  · exact hli h1
  · rcases Int.mul_eq_zero.mp h1 with h2 | h2
    · exact hd h2
    · omega
theorem rank_tr_le {r c t s : Nat} {M A B : Mx} {p q : Nat → Nat} (hA : Ech r c A p t) (hMA : SubSp r r c M A) (hB : Ech c r B q s) (hBM : SubSp c c r B (trX M)) : s ≤ t := by
  -- the rows of A behind the pivots' are 0
  have hMA' : SubSp r t c M A := fun i hi => by
    obtain ⟨d, k, hd, hk⟩ := hMA i hi
    refine ⟨d, k, hd, fun j hj => ?_⟩
    rw [hk j hj]
    obtain ⟨m, hm⟩ : ∃ m, r = t + m := ⟨r - t, by have := hA.le; omega⟩
    have key : ∀ m, t + m ≤ r → (sumN (t + m) fun i => k i * A i j) = sumN t fun i => k i * A i j := by
      intro m
      induction m with
      | zero => intro _; rfl
      | succ m ih =>
        intro h
        show sumN (t + m) _ + k (t + m) * A (t + m) j = _
        rw [ih (by omega), hA.rest (t + m) j (by omega) (by omega) hj, Int.mul_zero, Int.add_zero]
    rw [hm]
    exact key m (by omega)
  obtain ⟨d, K, hd, hK⟩ := one_den hMA'
  have hsub : SubSp c t r (trX M) (trX K) := fun j hj => ⟨d, fun k => A k j, hd, fun i hi => by
    show d * M i j = sumN t fun k => A k j * K i k
    rw [hK i j hi hj]
    exact sumN_congr fun k _ => Int.mul_comm _ _⟩
  exact hB.few (hBM.trans hsub)
/-- The rank of a matrix turned over is that of the matrix. -/
theorem rank_tr {r c t s : Nat} {M A B : Mx} {p q : Nat → Nat} (hA : Ech r c A p t) (hMA : SubSp r r c M A) (hAM : SubSp r r c A M) (hB : Ech c r B q s) (hBM : SubSp c c r B (trX M)) (hMB : SubSp c c r (trX M) B) : s = t := by
  have h1 := rank_tr_le hA hMA hB hBM
  have h2 := rank_tr_le (M := trX M) hB hMB hA hAM
  omega
/-- The rows of a product are in the span of the right factor's. -/
theorem sub_mul {n c : Nat} (U M : Mx) : SubSp n n c (mulX n U M) M := fun i _ => ⟨1, U i, by decide, fun j _ => by rw [Int.one_mul]; rfl⟩
theorem mul_sub {n c : Nat} {U M V : Mx} {d : Int} (hd : d ≠ 0) (h : ∀ i k, i < n → k < n → mulX n V U i k = if i = k then d else 0) : SubSp n n c M (mulX n U M) := fun i hi => by
  refine ⟨d, V i, hd, fun j hj => ?_⟩
  have e : (sumN n fun k => V i k * mulX n U M k j) = sumN n fun l => mulX n V U i l * M l j := by
    have e1 : (sumN n fun k => V i k * mulX n U M k j) = sumN n fun k => sumN n fun l => V i k * U k l * M l j := sumN_congr fun k _ => by
      show V i k * sumN n _ = _
      rw [sumN_mul_left]
      exact sumN_congr fun l _ => by rw [Int.mul_assoc]
    rw [e1, sumN_swap]
    refine sumN_congr fun l _ => ?_
    show _ = sumN n _ * M l j
    rw [sumN_mul]
  rw [e, sumN_one hi (fun l hl hne => by rw [h i l hi hl, if_neg (fun e => hne e.symm), Int.zero_mul]), h i i hi hi, if_pos rfl]
/-- A product with a factor whose determinant is not 0 spans what the other factor spans. -/
theorem span_mul {n c : Nat} {U M : Mx} (h : det n U ≠ 0) : SubSp n n c M (mulX n U M) := by
  cases n with
  | zero => intro i hi; omega
  | succ n => exact mul_sub h (fun i k hi hk => adj_mul n U i k hi hk)
/-- Two matrices, one on top of the other. -/
def stkX (r : Nat) (A B : Mx) : Mx := fun i j => if i < r then A i j else B (i - r) j
theorem stk_left {r s c : Nat} {A B : Mx} : SubSp r (r + s) c A (stkX r A B) := fun i hi => (InSp.row (A := stkX r A B) (show i < r + s by omega)).congr fun j _ => by show A i j = if i < r then _ else _; rw [if_pos hi]
theorem stk_right {r s c : Nat} {A B : Mx} : SubSp s (r + s) c B (stkX r A B) := fun i hi => (InSp.row (A := stkX r A B) (show r + i < r + s by omega)).congr fun j _ => by
  show B i j = if r + i < r then _ else B (r + i - r) j
  rw [if_neg (by omega), show r + i - r = i by omega]
theorem stk_sub {r s t c : Nat} {A B C : Mx} (h : SubSp r t c A C) (h' : SubSp s t c B C) : SubSp (r + s) t c (stkX r A B) C := fun i hi => by
  by_cases e : i < r
  · exact (h i e).congr fun j _ => by show (if i < r then _ else _) = _; rw [if_pos e]
  · exact (h' (i - r) (by omega)).congr fun j _ => by show (if i < r then _ else _) = _; rw [if_neg e]
end Go.Proofs.Ytcapddcmnjeloaa
end

section
/-
  Plain mathematics of chapter 7: what the laws ask of echelon forms. Nothing of a program is used.
-/
namespace Go.Proofs.Ytcapddcmnjeloaa

theorem elimR_fix {r c t j : Nat} {xs : List Int} : ∀ (k i : Nat), (∀ p, i ≤ p → p < i + k → p = t ∨ mxC c xs p j = 0) → elimR r c t j k i xs = some xs := by
  intro k
  induction k with
  | zero => intro i _; rfl
  | succ k ih =>
    intro i h
    show (if i = t ∨ mxC c xs i j = 0 then elimR r c t j k (i + 1) xs else _) = _
    rw [if_pos (h i (Nat.le_refl _) (by omega))]
    exact ih (i + 1) fun p h1 h2 => h p (by omega) (by omega)
theorem map_getD {t : Nat} {p : Nat → Nat} {i : Nat} (hi : i < t) : ((List.range t).map p).getD i 0 = p i := by simp [List.getD, hi]
theorem echC_fix {r c t : Nat} {xs : List Int} {p : Nat → Nat} (h : Ech r c (mxC c xs) p t) : ∀ (k j m : Nat), j + k = c → m ≤ t → (∀ i, i < m → p i < j) → (m < t → j ≤ p m) → echC r c k j xs ((List.range m).map p) = some (xs, (List.range t).map p) := by
  intro k
  induction k with
  | zero =>
    intro j m hjk hm _ h2
    have : m = t := by
      rcases Nat.lt_or_ge m t with h3 | h3
      · have := h2 h3; have := h.col m h3; omega
      · omega
    rw [this]; rfl
  | succ k ih =>
    intro j m hjk hm h1 h2
    have hl : ((List.range m).map p).length = m := by simp
    show (if ((List.range m).map p).length < r then
      if fstR c j xs (r - ((List.range m).map p).length) ((List.range m).map p).length = r then echC r c k (j + 1) xs ((List.range m).map p)
      else match elimR r c ((List.range m).map p).length j r 0 (swC (fstR c j xs (r - ((List.range m).map p).length) ((List.range m).map p).length) ((List.range m).map p).length c xs) with
        | none => none
        | some ys => echC r c k (j + 1) ys ((List.range m).map p ++ [j])
    else some (xs, (List.range m).map p)) = _
    rw [hl]
    have hle := h.le
    by_cases hmr : m < r
    · rw [if_pos hmr]
      by_cases hp : m < t ∧ p m = j
      · obtain ⟨hmt, hpm⟩ := hp
        have hpos := h.pos m hmt
        rw [hpm] at hpos
        have hf : fstR c j xs (r - m) m = m := fstR_eq (Nat.le_refl _) (by omega) (fun i h3 h4 => by omega) (fun _ => by omega)
        rw [hf, if_neg (by omega)]
        have hs : swC m m c xs = xs := by unfold swC; rw [if_pos rfl]
        have he : elimR r c m j r 0 xs = some xs := elimR_fix r 0 fun q _ hq => by
          by_cases e : q = m
          · exact .inl e
          · right
            have := h.only m q hmt (by omega) e
            rw [hpm] at this
            exact this
        rw [hs, he]
        show echC r c k (j + 1) xs ((List.range m).map p ++ [j]) = _
        have e : (List.range m).map p ++ [j] = (List.range (m + 1)).map p := by rw [List.range_succ, List.map_append, List.map_cons, List.map_nil, hpm]
        rw [e]
        refine ih (j + 1) (m + 1) (by omega) hmt (fun i hi => ?_) (fun h3 => ?_)
        · rcases Nat.lt_or_ge i m with h4 | h4
          · have := h1 i h4; omega
          · obtain rfl : i = m := by omega
            omega
        · have := h.inc m (m + 1) (by omega) h3
          omega
      · have hz : ∀ i, m ≤ i → i < r → mxC c xs i j = 0 := fun i h3 h4 => by
          rcases Nat.lt_or_ge i t with h5 | h5
          · have h6 : m < t := by omega
            have h7 := h2 h6
            have h8 : j < p m := by
              have : p m ≠ j := fun e => hp ⟨h6, e⟩
              omega
            rcases Nat.lt_or_ge m i with h9 | h9
            · have := h.inc m i h9 h5
              exact h.left i j h5 (by omega)
            · obtain rfl : i = m := by omega
              exact h.left i j h5 h8
          · exact h.rest i j h5 h4 (by omega)
        have hf : fstR c j xs (r - m) m = r := fstR_eq (by omega) (by omega) (fun i h3 h4 => hz i h3 h4) (fun h3 => by omega)
        rw [hf, if_pos rfl]
        refine ih (j + 1) m (by omega) hm (fun i hi => by have := h1 i hi; omega) (fun h3 => ?_)
        have h4 := h2 h3
        have : p m ≠ j := fun e => hp ⟨h3, e⟩
        omega
    · rw [if_neg hmr]
      have : m = t := by omega
      rw [this]
theorem prTo_fix {r c : Nat} {xs : List Int} (hx : xs.length = r * c) (hn : ∀ i, i < r → Norm c (mxC c xs i)) : prTo r c r xs = xs := by
  refine (tab_ext hx fun i j hi hj => ?_).symm
  rw [if_pos hi, prV_id (hn i hi) hj]
  rfl
theorem pv_map {pv : List Nat} : (List.range pv.length).map (fun k => pv.getD k 0) = pv := by
  refine List.ext_getElem (by simp) fun i h1 h2 => ?_
  simp [List.getD, h2]
/-- An echelon form stays us it is. -/
theorem echM_fix {r c : Nat} {xs ys : List Int} {pv : List Nat} (hx : xs.length = r * c) (hn : nums xs = true) (h : echM r c xs = some (ys, pv)) : echM r c ys = some (ys, pv) := by
  obtain ⟨he, -, -, hl, -, hm⟩ := echM_says hx hn h
  unfold echM
  rw [prTo_fix hl hm]
  have := echC_fix he c 0 0 (by omega) (Nat.zero_le _) (fun i hi => by omega) (fun _ => Nat.zero_le _)
  rw [pv_map] at this
  exact this
theorem mx_ext {r c : Nat} {xs ys : List Int} (hx : xs.length = r * c) (hy : ys.length = r * c) (h : ∀ i j, i < r → j < c → mxC c xs i j = mxC c ys i j) : xs = ys := by
  have e1 := tab_ext (r := r) (c := c) (f := mxC c ys) hx h
  have e2 := tab_ext (r := r) (c := c) (f := mxC c ys) hy (fun _ _ _ _ => rfl)
  rw [e1]; exact e2.symm
theorem ech_same {r c : Nat} {xs ys us vs : List Int} {p q : List Nat} (hx : xs.length = r * c) (hxn : nums xs = true) (hy : ys.length = r * c) (hyn : nums ys = true) (ha : echM r c xs = some (us, p)) (hb : echM r c ys = some (vs, q)) (h1 : SubSp r r c (mxC c xs) (mxC c ys)) (h2 : SubSp r r c (mxC c ys) (mxC c xs)) : us = vs ∧ p = q := by
  obtain ⟨ea, ta, fa, la, -, -⟩ := echM_says hx hxn ha
  obtain ⟨eb, tb, fb, lb, -, -⟩ := echM_says hy hyn hb
  obtain ⟨u1, u2, u3⟩ := ea.uniq eb (ta.trans (h1.trans fb)) (tb.trans (h2.trans fa))
  refine ⟨mx_ext la lb fun i j hi hj => ?_, List.ext_getElem u1 fun i h3 h4 => ?_⟩
  · rcases Nat.lt_or_ge i p.length with h | h
    · exact (u3 i j h hj).symm
    · rw [ea.rest i j h hi hj, eb.rest i j (by omega) hi hj]
  · have := u2 i h3
    simpa [List.getD, h3, h4] using this.symm
/-- The rank of a matrix turned over. -/
theorem ech_turn {r c : Nat} {xs ys us vs : List Int} {p q : List Nat} (hx : xs.length = r * c) (hxn : nums xs = true) (hy : ys.length = c * r) (hyn : nums ys = true) (ht : ∀ i j, i < c → j < r → mxC r ys i j = mxC c xs j i) (ha : echM r c xs = some (us, p)) (hb : echM c r ys = some (vs, q)) : q.length = p.length := by
  obtain ⟨ea, ta, fa, -, -, -⟩ := echM_says hx hxn ha
  obtain ⟨eb, tb, fb, -, -, -⟩ := echM_says hy hyn hb
  have h1 : SubSp c c r (trX (mxC c xs)) (mxC r ys) := fun i hi => (InSp.row (A := mxC r ys) hi).congr fun j hj => (ht i j hi hj).symm
  have h2 : SubSp c c r (mxC r ys) (trX (mxC c xs)) := fun i hi => (InSp.row (A := trX (mxC c xs)) hi).congr fun j hj => ht i j hi hj
  exact rank_tr ea fa ta eb (tb.trans h2) (h1.trans fb)
/-- The first rows that are not zeros are equal. -/
def sameTop (c : Nat) (us vs : List Int) (p q : List Nat) : Bool := decide (p.length = q.length) && decide (∀ i, i < p.length * c → us.getD i 0 = vs.getD i 0)
theorem top_at {c t : Nat} {us vs : List Int} (h : ∀ i, i < t * c → us.getD i 0 = vs.getD i 0) {i j : Nat} (hi : i < t) (hj : j < c) : mxC c us i j = mxC c vs i j := h _ (idx_lt hi hj)
theorem sameTop_iff {r s c : Nat} {xs ys us vs : List Int} {p q : List Nat} (hx : xs.length = r * c) (hxn : nums xs = true) (hy : ys.length = s * c) (hyn : nums ys = true) (ha : echM r c xs = some (us, p)) (hb : echM s c ys = some (vs, q)) : sameTop c us vs p q = true ↔ SubSp r s c (mxC c xs) (mxC c ys) ∧ SubSp s r c (mxC c ys) (mxC c xs) := by
  obtain ⟨ea, ta, fa, la, -, -⟩ := echM_says hx hxn ha
  obtain ⟨eb, tb, fb, lb, -, -⟩ := echM_says hy hyn hb
  unfold sameTop
  rw [Bool.and_eq_true, decide_eq_true_eq, decide_eq_true_eq]
  constructor
  · rintro ⟨h1, h2⟩
    have s1 : SubSp r s c (mxC c us) (mxC c vs) := fun i hi => by
      rcases Nat.lt_or_ge i p.length with h | h
      · exact (InSp.row (A := mxC c vs) (show i < s by have := eb.le; omega)).congr fun j hj => top_at h2 h hj
      · exact (InSp.zero s c _).congr fun j hj => ea.rest i j h hi hj
    have s2 : SubSp s r c (mxC c vs) (mxC c us) := fun i hi => by
      rcases Nat.lt_or_ge i p.length with h | h
      · exact (InSp.row (A := mxC c us) (show i < r by have := ea.le; omega)).congr fun j hj => (top_at h2 h hj).symm
      · exact (InSp.zero r c _).congr fun j hj => eb.rest i j (by omega) hi hj
    exact ⟨fa.trans (s1.trans tb), fb.trans (s2.trans ta)⟩
  · rintro ⟨h1, h2⟩
    obtain ⟨u1, -, u3⟩ := ea.uniq eb (ta.trans (h1.trans fb)) (tb.trans (h2.trans fa))
    refine ⟨u1, fun i hi => ?_⟩
    have hc : 0 < c := by
      rcases Nat.eq_zero_or_pos c with e | e
      · rw [e, Nat.mul_zero] at hi; omega
      · exact e
    have e : i = i / c * c + i % c := by rw [Nat.mul_comm]; exact (Nat.div_add_mod i c).symm
    have h3 : i / c < p.length := Nat.div_lt_of_lt_mul (by rw [Nat.mul_comm]; exact hi)
    have := u3 (i / c) (i % c) h3 (Nat.mod_lt i hc)
    unfold mxC at this
    rw [← e] at this
    exact this.symm
/-- Two matrices span one space just if the rank does not grow where they are put together. -/
theorem spaces_law {r s c : Nat} {xs ys zs us vs ws : List Int} {p q u : List Nat} (hx : xs.length = r * c) (hxn : nums xs = true) (hy : ys.length = s * c) (hyn : nums ys = true) (hz : zs.length = (r + s) * c) (hzn : nums zs = true) (hst : ∀ i j, i < r + s → j < c → mxC c zs i j = stkX r (mxC c xs) (mxC c ys) i j)
    (ha : echM r c xs = some (us, p)) (hb : echM s c ys = some (vs, q)) (hc : echM (r + s) c zs = some (ws, u)) : sameTop c us vs p q = (decide (p.length = u.length) && decide (q.length = u.length)) := by
  obtain ⟨ea, ta, fa, -, -, -⟩ := echM_says hx hxn ha
  obtain ⟨eb, tb, fb, -, -, -⟩ := echM_says hy hyn hb
  obtain ⟨ec, tc, fc, -, -, -⟩ := echM_says hz hzn hc
  have z1 : SubSp (r + s) (r + s) c (mxC c zs) (stkX r (mxC c xs) (mxC c ys)) := fun i hi => (InSp.row (A := stkX r (mxC c xs) (mxC c ys)) hi).congr fun j hj => hst i j hi hj
  have z2 : SubSp (r + s) (r + s) c (stkX r (mxC c xs) (mxC c ys)) (mxC c zs) := fun i hi => (InSp.row (A := mxC c zs) hi).congr fun j hj => (hst i j hi hj).symm
  have xz : SubSp r (r + s) c (mxC c xs) (mxC c zs) := stk_left.trans z2
  have yz : SubSp s (r + s) c (mxC c ys) (mxC c zs) := stk_right.trans z2
  have ac : SubSp r (r + s) c (mxC c us) (mxC c ws) := ta.trans (xz.trans fc)
  have bc : SubSp s (r + s) c (mxC c vs) (mxC c ws) := tb.trans (yz.trans fc)
  rw [Bool.eq_iff_iff, sameTop_iff hx hxn hy hyn ha hb, Bool.and_eq_true, decide_eq_true_eq, decide_eq_true_eq]
  constructor
  · rintro ⟨h1, h2⟩
    have zx : SubSp (r + s) r c (mxC c zs) (mxC c xs) := z1.trans (stk_sub (SubSp.refl _ _ _) h2)
    have zy : SubSp (r + s) s c (mxC c zs) (mxC c ys) := z1.trans (stk_sub h1 (SubSp.refl _ _ _))
    have a1 := ea.count ec ac
    have a2 := ec.count ea (tc.trans (zx.trans fa))
    have b1 := eb.count ec bc
    have b2 := ec.count eb (tc.trans (zy.trans fb))
    exact ⟨by omega, by omega⟩
  · rintro ⟨h1, h2⟩
    have ca : SubSp (r + s) r c (mxC c ws) (mxC c us) := by
      rw [← h1] at ec
      exact ea.whole ec ac
    have cb : SubSp (r + s) s c (mxC c ws) (mxC c vs) := by
      rw [← h2] at ec
      exact eb.whole ec bc
    exact ⟨xz.trans (fc.trans (cb.trans tb)), yz.trans (fc.trans (ca.trans ta))⟩
end Go.Proofs.Ytcapddcmnjeloaa
end
