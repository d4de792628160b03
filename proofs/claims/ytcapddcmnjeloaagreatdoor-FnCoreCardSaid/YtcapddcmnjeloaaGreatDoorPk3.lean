/-
  Texts of this seat, joined: ZADetS · ZASq · ZANumMath · ZANumAbs · ZADetO · ZAUptoMath · ZAMulMath · ZAStepL · ZASameMath · ZATurnMath · ZARingMath · ZARow2 · ZARow3 · ZARow2n · ZAMatDone · ZARow4 · ZARowRaw · ZAMatNew · ZAMatS9 · ZAOpDet · ZALawDet · ZASpn · ZAModS · ZAPrimL · ZAEchL · ZARowTo · ZAModE · ZAModF · ZAModB · ZASpnT · ZAEchLaw · ZAModV · ZASolE · ZAReM · ZAReL · ZAModL · ZANumGcdS · ZANumGD · ZANumGcd · ZANumFloor · ZANumExt · ZAMdS · ZACloneI · ZARdS · ZAPrimS · ZAAppI · ZAEchS · ZAElS
-/
import Derived.IntWalk
import Derived.WalkKit
import Derived.Test.YtcapddcmnjeloaaGreatDoorRows
import Derived.BigQuiet
import Derived.Deep.QuietTactic
import Derived.Lib.Hide
import Derived.Deep.RegionHeld3
import Derived.Deep.DeepCutAuto
import Derived.StillTailTactics
import Derived.Deep.LoopGhost
import Derived.Deep.RegionWith
import Derived.Test.YtcapddcmnjeloaaGreatDoorPk1
import Derived.Test.YtcapddcmnjeloaaGreatDoorPk2

section
/-
  Chapter 6, in the model: l6Det.
-/
namespace Go.Proofs.YtcapddcmnjeloaaGreatDoor
set_option maxRecDepth 100000
open Go.RowKit
theorem Own.rdq {B n c : Nat} {w : World} {a : Option Addr} {zs : List Int} (h : Own B w (.slice a n c) zs) : Rd w a zs := by
  rcases h with ⟨hv, rfl⟩ | ⟨g, cap, hv, _, hi, _⟩
  · exact Rd.nil _ _
  · simp only [Value.slice.injEq] at hv
    obtain ⟨rfl, -, -⟩ := hv
    exact hi.rd
end Go.Proofs.YtcapddcmnjeloaaGreatDoor
end

section
/-
  Chapter 6, in the model: IsSquare.
-/
namespace Go.Proofs.YtcapddcmnjeloaaGreatDoor
open Go.RowKit
def isSq (r c : Int) (xs : List Int) : Bool := isMat r c xs && decide (r = c) && decide (r ≤ 6)
end Go.Proofs.YtcapddcmnjeloaaGreatDoor
end

section
/-
  Plain mathematics of chapter 1: Euclid's steps on triples, their sizes, and what they lead to. Nothing of a program is imported.
-/
namespace Go.Proofs.YtcapddcmnjeloaaGreatDoor
def egN : Nat → Int → Int → Int → Int → Int → Int → Int × Int × Int
  | 0, g, x, y, _, _, _ => (g, x, y)
  | n + 1, g, x, y, h, u, v => if h = 0 then (g, x, y) else egN n h u v (g - g.tdiv h * h) (x - g.tdiv h * u) (y - g.tdiv h * v)
theorem rem_lt (g h : Int) (hh : h ≠ 0) : (g - g.tdiv h * h).natAbs < h.natAbs := by
  have e : g - g.tdiv h * h = g.tmod h := by have := Int.tdiv_mul_add_tmod g h; omega
  rw [e, Int.natAbs_tmod]
  exact Nat.mod_lt _ (by omega)
theorem egN_fuel : ∀ (n m : Nat) (g x y h u v : Int), h.natAbs ≤ n → h.natAbs ≤ m → egN n g x y h u v = egN m g x y h u v := by
  intro n
  induction n with
  | zero =>
    intro m g x y h u v hn _
    have h0 : h = 0 := by omega
    subst h0
    cases m <;> simp [egN]
  | succ n ih =>
    intro m g x y h u v hn hm
    by_cases h0 : h = 0
    · subst h0; cases m <;> simp [egN]
    · cases m with
      | zero => omega
      | succ m =>
        have := rem_lt g h h0
        simp only [egN, if_neg h0]
        exact ih m _ _ _ _ _ _ (by omega) (by omega)
def eg (g x y h u v : Int) : Int × Int × Int := egN h.natAbs g x y h u v
theorem eg_end (g x y u v : Int) : eg g x y 0 u v = (g, x, y) := by simp [eg, egN]
theorem eg_step (g x y h u v : Int) (hh : h ≠ 0) : eg g x y h u v = eg h u v (g - g.tdiv h * h) (x - g.tdiv h * u) (y - g.tdiv h * v) := by
  have hl := rem_lt g h hh
  unfold eg
  obtain ⟨k, hk⟩ : ∃ k, h.natAbs = k + 1 := ⟨h.natAbs - 1, by omega⟩
  rw [hk]
  simp only [egN, if_neg hh]
  exact egN_fuel _ _ _ _ _ _ _ _ (by omega) (by omega)
def Half (c g x h u : Int) : Prop := ∃ s : Int, (s = 1 ∨ s = -1) ∧ 0 ≤ s * (g * u) ∧ s * (h * x) ≤ 0 ∧ s * (g * u) - s * (h * x) = c
theorem between (k g m : Int) (h : 0 ≤ k * g) (hm : (0 ≤ m ∧ m ≤ g) ∨ (g ≤ m ∧ m ≤ 0)) : 0 ≤ k * m := by
  rcases Int.lt_trichotomy m 0 with h1 | h1 | h1
  · have hg : g < 0 := by omega
    have hk : k ≤ 0 := by
      rcases Int.lt_or_le 0 k with hp | hp
      · have := Int.mul_neg_of_pos_of_neg hp hg; omega
      · exact hp
    exact Int.mul_nonneg_of_nonpos_of_nonpos hk (by omega)
  · subst h1; simp
  · have hg : 0 < g := by omega
    have hk : 0 ≤ k := by
      rcases Int.lt_or_le k 0 with hp | hp
      · have := Int.mul_neg_of_neg_of_pos hp hg; omega
      · exact hp
    exact Int.mul_nonneg hk (by omega)
theorem tdiv_between (g h : Int) :
    ((0 ≤ g.tdiv h * h ∧ g.tdiv h * h ≤ g) ∨ (g ≤ g.tdiv h * h ∧ g.tdiv h * h ≤ 0)) ∧ ((0 ≤ g - g.tdiv h * h ∧ g - g.tdiv h * h ≤ g) ∨ (g ≤ g - g.tdiv h * h ∧ g - g.tdiv h * h ≤ 0)) := by
  have e := Int.tdiv_mul_add_tmod g h
  rcases Int.lt_or_le g 0 with hg | hg
  · have h1 : (-g).tmod h = - g.tmod h := Int.neg_tmod g h
    have h2 : 0 ≤ (-g).tmod h := Int.tmod_nonneg h (by omega)
    have h3 : (-g).tdiv h * h = - (g.tdiv h * h) := by rw [Int.neg_tdiv, Int.neg_mul]
    have h4 : (-g).tmod h ≤ -g := by
      have := Int.natAbs_tmod (-g) h
      have := Nat.mod_le (-g).natAbs h.natAbs
      omega
    omega
  · have h2 : 0 ≤ g.tmod h := Int.tmod_nonneg h hg
    have h4 : g.tmod h ≤ g := by
      have := Int.natAbs_tmod g h
      have := Nat.mod_le g.natAbs h.natAbs
      omega
    omega
theorem Half.step {c g x h u : Int} (hf : Half c g x h u) : Half c h u (g - g.tdiv h * h) (x - g.tdiv h * u) := by
  obtain ⟨s, hs, h1, h2, h3⟩ := hf
  obtain ⟨b1, b2⟩ := tdiv_between g h
  have k1 : 0 ≤ (s * u) * g := by have : (s * u) * g = s * (g * u) := by rw [Int.mul_assoc, Int.mul_comm u g]
                                  omega
  have m1 := between _ _ _ k1 b1
  have m2 := between _ _ _ k1 b2
  have e1 : -s * (h * (x - g.tdiv h * u)) = (s * u) * (g.tdiv h * h) - s * (h * x) := by
    simp only [Int.mul_sub, Int.neg_mul]
    have : s * (h * (g.tdiv h * u)) = s * u * (g.tdiv h * h) := by
      simp only [Int.mul_assoc, Int.mul_comm, Int.mul_left_comm]
    omega
  have e2 : -s * ((g - g.tdiv h * h) * u) = -((s * u) * (g - g.tdiv h * h)) := by
    rw [Int.neg_mul]; congr 1
    rw [Int.mul_assoc, Int.mul_comm u]
  have e3 : (s * u) * (g.tdiv h * h) + (s * u) * (g - g.tdiv h * h) = s * (g * u) := by
    rw [← Int.mul_add, show g.tdiv h * h + (g - g.tdiv h * h) = g from by omega, Int.mul_assoc, Int.mul_comm u]
  refine ⟨-s, by omega, ?_, ?_, ?_⟩
  · rw [e1]; omega
  · rw [e2]; omega
  · rw [e1, e2]; omega
theorem abs_le_of_mul (k x c : Int) (hk : k ≠ 0) (h1 : -c ≤ k * x) (h2 : k * x ≤ c) : -c ≤ x ∧ x ≤ c := by
  have e : (k * x).natAbs = k.natAbs * x.natAbs := Int.natAbs_mul k x
  have h3 : x.natAbs ≤ k.natAbs * x.natAbs := Nat.le_mul_of_pos_left _ (by omega)
  omega
theorem Half.small2 {c g x h u : Int} (hf : Half c g x h u) (hg : g ≠ 0) : -c ≤ u ∧ u ≤ c := by
  obtain ⟨s, hs, h1, h2, h3⟩ := hf
  refine abs_le_of_mul g u c hg ?_ ?_ <;> rcases hs with rfl | rfl <;> omega
theorem half_first (a b : Int) : Half (b.natAbs : Int) a 1 b 0 := by
  rcases Int.lt_or_le b 0 with hb | hb
  · exact ⟨1, .inl rfl, by simp, by omega, by omega⟩
  · exact ⟨-1, .inr rfl, by simp, by omega, by omega⟩
theorem half_second (a b : Int) : Half (a.natAbs : Int) a 0 b 1 := by
  rcases Int.lt_or_le a 0 with hb | hb
  · exact ⟨-1, .inr rfl, by omega, by simp, by omega⟩
  · exact ⟨1, .inl rfl, by omega, by simp, by omega⟩
structure Inv (a b g x y h u v : Int) : Prop where
  g0 : -400000000 ≤ g ∧ g ≤ 400000000
  h0 : -400000000 ≤ h ∧ h ≤ 400000000
  x0 : -400000000 ≤ x ∧ x ≤ 400000000
  y0 : -400000000 ≤ y ∧ y ≤ 400000000
  u0 : -400000000 ≤ u ∧ u ≤ 400000000
  v0 : -400000000 ≤ v ∧ v ≤ 400000000
  gc : a * x + b * y = g
  hc : a * u + b * v = h
  hx : Half (b.natAbs : Int) g x h u
  hy : Half (a.natAbs : Int) g y h v
  gd : Int.gcd g h = Int.gcd a b
theorem Inv.start (a b : Int) (ha : -400000000 ≤ a ∧ a ≤ 400000000) (hb : -400000000 ≤ b ∧ b ≤ 400000000) : Inv a b a 1 0 b 0 1 :=
  ⟨ha, hb, by omega, by omega, by omega, by omega, by omega, by omega, half_first a b, half_second a b, rfl⟩
theorem gcd_sub_mul (g h q : Int) : Int.gcd h (g - q * h) = Int.gcd g h := by
  rw [Int.gcd_comm g h, show g - q * h = g + h * (-q) from by rw [Int.mul_neg, Int.mul_comm h q]; omega]
  exact Int.gcd_add_mul_left_right h g (-q)
theorem Inv.step {a b g x y h u v : Int} (ha : -400000000 ≤ a ∧ a ≤ 400000000) (hb : -400000000 ≤ b ∧ b ≤ 400000000) (i : Inv a b g x y h u v) (hh : h ≠ 0) :
    Inv a b h u v (g - g.tdiv h * h) (x - g.tdiv h * u) (y - g.tdiv h * v) := by
  have hl := rem_lt g h hh
  have h0 := i.h0
  have kx := i.hx.step
  have ky := i.hy.step
  have bx := kx.small2 hh
  have by' := ky.small2 hh
  refine ⟨i.h0, by omega, i.u0, i.v0, by omega, by omega, i.hc, ?_, kx, ky, ?_⟩
  · have g1 := i.gc
    have h1 := i.hc
    rw [Int.mul_sub, Int.mul_sub]
    have e : ∀ q : Int, a * (q * u) + b * (q * v) = q * h := fun q => by
      rw [← h1, Int.mul_add, Int.mul_left_comm a, Int.mul_left_comm b]
    have e' := e (g.tdiv h)
    omega
  · rw [gcd_sub_mul]; exact i.gd
theorem Inv.fits {a b g x y h u v : Int} (ha : -400000000 ≤ a ∧ a ≤ 400000000) (hb : -400000000 ≤ b ∧ b ≤ 400000000) (i : Inv a b g x y h u v) (hh : h ≠ 0) :
    (-400000000 ≤ g.tdiv h ∧ g.tdiv h ≤ 400000000) ∧ (-800000000 ≤ g.tdiv h * h ∧ g.tdiv h * h ≤ 800000000) ∧ (-800000000 ≤ g.tdiv h * u ∧ g.tdiv h * u ≤ 800000000) ∧ (-800000000 ≤ g.tdiv h * v ∧ g.tdiv h * v ≤ 800000000) := by
  have j := i.step ha hb hh
  have g0 := i.g0; have x0 := i.x0; have y0 := i.y0; have h0 := i.h0
  have h1 := j.h0; have u1 := j.u0; have v1 := j.v0
  have q : (g.tdiv h).natAbs ≤ g.natAbs := by rw [Int.natAbs_tdiv]; exact Nat.div_le_self _ _
  refine ⟨by omega, by omega, by omega, by omega⟩
theorem Inv.last {a b g x y u v : Int} (i : Inv a b g x y 0 u v) : (g.natAbs : Int) = (Int.gcd a b : Int) := by
  have := i.gd
  rw [Int.gcd_zero_right] at this
  omega
theorem gcd_round (x y : Int) : Int.gcd y (x.tmod y) = Int.gcd x y := by
  rw [show x.tmod y = x - x.tdiv y * y from by have := Int.tdiv_mul_add_tmod x y; omega]
  exact gcd_sub_mul x y _
theorem tmod_small (x y : Int) (hy : y ≠ 0) : (x.tmod y).natAbs < y.natAbs := by
  rw [Int.natAbs_tmod]; exact Nat.mod_lt _ (by omega)
theorem ediv_of (n d q r : Int) (hd : 0 < d) (h : n = q * d + r) (h0 : 0 ≤ r) (h1 : r < d) : n / d = q ∧ n % d = r :=
  (Int.ediv_emod_unique hd).2 ⟨by rw [h, Int.mul_comm]; omega, h0, h1⟩
theorem tdiv_up (n d : Int) (hd : 0 < d) (h : 0 ≤ n.tmod d) : n / d = n.tdiv d ∧ n % d = n.tmod d := by
  have e := Int.tdiv_mul_add_tmod n d
  have l := tmod_small n d (by omega)
  exact ediv_of n d _ _ hd (by omega) h (by omega)
theorem tdiv_down (n d : Int) (hd : 0 < d) (h : n.tmod d < 0) : n / d = n.tdiv d - 1 ∧ n % d = n.tmod d + d := by
  have e := Int.tdiv_mul_add_tmod n d
  have l := tmod_small n d (by omega)
  exact ediv_of n d _ _ hd (by rw [Int.sub_mul]; omega) (by omega) (by omega)
theorem tdiv_bd (n d : Int) (h1 : -400000000 ≤ n) (h2 : n ≤ 400000000) : -400000000 ≤ n.tdiv d ∧ n.tdiv d ≤ 400000000 := by
  have q : (n.tdiv d).natAbs ≤ n.natAbs := by rw [Int.natAbs_tdiv]; exact Nat.div_le_self _ _
  omega
theorem iDiv_pos (n d : Int) (hd0 : d ≠ 0) (h : 0 ≤ n.tmod d) : n / d = n.tdiv d ∧ n % d = n.tmod d := by
  rcases Int.lt_or_le 0 d with hd | hd
  · exact tdiv_up n d hd h
  · obtain ⟨c, rfl⟩ : ∃ c, d = -c := ⟨-d, by omega⟩
    rw [Int.ediv_neg, Int.emod_neg, Int.tdiv_neg, Int.tmod_neg]
    rw [Int.tmod_neg] at h
    have := tdiv_up n c (by omega) h
    exact ⟨by rw [this.1], this.2⟩
theorem iDiv_neg (n c : Int) (hc : 0 < c) (h : n.tmod (-c) < 0) : n / -c = n.tdiv (-c) + 1 ∧ n % -c = n.tmod (-c) - -c := by
  rw [Int.ediv_neg, Int.emod_neg, Int.tdiv_neg, Int.tmod_neg]
  rw [Int.tmod_neg] at h
  have := tdiv_down n c hc h
  omega
end Go.Proofs.YtcapddcmnjeloaaGreatDoor
end

section
/-
  Chapter 1, in the model: |n|.
-/
namespace Go.Proofs.YtcapddcmnjeloaaGreatDoor
open Go.RowKit
theorem tdiv_bdw (n d : Int) (h1 : -4000000000000000000 ≤ n) (h2 : n ≤ 4000000000000000000) : -4000000000000000000 ≤ n.tdiv d ∧ n.tdiv d ≤ 4000000000000000000 := by
  have q : (n.tdiv d).natAbs ≤ n.natAbs := by rw [Int.natAbs_tdiv]; exact Nat.div_le_self _ _
  omega
end Go.Proofs.YtcapddcmnjeloaaGreatDoor
end

section
/-
  Chapter 6, in the model: DeterminantOf, IsUnimodular.
-/
namespace Go.Proofs.YtcapddcmnjeloaaGreatDoor
open Go.RowKit
def detOf (r c : Int) (xs : List Int) : Int × Bool := if isSq r c xs = true then detM r.toNat xs else (0, false)
theorem isSq_says {r c : Int} {xs : List Int} (h : isSq r c xs = true) : ∃ n : Nat, r = n ∧ c = n ∧ n ≤ 6 ∧ xs.length = n * n ∧ nums xs = true := by
  unfold isSq at h
  simp only [Bool.and_eq_true, decide_eq_true_eq] at h
  obtain ⟨⟨h1, h2⟩, h3⟩ := h
  obtain ⟨⟨r1, r2⟩, -, l, nx⟩ := isMat_says h1
  obtain ⟨n, rfl⟩ := Int.eq_ofNat_of_zero_le r1
  subst h2
  exact ⟨n, rfl, rfl, by omega, by rw [← Int.natCast_mul] at l; omega, nx⟩
theorem detOf_num (r c : Int) (xs : List Int) : NumP (detOf r c xs).1 := by
  unfold detOf
  split
  · unfold detM
    split
    · exact ⟨by decide, by decide⟩
    · rename_i h
      exact (detB_or _ _).resolve_left h
  · exact ⟨by decide, by decide⟩
end Go.Proofs.YtcapddcmnjeloaaGreatDoor
end

section
/-
  Plain mathematics: a row that is filled from the left.
-/
namespace Go.Proofs.YtcapddcmnjeloaaGreatDoor
end Go.Proofs.YtcapddcmnjeloaaGreatDoor
end

section
/-
  Plain mathematics of chapter 3: what a product and a matrix turned over are. Nothing of a program is used.
-/
namespace Go.Proofs.YtcapddcmnjeloaaGreatDoor
open Go.RowKit
end Go.Proofs.YtcapddcmnjeloaaGreatDoor
end

section
/-
  Plain mathematics of chapter 6: elimination without fractions over lists of cells ends in the determinant. Nothing of a program is used.
-/
namespace Go.Proofs.YtcapddcmnjeloaaGreatDoor
end Go.Proofs.YtcapddcmnjeloaaGreatDoor
end

section
/-
  What SameMatrix answers.
-/
namespace Go.Proofs.YtcapddcmnjeloaaGreatDoor
end Go.Proofs.YtcapddcmnjeloaaGreatDoor
end

section
/-
  Plain mathematics of chapter 3: products and matrices turned over. Nothing of a program is used.
-/
namespace Go.Proofs.YtcapddcmnjeloaaGreatDoor
end Go.Proofs.YtcapddcmnjeloaaGreatDoor
end

section
/-
  Plain mathematics of chapter 3: products can be grouped in any way, and distribute over sums. Nothing of a program is used.
-/
namespace Go.Proofs.YtcapddcmnjeloaaGreatDoor
end Go.Proofs.YtcapddcmnjeloaaGreatDoor
end

section
/-
  Chapter 5, in the model: a copy of a matrix; an operation on rows, in place.
-/
namespace Go.Proofs.YtcapddcmnjeloaaGreatDoor
set_option maxRecDepth 100000
open Go.RowKit
end Go.Proofs.YtcapddcmnjeloaaGreatDoor
end

section
/-
  Chapter 5, in the model: an operation on rows, in place.
-/
namespace Go.Proofs.YtcapddcmnjeloaaGreatDoor
set_option maxRecDepth 100000
open Go.RowKit
def Void (e : Ending) : Prop := e = .returned (.tuple #[])
end Go.Proofs.YtcapddcmnjeloaaGreatDoor
end

section
/-
  Chapter 5, in the model: a copy of a matrix without cells.
-/
namespace Go.Proofs.YtcapddcmnjeloaaGreatDoor
set_option maxRecDepth 100000
open Go.RowKit
def Spot (a : Option Addr) : Prop := a = none ∨ ∃ g o : Nat, a = some ⟨g, o, none⟩
theorem Spot.of (g o : Nat) : Spot (some ⟨g, o, none⟩) := .inr ⟨g, o, rfl⟩
end Go.Proofs.YtcapddcmnjeloaaGreatDoor
end

section
/-
  Chapter 3, in the model: a matrix that is done.
-/
namespace Go.Proofs.YtcapddcmnjeloaaGreatDoor
open Go.RowKit
end Go.Proofs.YtcapddcmnjeloaaGreatDoor
end

section
/-
  Chapter 5, in the model: DoRowOp.
-/
namespace Go.Proofs.YtcapddcmnjeloaaGreatDoor
set_option maxRecDepth 100000
open Go.RowKit
end Go.Proofs.YtcapddcmnjeloaaGreatDoor
end

section
/-
  Plain mathematics of chapter 5: an operation on rows without marks. Nothing of a program is used.
-/
namespace Go.Proofs.YtcapddcmnjeloaaGreatDoor
open Go.RowKit
end Go.Proofs.YtcapddcmnjeloaaGreatDoor
end

section
/-
  Chapter 3, in the model: a matrix of zeros.
-/
namespace Go.Proofs.YtcapddcmnjeloaaGreatDoor
open Go.RowKit
end Go.Proofs.YtcapddcmnjeloaaGreatDoor
end

section
/-
  Chapter 3, in the model: IdentityMatrix.
-/
namespace Go.Proofs.YtcapddcmnjeloaaGreatDoor
open Go.RowKit
end Go.Proofs.YtcapddcmnjeloaaGreatDoor
end

section
/-
  Plain mathematics of chapters 5 and 6: what operations on rows do to the determinant. Nothing of a program is used.
-/
namespace Go.Proofs.YtcapddcmnjeloaaGreatDoor
end Go.Proofs.YtcapddcmnjeloaaGreatDoor
end

section
/-
  Plain mathematics of chapter 6: what the laws say. Nothing of a program is used.
-/
namespace Go.Proofs.YtcapddcmnjeloaaGreatDoor
theorem detOf_says {r c d : Int} {xs : List Int} (h1 : (detOf r c xs).1 = d) (h2 : (detOf r c xs).2 = true) : ∃ n : Nat, r = n ∧ c = n ∧ n ≤ 6 ∧ xs.length = n * n ∧ nums xs = true ∧ detB n xs = d ∧ NumP d ∧ d = det n (mxL n xs) := by
  have hn := detOf_num r c xs
  rw [h1] at hn
  unfold detOf at h1 h2
  by_cases hs : isSq r c xs = true
  · rw [if_pos hs] at h1 h2
    obtain ⟨n, rfl, rfl, h6, hl, nx⟩ := isSq_says hs
    have e : (n : Int).toNat = n := rfl
    rw [e] at h1 h2
    unfold detM at h1 h2
    by_cases hb : detB n xs = badN
    · rw [if_pos hb] at h2; exact absurd h2 (by decide)
    · rw [if_neg hb] at h1
      have h1 : detB n xs = d := h1
      exact ⟨n, rfl, rfl, h6, hl, nx, h1, hn, by rw [← h1]; exact detB_det n xs hb⟩
  · rw [if_neg hs] at h2; exact absurd h2 (by decide)
end Go.Proofs.YtcapddcmnjeloaaGreatDoor
end

section
/-
  Plain mathematics of chapter 7: what rows span over the rational numbers; echelon forms are unique. Nothing of a program is used.
-/
namespace Go.Proofs.YtcapddcmnjeloaaGreatDoor
section
variable {r c t : Nat} {A : Mx} {p : Nat → Nat} {v : Nat → Int}
end
end Go.Proofs.YtcapddcmnjeloaaGreatDoor
end

section
/-
  Plain mathematics of chapter 8: spans over residues; reduced forms. Nothing of a program is used.
-/
namespace Go.Proofs.YtcapddcmnjeloaaGreatDoor
def InP (p : Int) (r c : Nat) (A : Mx) (v : Nat → Int) : Prop := ∃ k : Nat → Int, ∀ j, j < c → Cg p (v j) (sumN r fun i => k i * A i j)
def SubP (p : Int) (r s c : Nat) (A B : Mx) : Prop := ∀ i, i < r → InP p s c B (A i)
section
variable {p : Int} {r s t c : Nat} {A B C : Mx} {u v : Nat → Int}
theorem InP.congr (h : InP p r c A v) (e : ∀ j, j < c → Cg p (u j) (v j)) : InP p r c A u := by
  obtain ⟨k, hk⟩ := h
  exact ⟨k, fun j hj => (e j hj).trans (hk j hj)⟩
theorem sumN_unit {n a : Nat} (ha : a < n) (f : Nat → Int) : (sumN n fun i => (if i = a then 1 else 0) * f i) = f a := by
  rw [sumN_one (a := a) ha (fun i hi hne => by rw [if_neg hne, Int.zero_mul]), if_pos rfl, Int.one_mul]
theorem InP.row {i : Nat} (hi : i < r) : InP p r c A (A i) := ⟨fun k => if k = i then 1 else 0, fun j _ => Cg.of_eq (sumN_unit hi fun k => A k j).symm⟩
theorem InP.zero : InP p r c A fun _ => 0 := ⟨fun _ => 0, fun j _ => Cg.of_eq (by rw [sumN_all_zero fun k _ => Int.zero_mul _])⟩
theorem InP.add (h : InP p r c A u) (h' : InP p r c A v) (x y : Int) : InP p r c A fun j => x * u j + y * v j := by
  obtain ⟨k, hk⟩ := h
  obtain ⟨l, hl⟩ := h'
  refine ⟨fun i => x * k i + y * l i, fun j hj => (((hk j hj).mul_left x).add ((hl j hj).mul_left y)).trans (Cg.of_eq ?_)⟩
  rw [sumN_mul_left, sumN_mul_left, ← sumN_add]
  exact sumN_congr fun i _ => by grind
theorem InP.comb {V : Mx} {k : Nat → Int} : ∀ {m : Nat}, (∀ i, i < m → InP p r c A (V i)) → InP p r c A fun j => sumN m fun i => k i * V i j := by
  intro m
  induction m with
  | zero => intro _; exact InP.zero
  | succ m ih => intro h; exact ((ih fun i hi => h i (by omega)).add (h m (by omega)) 1 (k m)).congr fun j _ => Cg.of_eq (by show (sumN m fun i => k i * V i j) + k m * V m j = _; rw [Int.one_mul])
theorem SubP.mem (h : SubP p r s c A B) (hv : InP p r c A v) : InP p s c B v := by
  obtain ⟨k, hk⟩ := hv
  exact (InP.comb (k := k) h).congr hk
theorem SubP.trans (h : SubP p r s c A B) (h' : SubP p s t c B C) : SubP p r t c A C := fun i hi => h'.mem (h i hi)
theorem SubP.of_cg (h : ∀ i j, i < r → j < c → Cg p (A i j) (B i j)) : SubP p r r c A B := fun i hi => (InP.row hi).congr fun j hj => h i j hi hj
end
structure RefP (r n : Nat) (A : Mx) (q : Nat → Nat) (t : Nat) : Prop where
  le : t ≤ r
  col : ∀ k, k < t → q k < n
  inc : ∀ k l, k < l → l < t → q k < q l
  one : ∀ k, k < t → A k (q k) = 1
  only : ∀ k i, k < t → i < r → i ≠ k → A i (q k) = 0
  left : ∀ k j, k < t → j < q k → A k j = 0
  rest : ∀ i j, t ≤ i → i < r → j < n → A i j = 0
section
variable {p : Int} {r n t : Nat} {A : Mx} {q : Nat → Nat} {v : Nat → Int}
end
end Go.Proofs.YtcapddcmnjeloaaGreatDoor
end

section
/-
  Plain mathematics of chapter 7: primitive rows. Nothing of a program is used.
-/
namespace Go.Proofs.YtcapddcmnjeloaaGreatDoor
end Go.Proofs.YtcapddcmnjeloaaGreatDoor
end

section
/-
  Plain mathematics of chapter 7: elimination over lists of cells with primitive rows ends in the echelon form. Nothing of a program is used.
-/
namespace Go.Proofs.YtcapddcmnjeloaaGreatDoor
def mxC (c : Nat) (xs : List Int) : Mx := fun i j => xs.getD (i * c + j) 0
theorem mxC_tab {r c : Nat} {f : Nat → Nat → Int} {i j : Nat} (hi : i < r) (hj : j < c) : mxC c (tab r c f) i j = f i j := tab_at r c f hi hj
def fstR (c j : Nat) (xs : List Int) : Nat → Nat → Nat
  | 0, p => p
  | k + 1, p => if mxC c xs p j = 0 then fstR c j xs k (p + 1) else p
def swC (p t c : Nat) (xs : List Int) : List Int := if p = t then xs else opL 0 p t 0 c xs
theorem fstR_says {c j : Nat} {xs : List Int} : ∀ {k p : Nat}, p ≤ fstR c j xs k p ∧ fstR c j xs k p ≤ p + k ∧ (∀ q, p ≤ q → q < fstR c j xs k p → mxC c xs q j = 0) ∧ (fstR c j xs k p < p + k → mxC c xs (fstR c j xs k p) j ≠ 0) := by
  intro k
  induction k with
  | zero => intro p; exact ⟨Nat.le_refl _, Nat.le_refl _, fun q h1 h2 => absurd h2 (by show ¬ q < p; omega), fun h => absurd h (by show ¬ p < p + 0; omega)⟩
  | succ k ih =>
    intro p
    by_cases h : mxC c xs p j = 0
    · have e : fstR c j xs (k + 1) p = fstR c j xs k (p + 1) := if_pos h
      rw [e]
      obtain ⟨h1, h2, h3, h4⟩ := ih (p := p + 1)
      refine ⟨by omega, by omega, fun q h5 h6 => ?_, fun h5 => h4 (by omega)⟩
      rcases Nat.lt_or_ge p q with h7 | h7
      · exact h3 q h7 h6
      · obtain rfl : q = p := by omega
        exact h
    · have e : fstR c j xs (k + 1) p = p := if_neg h
      rw [e]
      exact ⟨Nat.le_refl _, by omega, fun q h1 h2 => by omega, fun _ => h⟩
theorem fstR_eq {c j : Nat} {xs : List Int} : ∀ {k p q : Nat}, p ≤ q → q ≤ p + k → (∀ i, p ≤ i → i < q → mxC c xs i j = 0) → (q < p + k → mxC c xs q j ≠ 0) → fstR c j xs k p = q := by
  intro k
  induction k with
  | zero => intro p q h1 h2 _ _; show p = q; omega
  | succ k ih =>
    intro p q h1 h2 hz hn
    show (if mxC c xs p j = 0 then fstR c j xs k (p + 1) else p) = q
    rcases Nat.lt_or_ge p q with h | h
    · rw [if_pos (hz p (Nat.le_refl _) h)]
      exact ih (by omega) (by omega) (fun i h3 h4 => hz i (by omega) h4) (fun h3 => hn (by omega))
    · obtain rfl : p = q := by omega
      rw [if_neg (hn (by omega))]
theorem opL_swapC {r c p t i j : Nat} {xs : List Int} (hx : xs.length = r * c) (hi : i < r) (hj : j < c) : mxC c (opL 0 p t 0 c xs) i j = mxC c xs (if i = p then t else if i = t then p else i) j := by
  have hp : i * c + j < xs.length := by rw [hx]; exact idx_lt hi hj
  unfold mxC opL
  simp only [List.getD, List.getElem?_map, List.getElem?_range hp, Option.map_some, Option.getD_some]
  unfold opAt
  rw [if_pos rfl, idx_div hj, idx_mod hj]
  by_cases h1 : i = p
  · rw [if_pos h1, if_pos h1]; rfl
  · rw [if_neg h1, if_neg h1]
    by_cases h2 : i = t
    · rw [if_pos h2, if_pos h2]; rfl
    · rw [if_neg h2, if_neg h2]; rfl
theorem swC_at {r c p t i j : Nat} {xs : List Int} (hx : xs.length = r * c) (hi : i < r) (hj : j < c) : mxC c (swC p t c xs) i j = mxC c xs (if i = p then t else if i = t then p else i) j := by
  unfold swC
  by_cases h : p = t
  · rw [if_pos h, h]
    by_cases h1 : i = t
    · rw [if_pos h1, h1]
    · rw [if_neg h1, if_neg h1]
  · rw [if_neg h, opL_swapC hx hi hj]
theorem swC_length (p t c : Nat) (xs : List Int) : (swC p t c xs).length = xs.length := by unfold swC; split; rfl; exact opL_length _ _ _ _ _ _
theorem mx_nums {r c : Nat} {xs : List Int} (hx : xs.length = r * c) (h : nums xs = true) {i j : Nat} (hi : i < r) (hj : j < c) : NumP (mxC c xs i j) := nums_at h (by rw [hx]; exact idx_lt hi hj)
end Go.Proofs.YtcapddcmnjeloaaGreatDoor
end

section
/-
  Plain mathematics of chapter 7: a row that is written cell by cell. Nothing of a program is used.
-/
namespace Go.Proofs.YtcapddcmnjeloaaGreatDoor
def rowTo (r c i : Nat) (v : Nat → Int) (xs : List Int) (k : Nat) : List Int := tab r c fun p q => if p = i ∧ q < k then v q else mxC c xs p q
def rowL (r c i : Nat) (v : Nat → Int) (xs : List Int) : List Int := tab r c fun p q => if p = i then v q else mxC c xs p q
theorem rowTo_length (r c i : Nat) (v : Nat → Int) (xs : List Int) (k : Nat) : (rowTo r c i v xs k).length = r * c := tab_length _ _ _
theorem rowTo_at {r c i : Nat} {v : Nat → Int} {xs : List Int} {k p q : Nat} (hp : p < r) (hq : q < c) : (rowTo r c i v xs k).getD (p * c + q) 0 = if p = i ∧ q < k then v q else mxC c xs p q := tab_at r c _ hp hq
theorem rowTo_old {r c i : Nat} {v : Nat → Int} {xs : List Int} {k p q : Nat} (hp : p < r) (hq : q < c) (h : p ≠ i ∨ k ≤ q) : (rowTo r c i v xs k).getD (p * c + q) 0 = xs.getD (p * c + q) 0 := by
  rw [rowTo_at hp hq, if_neg (by omega)]; rfl
theorem rowTo_zero {r c i : Nat} {v : Nat → Int} {xs : List Int} (hx : xs.length = r * c) : rowTo r c i v xs 0 = xs := by
  refine (tab_ext hx fun p q _ _ => ?_).symm
  rw [if_neg (by omega)]; rfl
theorem rowTo_step {r c i : Nat} {v : Nat → Int} {xs : List Int} {k : Nat} (hi : i < r) (hk : k < c) : (rowTo r c i v xs k).set (i * c + k) (v k) = rowTo r c i v xs (k + 1) := by
  refine tab_ext (by rw [List.length_set, rowTo_length]) fun p q hp hq => ?_
  rw [getD_set _ _ _ _ (by rw [rowTo_length]; exact idx_lt hi hk), rowTo_at hp hq]
  by_cases e : p * c + q = i * c + k
  · obtain ⟨rfl, rfl⟩ := idx_inj hq hk e
    rw [if_pos (by omega), if_pos (by omega)]
  · have ne : ¬ (p = i ∧ q = k) := by rintro ⟨rfl, rfl⟩; exact e rfl
    rw [if_neg (by omega)]
    by_cases h : p = i ∧ q < k
    · rw [if_pos h, if_pos (by omega)]
    · rw [if_neg h, if_neg (by omega)]
theorem rowTo_all {r c i : Nat} {v : Nat → Int} {xs : List Int} : rowTo r c i v xs c = rowL r c i v xs := by
  refine tab_ext (rowTo_length _ _ _ _ _ _) fun p q hp hq => ?_
  rw [rowTo_at hp hq]
  by_cases h : p = i
  · rw [if_pos ⟨h, hq⟩, if_pos h]
  · rw [if_neg (fun h1 => h h1.1), if_neg h]
theorem rowL_length (r c i : Nat) (v : Nat → Int) (xs : List Int) : (rowL r c i v xs).length = r * c := tab_length _ _ _
theorem rowL_own {r c i q : Nat} {v : Nat → Int} {xs : List Int} (hi : i < r) (hq : q < c) : mxC c (rowL r c i v xs) i q = v q := by unfold rowL; rw [mxC_tab hi hq, if_pos rfl]
theorem rowL_oth {r c i p q : Nat} {v : Nat → Int} {xs : List Int} (hp : p < r) (hq : q < c) (h : p ≠ i) : mxC c (rowL r c i v xs) p q = mxC c xs p q := by unfold rowL; rw [mxC_tab hp hq, if_neg h]
theorem rowL_self {r c i : Nat} {v : Nat → Int} {xs : List Int} (hx : xs.length = r * c) (h : i < r → ∀ q, q < c → v q = mxC c xs i q) : rowL r c i v xs = xs := by
  refine (tab_ext hx fun p q hp hq => ?_).symm
  by_cases e : p = i
  · subst e; rw [if_pos rfl, h hp q hq]; rfl
  · rw [if_neg e]; rfl
end Go.Proofs.YtcapddcmnjeloaaGreatDoor
end

section
/-
  Plain mathematics of chapter 8: elimination over residues, over lists of cells. Nothing of a program is used.
-/
namespace Go.Proofs.YtcapddcmnjeloaaGreatDoor
structure PInv (p : Int) (r c n : Nat) (M : Mx) (xs : List Int) (pv : List Nat) (j : Nat) : Prop where
  len : xs.length = r * c
  can : ∀ i q, i < r → q < c → 0 ≤ mxC c xs i q ∧ mxC c xs i q < p
  le : pv.length ≤ r
  jn : j ≤ n
  nc : n ≤ c
  toM : SubP p r r c (mxC c xs) M
  ofM : SubP p r r c M (mxC c xs)
  col : ∀ k, k < pv.length → pv.getD k 0 < j
  inc : ∀ k l, k < l → l < pv.length → pv.getD k 0 < pv.getD l 0
  one : ∀ k, k < pv.length → mxC c xs k (pv.getD k 0) = 1
  only : ∀ k i, k < pv.length → i < r → i ≠ k → mxC c xs i (pv.getD k 0) = 0
  left : ∀ k q, k < pv.length → q < pv.getD k 0 → mxC c xs k q = 0
  rest : ∀ i q, pv.length ≤ i → i < r → q < j → mxC c xs i q = 0
theorem PInv.start {p : Int} {r c n : Nat} {M : Mx} {xs : List Int} (hx : xs.length = r * c) (hn : n ≤ c) (hc : ∀ i q, i < r → q < c → 0 ≤ mxC c xs i q ∧ mxC c xs i q < p) (hM : ∀ i q, i < r → q < c → Cg p (mxC c xs i q) (M i q)) : PInv p r c n M xs [] 0 where
  len := hx
  can := hc
  le := Nat.zero_le _
  jn := Nat.zero_le _
  nc := hn
  toM := SubP.of_cg hM
  ofM := SubP.of_cg fun i q hi hq => (hM i q hi hq).symm
  col := fun k hk => absurd hk (Nat.not_lt_zero k)
  inc := fun _ l _ hl => absurd hl (Nat.not_lt_zero l)
  one := fun k hk => absurd hk (Nat.not_lt_zero k)
  only := fun k _ hk => absurd hk (Nat.not_lt_zero k)
  left := fun k _ hk => absurd hk (Nat.not_lt_zero k)
  rest := fun _ q _ _ hq => absurd hq (Nat.not_lt_zero q)
section
variable {p : Int} {r c n : Nat} {M : Mx} {xs : List Int} {pv : List Nat} {j : Nat}
theorem PInv.skip (h : PInv p r c n M xs pv j) (hj : j < n) (hz : ∀ i, pv.length ≤ i → i < r → mxC c xs i j = 0) : PInv p r c n M xs pv (j + 1) :=
  { h with
    jn := hj
    col := fun k hk => by have := h.col k hk; omega
    rest := fun i q hi hir hq => by
      rcases Nat.lt_or_ge q j with h1 | h1
      · exact h.rest i q hi hir h1
      · obtain rfl : q = j := by omega
        exact hz i hi hir }
theorem PInv.swap (h : PInv p r c n M xs pv j) {s : Nat} (hs : pv.length ≤ s) (hsr : s < r) : PInv p r c n M (swC s pv.length c xs) pv j := by
  have hjn := h.jn
  have hnc := h.nc
  have at_ : ∀ i q, i < r → q < c → mxC c (swC s pv.length c xs) i q = mxC c xs (if i = s then pv.length else if i = pv.length then s else i) q := fun i q hi hq => swC_at h.len hi hq
  have low : ∀ i q, i < pv.length → q < c → mxC c (swC s pv.length c xs) i q = mxC c xs i q := fun i q hi hq => by rw [at_ i q (by omega) hq, if_neg (by omega), if_neg (by omega)]
  have big : ∀ i, pv.length ≤ i → i < r → pv.length ≤ (if i = s then pv.length else if i = pv.length then s else i) ∧ (if i = s then pv.length else if i = pv.length then s else i) < r := fun i h1 h2 => by
    split
    · omega
    · split <;> omega
  have any : ∀ i, i < r → (if i = s then pv.length else if i = pv.length then s else i) < r := fun i hi => by
    split
    · omega
    · split <;> omega
  refine ⟨by rw [swC_length]; exact h.len, ?_, h.le, h.jn, h.nc, ?_, ?_, h.col, h.inc, ?_, ?_, ?_, ?_⟩
  · intro i q hi hq
    rw [at_ i q hi hq]
    exact h.can _ q (any i hi) hq
  · intro i hi
    exact (h.toM _ (any i hi)).congr fun q hq => Cg.of_eq (at_ i q hi hq)
  · refine h.ofM.trans fun i hi => ?_
    refine (InP.row (A := mxC c (swC s pv.length c xs)) (any i hi)).congr fun q hq => Cg.of_eq ?_
    rw [at_ _ q (any i hi) hq]
    by_cases e1 : i = s
    · rw [if_pos e1]
      by_cases e2 : pv.length = s
      · rw [if_pos e2, e1, e2]
      · rw [if_neg e2, if_pos rfl, e1]
    · rw [if_neg e1]
      by_cases e2 : i = pv.length
      · rw [if_pos e2, if_pos rfl, e2]
      · rw [if_neg e2, if_neg e1, if_neg e2]
  · intro k hk
    have := h.col k hk
    rw [low k _ hk (by omega)]
    exact h.one k hk
  · intro k i hk hi hne
    have h1 := h.col k hk
    rw [at_ i _ hi (by omega)]
    refine h.only k _ hk (any i hi) ?_
    split
    · omega
    · split <;> omega
  · intro k q hk hq
    have h1 := h.col k hk
    rw [low k q hk (by omega)]
    exact h.left k q hk hq
  · intro i q hi hir hq
    rw [at_ i q hir (by omega)]
    exact h.rest _ q (big i hi hir).1 (big i hi hir).2 hq
theorem PInv.put (h : PInv p r c n M xs pv j) {i : Nat} {v : Nat → Int} (hi : i < r) (hcan : ∀ q, q < c → 0 ≤ v q ∧ v q < p) (hin : InP p r c (mxC c xs) v) (hback : InP p r c (mxC c (rowL r c i v xs)) (mxC c xs i)) (hz : ∀ q, q < j → mxC c xs i q = 0 → v q = 0) (h1 : i < pv.length → v (pv.getD i 0) = 1) : PInv p r c n M (rowL r c i v xs) pv j := by
  have hjn := h.jn
  have hnc := h.nc
  have own : ∀ q, q < c → mxC c (rowL r c i v xs) i q = v q := fun q hq => rowL_own hi hq
  have oth : ∀ a q, a < r → q < c → a ≠ i → mxC c (rowL r c i v xs) a q = mxC c xs a q := fun a q ha hq hne => rowL_oth ha hq hne
  refine ⟨rowL_length _ _ _ _ _, ?_, h.le, h.jn, h.nc, ?_, ?_, h.col, h.inc, ?_, ?_, ?_, ?_⟩
  · intro a q ha hq
    by_cases e : a = i
    · rw [e, own q hq]; exact hcan q hq
    · rw [oth a q ha hq e]; exact h.can a q ha hq
  · intro a ha
    by_cases e : a = i
    · rw [e]; exact (h.toM.mem hin).congr fun q hq => Cg.of_eq (own q hq)
    · exact (h.toM a ha).congr fun q hq => Cg.of_eq (oth a q ha hq e)
  · refine h.ofM.trans fun a ha => ?_
    by_cases e : a = i
    · rw [e]; exact hback
    · exact (InP.row (A := mxC c (rowL r c i v xs)) ha).congr fun q hq => Cg.of_eq (oth a q ha hq e).symm
  · intro k hk
    have hc := h.col k hk
    by_cases e : k = i
    · rw [e, own _ (by rw [← e]; omega)]; exact h1 (by omega)
    · rw [oth k _ (by have := h.le; omega) (by omega) e]; exact h.one k hk
  · intro k a hk ha hne
    have hc := h.col k hk
    by_cases e : a = i
    · rw [e, own _ (by omega)]
      exact hz _ hc (by rw [← e]; exact h.only k a hk ha hne)
    · rw [oth a _ ha (by omega) e]; exact h.only k a hk ha hne
  · intro k q hk hq
    have hc := h.col k hk
    by_cases e : k = i
    · rw [e, own _ (by omega)]
      exact hz _ (by omega) (by rw [← e]; exact h.left k q hk hq)
    · rw [oth k _ (by have := h.le; omega) (by omega) e]; exact h.left k q hk hq
  · intro a q ha har hq
    by_cases e : a = i
    · rw [e, own _ (by omega)]
      exact hz _ hq (by rw [← e]; exact h.rest a q ha har hq)
    · rw [oth a _ har (by omega) e]; exact h.rest a q ha har hq
theorem res_can {p : Int} (hp : 0 < p) (z : Int) : 0 ≤ z % p ∧ z % p < p := ⟨Int.emod_nonneg _ (by omega), Int.emod_lt_of_pos _ hp⟩
def scV (p z : Int) (u : Nat → Int) : Nat → Int := fun q => (u q * z) % p
theorem PInv.scale (h : PInv p r c n M xs pv j) (hp : Prm p) (ht : pv.length < r) (hj : j < n) {z : Int} (hz : InvP p (mxC c xs pv.length j) z) :
    PInv p r c n M (rowL r c pv.length (scV p z (mxC c xs pv.length)) xs) pv j ∧ mxC c (rowL r c pv.length (scV p z (mxC c xs pv.length)) xs) pv.length j = 1 := by
  have hp0 : 0 < p := by have := hp.1; omega
  have hnc := h.nc
  have e1 : scV p z (mxC c xs pv.length) j = 1 := by
    show (mxC c xs pv.length j * z) % p = 1
    rw [Cg.emod_eq hp0 hz]
    exact Int.emod_eq_of_lt (by omega) (by have := hp.1; omega)
  refine ⟨h.put ht (fun q _ => res_can hp0 _) ?_ ?_ ?_ (fun hlt => absurd hlt (Nat.lt_irrefl _)), by rw [rowL_own ht (by omega)]; exact e1⟩
  · refine (((InP.row (p := p) (c := c) (A := mxC c xs) ht).add InP.zero z 0)).congr fun q _ => (Cg.emod p _).trans (Cg.of_eq ?_)
    rw [Int.mul_zero, Int.add_zero, Int.mul_comm]
  · refine ((InP.row (p := p) (c := c) (A := mxC c (rowL r c pv.length (scV p z (mxC c xs pv.length)) xs)) ht).add InP.zero (mxC c xs pv.length j) 0).congr fun q hq => ?_
    rw [rowL_own ht hq, Int.mul_zero, Int.add_zero]
    have h1 : Cg p (scV p z (mxC c xs pv.length) q) (mxC c xs pv.length q * z) := Cg.emod p _
    refine (Cg.trans (h1.mul_left _) ?_).symm
    have h2 : Cg p (mxC c xs pv.length j * z * mxC c xs pv.length q) (1 * mxC c xs pv.length q) := Cg.mul hz (Cg.refl _ _)
    rw [Int.one_mul] at h2
    refine Cg.trans (Cg.of_eq ?_) h2
    grind
  · intro q hq h0
    show (mxC c xs pv.length q * z) % p = 0
    rw [h0, Int.zero_mul]
    exact Int.zero_emod p
def lsV (p x : Int) (u v : Nat → Int) : Nat → Int := fun q => (u q - x * v q) % p
theorem PInv.less (h : PInv p r c n M xs pv j) (hp : Prm p) (ht : pv.length < r) (hj : j < n) {i : Nat} (hi : i < r) (hit : i ≠ pv.length) (h1 : mxC c xs pv.length j = 1) :
    PInv p r c n M (rowL r c i (lsV p (mxC c xs i j) (mxC c xs i) (mxC c xs pv.length)) xs) pv j ∧ (∀ a q, a < r → q < c → a ≠ i → mxC c (rowL r c i (lsV p (mxC c xs i j) (mxC c xs i) (mxC c xs pv.length)) xs) a q = mxC c xs a q) ∧ mxC c (rowL r c i (lsV p (mxC c xs i j) (mxC c xs i) (mxC c xs pv.length)) xs) i j = 0 := by
  have hp0 : 0 < p := by have := hp.1; omega
  have hnc := h.nc
  have hjn := h.jn
  have same : ∀ q, q < c → mxC c xs pv.length q = 0 → lsV p (mxC c xs i j) (mxC c xs i) (mxC c xs pv.length) q = mxC c xs i q := fun q hq h0 => by
    show (mxC c xs i q - mxC c xs i j * mxC c xs pv.length q) % p = mxC c xs i q
    rw [h0, Int.mul_zero, Int.sub_zero]
    have := h.can i q hi hq
    exact Int.emod_eq_of_lt this.1 this.2
  refine ⟨h.put hi (fun q _ => res_can hp0 _) ?_ ?_ ?_ ?_, fun a q ha hq hne => rowL_oth ha hq hne, ?_⟩
  · refine ((InP.row (p := p) (c := c) (A := mxC c xs) hi).add (InP.row ht) 1 (-(mxC c xs i j))).congr fun q _ => (Cg.emod p _).trans (Cg.of_eq ?_)
    rw [Int.one_mul, Int.neg_mul]; omega
  · have hR : InP p r c (mxC c (rowL r c i (lsV p (mxC c xs i j) (mxC c xs i) (mxC c xs pv.length)) xs)) (mxC c xs pv.length) := (InP.row (A := mxC c (rowL r c i (lsV p (mxC c xs i j) (mxC c xs i) (mxC c xs pv.length)) xs)) ht).congr fun q hq => Cg.of_eq (rowL_oth ht hq (fun e => hit e.symm)).symm
    refine ((InP.row (p := p) (c := c) (A := mxC c (rowL r c i (lsV p (mxC c xs i j) (mxC c xs i) (mxC c xs pv.length)) xs)) hi).add hR 1 (mxC c xs i j)).congr fun q hq => ?_
    rw [rowL_own hi hq, Int.one_mul]
    have h2 : Cg p (lsV p (mxC c xs i j) (mxC c xs i) (mxC c xs pv.length) q) (mxC c xs i q - mxC c xs i j * mxC c xs pv.length q) := Cg.emod p _
    exact (Cg.trans (h2.add (Cg.refl p _)) (Cg.of_eq (by omega))).symm
  · intro q hq h0
    rw [same q (by omega) (h.rest _ q (Nat.le_refl _) ht hq)]
    exact h0
  · intro hlt
    have hc := h.col i hlt
    rw [same _ (by omega) (h.rest _ _ (Nat.le_refl _) ht hc)]
    exact h.one i hlt
  · rw [rowL_own hi (by omega)]
    show (mxC c xs i j - mxC c xs i j * mxC c xs pv.length j) % p = 0
    rw [h1, Int.mul_one, Int.sub_self]
    exact Int.zero_emod p
theorem PInv.pivot (h : PInv p r c n M xs pv j) (ht : pv.length < r) (hj : j < n) (h1 : mxC c xs pv.length j = 1) (hz : ∀ i, i < r → i ≠ pv.length → mxC c xs i j = 0) : PInv p r c n M xs (pv ++ [j]) (j + 1) := by
  have hl : (pv ++ [j]).length = pv.length + 1 := by simp
  have old : ∀ k, k < pv.length → (pv ++ [j]).getD k 0 = pv.getD k 0 := fun k hk => by rw [List.getD, List.getD, List.getElem?_append_left hk]
  have new : (pv ++ [j]).getD pv.length 0 = j := by simp [List.getD]
  refine ⟨h.len, h.can, by omega, hj, h.nc, h.toM, h.ofM, ?_, ?_, ?_, ?_, ?_, ?_⟩
  · intro k hk
    rcases Nat.lt_or_ge k pv.length with h1 | h1
    · rw [old k h1]; have := h.col k h1; omega
    · obtain rfl : k = pv.length := by omega
      rw [new]; omega
  · intro k l hkl hll
    rcases Nat.lt_or_ge l pv.length with h1 | h1
    · rw [old k (by omega), old l h1]; exact h.inc k l hkl h1
    · obtain rfl : l = pv.length := by omega
      rw [old k hkl, new]; exact h.col k hkl
  · intro k hk
    rcases Nat.lt_or_ge k pv.length with h2 | h2
    · rw [old k h2]; exact h.one k h2
    · obtain rfl : k = pv.length := by omega
      rw [new]; exact h1
  · intro k i hk hi hne
    rcases Nat.lt_or_ge k pv.length with h1 | h1
    · rw [old k h1]; exact h.only k i h1 hi hne
    · obtain rfl : k = pv.length := by omega
      rw [new]; exact hz i hi hne
  · intro k q hk hq
    rcases Nat.lt_or_ge k pv.length with h1 | h1
    · rw [old k h1] at hq; exact h.left k q h1 hq
    · obtain rfl : k = pv.length := by omega
      rw [new] at hq; exact h.rest _ q (Nat.le_refl _) ht hq
  · intro i q hi hir hq
    rcases Nat.lt_or_ge q j with h1 | h1
    · exact h.rest i q (by omega) hir h1
    · obtain rfl : q = j := by omega
      exact hz i hir (by omega)
theorem PInv.ref (h : PInv p r c n M xs pv j) (he : j = n ∨ pv.length = r) : RefP r n (mxC c xs) (fun k => pv.getD k 0) pv.length where
  le := h.le
  col := fun k hk => by have := h.col k hk; have := h.jn; omega
  inc := h.inc
  one := h.one
  only := h.only
  left := h.left
  rest := fun i q hi hir hq => by
    rcases he with e | e
    · exact h.rest i q hi hir (by omega)
    · omega
end
def DInv (p : Int) (n : Nat) (M : Mx) (xs : List Int) (d : Int) : Prop := Cg p (det n M) (d * det n (mxC n xs))
theorem DInv.swap {p : Int} {n s t : Nat} {M : Mx} {xs : List Int} {d : Int} (h : DInv p n M xs d) (hx : xs.length = n * n) (hs : s < n) (ht : t < n) (hne : s ≠ t) : DInv p n M (swC s t n xs) ((-d) % p) := by
  have e : det n (mxC n (swC s t n xs)) = -det n (mxC n xs) := by
    rw [← det_swap (mxC n xs) hs ht hne]
    refine det_congr fun a b ha hb => ?_
    rw [swC_at hx ha hb]
    unfold swR
    by_cases h1 : a = s
    · rw [if_pos h1, if_pos h1]
    · rw [if_neg h1, if_neg h1]
      by_cases h2 : a = t
      · rw [if_pos h2, if_pos h2]
      · rw [if_neg h2, if_neg h2]
  unfold DInv
  rw [e]
  refine h.trans (Cg.symm (((Cg.emod p (-d)).mul (Cg.refl p _)).trans (Cg.of_eq ?_)))
  rw [Int.neg_mul_neg]
theorem DInv.scale {p : Int} {n t : Nat} {M : Mx} {xs : List Int} {d a z : Int} (h : DInv p n M xs d) (ht : t < n) (hz : InvP p a z) : DInv p n M (rowL n n t (scV p z (mxC n xs t)) xs) ((d * a) % p) := by
  have e : Cg p (det n (mxC n (rowL n n t (scV p z (mxC n xs t)) xs))) (z * det n (mxC n xs)) := by
    rw [← det_scale (mxC n xs) z ht]
    refine det_cg fun x y hx hy => ?_
    unfold stR
    by_cases h1 : x = t
    · rw [if_pos h1, h1, rowL_own ht hy]
      exact (Cg.emod p _).trans (Cg.of_eq (Int.mul_comm _ _))
    · rw [if_neg h1, rowL_oth hx hy h1]; exact Cg.refl _ _
  refine h.trans (Cg.symm (((Cg.emod p (d * a)).mul e).trans ?_))
  have h2 : Cg p (d * det n (mxC n xs) * (a * z)) (d * det n (mxC n xs) * 1) := Cg.mul_left _ hz
  rw [Int.mul_one] at h2
  exact Cg.trans (Cg.of_eq (by grind)) h2
theorem DInv.less {p : Int} {n i t : Nat} {M : Mx} {xs : List Int} {d x : Int} (h : DInv p n M xs d) (hi : i < n) (ht : t < n) (hne : i ≠ t) : DInv p n M (rowL n n i (lsV p x (mxC n xs i) (mxC n xs t)) xs) d := by
  have e : Cg p (det n (mxC n (rowL n n i (lsV p x (mxC n xs i) (mxC n xs t)) xs))) (det n (mxC n xs)) := by
    rw [← det_less (mxC n xs) x hi ht hne]
    refine det_cg fun a b ha hb => ?_
    unfold stR
    by_cases h1 : a = i
    · rw [if_pos h1, h1, rowL_own hi hb]
      exact Cg.emod p _
    · rw [if_neg h1, rowL_oth ha hb h1]; exact Cg.refl _ _
  exact h.trans (Cg.mul_left d e).symm
end Go.Proofs.YtcapddcmnjeloaaGreatDoor
end

section
/-
  Plain mathematics of chapter 8: the elimination over residues as a function of lists. Nothing of a program is used.
-/
namespace Go.Proofs.YtcapddcmnjeloaaGreatDoor
def invF (p a : Int) : Int := match (List.range p.toNat).find? (fun (x : Nat) => decide ((a * (x : Int)) % p = 1)) with
  | some x => (x : Int)
  | none => 0
theorem invF_of {p a x : Int} (hp : Prm p) (h0 : 0 ≤ x) (h1 : x < p) (h : InvP p a x) : invF p a = x := by
  have hp0 : 0 < p := by have := hp.1; omega
  have hx : (a * ((x.toNat : Nat) : Int)) % p = 1 := by
    rw [Int.toNat_of_nonneg h0, Cg.emod_eq hp0 h]
    exact Int.emod_eq_of_lt (by omega) (by have := hp.1; omega)
  unfold invF
  cases hf : (List.range p.toNat).find? (fun (x : Nat) => decide ((a * (x : Int)) % p = 1)) with
  | none =>
    have := List.find?_eq_none.mp hf x.toNat (List.mem_range.mpr (by omega))
    exact absurd (decide_eq_true hx) this
  | some y =>
    have h2 := List.find?_some hf
    have h3 := List.mem_range.mp (List.mem_of_find?_eq_some hf)
    have h4 : (a * (y : Int)) % p = 1 := of_decide_eq_true h2
    show (y : Int) = x
    have h5 : InvP p a y := by
      unfold InvP
      refine Cg.of_emod ?_
      rw [h4]
      exact (Int.emod_eq_of_lt (by omega) (by have := hp.1; omega)).symm
    exact Cg.eq ⟨by omega, by omega⟩ ⟨h0, h1⟩ (InvP.uniq hp h5 h)
def clP (p : Int) (r c t j : Nat) : Nat → Nat → List Int → List Int
  | 0, _, xs => xs
  | k + 1, i, xs => if i = t ∨ mxC c xs i j = 0 then clP p r c t j k (i + 1) xs else clP p r c t j k (i + 1) (rowL r c i (lsV p (mxC c xs i j) (mxC c xs i) (mxC c xs t)) xs)
def elP (p : Int) (r c : Nat) : Nat → Nat → List Int → List Nat → Int → List Int × List Nat × Int
  | 0, _, xs, pv, d => (xs, pv, d)
  | k + 1, j, xs, pv, d =>
    if pv.length < r then
      if fstR c j xs (r - pv.length) pv.length = r then elP p r c k (j + 1) xs pv d
      else elP p r c k (j + 1)
        (clP p r c pv.length j r 0 (rowL r c pv.length (scV p (invF p (mxC c (swC (fstR c j xs (r - pv.length) pv.length) pv.length c xs) pv.length j)) (mxC c (swC (fstR c j xs (r - pv.length) pv.length) pv.length c xs) pv.length)) (swC (fstR c j xs (r - pv.length) pv.length) pv.length c xs)))
        (pv ++ [j])
        (((if fstR c j xs (r - pv.length) pv.length = pv.length then d else (-d) % p) * mxC c (swC (fstR c j xs (r - pv.length) pv.length) pv.length c xs) pv.length j) % p)
    else (xs, pv, d)
theorem clP_skip {p : Int} {r c t j k i : Nat} {xs : List Int} (h : i = t ∨ mxC c xs i j = 0) : clP p r c t j (k + 1) i xs = clP p r c t j k (i + 1) xs := if_pos h
theorem clP_on {p : Int} {r c t j k i : Nat} {xs : List Int} (h : ¬ (i = t ∨ mxC c xs i j = 0)) : clP p r c t j (k + 1) i xs = clP p r c t j k (i + 1) (rowL r c i (lsV p (mxC c xs i j) (mxC c xs i) (mxC c xs t)) xs) := if_neg h
theorem elP_end {p : Int} {r c k j : Nat} {xs : List Int} {pv : List Nat} {d : Int} (h : ¬ pv.length < r) : elP p r c k j xs pv d = (xs, pv, d) := by
  cases k with
  | zero => rfl
  | succ k => exact if_neg h
theorem elP_skip {p : Int} {r c k j : Nat} {xs : List Int} {pv : List Nat} {d : Int} (h : pv.length < r) (hf : fstR c j xs (r - pv.length) pv.length = r) : elP p r c (k + 1) j xs pv d = elP p r c k (j + 1) xs pv d := by
  show (if pv.length < r then _ else _) = _
  rw [if_pos h, if_pos hf]
theorem elP_on {p : Int} {r c k j s : Nat} {xs : List Int} {pv : List Nat} {d : Int} (h : pv.length < r) (hf : fstR c j xs (r - pv.length) pv.length = s) (hs : s ≠ r) :
    elP p r c (k + 1) j xs pv d = elP p r c k (j + 1) (clP p r c pv.length j r 0 (rowL r c pv.length (scV p (invF p (mxC c (swC s pv.length c xs) pv.length j)) (mxC c (swC s pv.length c xs) pv.length)) (swC s pv.length c xs))) (pv ++ [j]) (((if s = pv.length then d else (-d) % p) * mxC c (swC s pv.length c xs) pv.length j) % p) := by
  show (if pv.length < r then _ else _) = _
  rw [if_pos h, hf, if_neg hs]
def HasInv (p : Int) : Prop := ∀ a : Int, ¬ p ∣ a → ∃ x : Int, 0 ≤ x ∧ x < p ∧ InvP p a x
theorem HasInv.inv {p : Int} (h : HasInv p) (hp : Prm p) {a : Int} (ha : ¬ p ∣ a) : InvP p a (invF p a) ∧ 0 ≤ invF p a ∧ invF p a < p := by
  obtain ⟨x, h0, h1, hx⟩ := h a ha
  rw [invF_of hp h0 h1 hx]
  exact ⟨hx, h0, h1⟩
theorem can_nd {p a : Int} (h : 0 ≤ a ∧ a < p) (h0 : a ≠ 0) : ¬ p ∣ a := fun hd => by
  have := Int.le_of_dvd (by omega) hd
  omega
theorem PInv.clear {p : Int} (hp : Prm p) {r c n : Nat} {M : Mx} {pv : List Nat} {j : Nat} (ht : pv.length < r) (hj : j < n) : ∀ (k i : Nat) (xs : List Int), i + k = r → PInv p r c n M xs pv j → mxC c xs pv.length j = 1 → (∀ a, a < i → a ≠ pv.length → mxC c xs a j = 0) →
    PInv p r c n M (clP p r c pv.length j k i xs) pv j ∧ mxC c (clP p r c pv.length j k i xs) pv.length j = 1 ∧ (∀ a, a < r → a ≠ pv.length → mxC c (clP p r c pv.length j k i xs) a j = 0) ∧ (r = c → ∀ d, DInv p r M xs d → DInv p r M (clP p r c pv.length j k i xs) d) := by
  intro k
  induction k with
  | zero =>
    intro i xs hik h h1 hz
    obtain rfl : i = r := by omega
    exact ⟨h, h1, hz, fun _ _ h => h⟩
  | succ k ih =>
    intro i xs hik h h1 hz
    by_cases hs : i = pv.length ∨ mxC c xs i j = 0
    · rw [clP_skip hs]
      refine ih (i + 1) xs (by omega) h h1 fun a ha hne => ?_
      rcases Nat.lt_or_ge a i with h2 | h2
      · exact hz a h2 hne
      · obtain rfl : a = i := by omega
        exact hs.resolve_left hne
    · rw [clP_on hs]
      have hi : i < r := by omega
      have hit : i ≠ pv.length := fun e => hs (.inl e)
      obtain ⟨h2, h3, h4⟩ := h.less hp ht hj hi hit h1
      have hnc := h.nc
      obtain ⟨e1, e2, e3, e4⟩ := ih (i + 1) _ (by omega) h2 (by rw [h3 _ _ ht (by omega) (fun e => hit e.symm)]; exact h1) fun a ha hne => by
        by_cases e : a = i
        · rw [e]; exact h4
        · rw [h3 a j (by omega) (by omega) e]; exact hz a (by omega) hne
      exact ⟨e1, e2, e3, fun hrc d hd => e4 hrc d (by subst hrc; exact hd.less hi ht hit)⟩
theorem PInv.all {p : Int} (hp : Prm p) (hI : HasInv p) {r c n : Nat} {M : Mx} : ∀ (k j : Nat) (xs : List Int) (pv : List Nat) (d : Int), j + k = n → PInv p r c n M xs pv j → 0 ≤ d ∧ d < p →
    (∃ j', PInv p r c n M (elP p r c k j xs pv d).1 (elP p r c k j xs pv d).2.1 j' ∧ (j' = n ∨ (elP p r c k j xs pv d).2.1.length = r)) ∧ (0 ≤ (elP p r c k j xs pv d).2.2 ∧ (elP p r c k j xs pv d).2.2 < p) ∧ (r = c → DInv p r M xs d → DInv p r M (elP p r c k j xs pv d).1 (elP p r c k j xs pv d).2.2) := by
  have hp0 : 0 < p := by have := hp.1; omega
  intro k
  induction k with
  | zero =>
    intro j xs pv d hjk h hd
    obtain rfl : j = n := by omega
    exact ⟨⟨j, h, .inl rfl⟩, hd, fun _ h => h⟩
  | succ k ih =>
    intro j xs pv d hjk h hd
    have hnc := h.nc
    have hj : j < n := by omega
    by_cases ht : pv.length < r
    · obtain ⟨f1, f2, f3, f4⟩ := fstR_says (c := c) (j := j) (xs := xs) (k := r - pv.length) (p := pv.length)
      by_cases hf : fstR c j xs (r - pv.length) pv.length = r
      · rw [elP_skip ht hf]
        exact ih (j + 1) xs pv d (by omega) (h.skip hj fun i h1 h2 => f3 i h1 (by omega)) hd
      · obtain ⟨s, hs⟩ : ∃ s, fstR c j xs (r - pv.length) pv.length = s := ⟨_, rfl⟩
        rw [elP_on ht hs (by omega)]
        rw [hs] at f1 f2 f3 f4 hf
        have hsr : s < r := by omega
        have h1 := h.swap f1 hsr
        have hy : mxC c (swC s pv.length c xs) pv.length j ≠ 0 := by
          rw [swC_at h.len ht (by omega)]
          by_cases e : pv.length = s
          · rw [if_pos e, e]; exact f4 (by omega)
          · rw [if_neg e, if_pos rfl]; exact f4 (by omega)
        have hnd := can_nd (h1.can _ _ ht (show j < c by omega)) hy
        obtain ⟨hz, -, -⟩ := hI.inv hp hnd
        obtain ⟨h2, h3⟩ := h1.scale hp ht hj hz
        obtain ⟨e1, e2, e3, e4⟩ := PInv.clear hp ht hj r 0 _ (by omega) h2 h3 (fun a ha => absurd ha (Nat.not_lt_zero a))
        have h5 := e1.pivot ht hj e2 e3
        obtain ⟨g1, g2, g3⟩ := ih (j + 1) _ (pv ++ [j]) (((if s = pv.length then d else (-d) % p) * mxC c (swC s pv.length c xs) pv.length j) % p) (by omega) h5 (res_can hp0 _)
        refine ⟨g1, g2, fun hrc hD => g3 hrc (e4 hrc _ ?_)⟩
        subst hrc
        refine DInv.scale ?_ ht hz
        by_cases e : s = pv.length
        · rw [if_pos e]
          unfold swC
          rw [if_pos e]; exact hD
        · rw [if_neg e]
          exact hD.swap h.len hsr ht e
    · rw [elP_end ht]
      exact ⟨⟨j, h, .inr (show pv.length = r by have := h.le; omega)⟩, hd, fun _ h => h⟩
end Go.Proofs.YtcapddcmnjeloaaGreatDoor
end

section
/-
  Plain mathematics of chapter 8: primes up to the limit, inverses of residues. Nothing of a program is used.
-/
namespace Go.Proofs.YtcapddcmnjeloaaGreatDoor
def prmB (p : Int) : Bool := decide (2 ≤ p ∧ p ≤ 10000) && (List.range 101).all fun d => decide (¬ (2 ≤ d ∧ ((d : Nat) : Int) * (d : Int) ≤ p ∧ (d : Int) ∣ p))
theorem prmB_says {p : Int} (h : prmB p = true) : Prm p ∧ p ≤ 10000 := by
  unfold prmB at h
  rw [Bool.and_eq_true, decide_eq_true_eq, List.all_eq_true] at h
  obtain ⟨⟨h1, h2⟩, h3⟩ := h
  refine ⟨⟨h1, fun d hd hdd hdv => ?_⟩, h2⟩
  have hd1 : d ≤ 100 := by
    rcases Int.lt_or_le 100 d with h4 | h4
    · have : (101 : Int) * 101 ≤ d * d := Int.mul_le_mul (by omega) (by omega) (by omega) (by omega)
      omega
    · exact h4
  obtain ⟨e, rfl⟩ := Int.eq_ofNat_of_zero_le (show 0 ≤ d by omega)
  have h4 := of_decide_eq_true (h3 e (List.mem_range.mpr (by omega)))
  exact h4 ⟨by omega, hdd, hdv⟩
theorem prmB_true {p : Int} (h1 : 2 ≤ p ∧ p ≤ 10000) (h2 : ∀ d : Nat, 2 ≤ d → (d : Int) * (d : Int) ≤ p → ¬ (d : Int) ∣ p) : prmB p = true := by
  unfold prmB
  rw [Bool.and_eq_true, decide_eq_true_eq, List.all_eq_true]
  exact ⟨h1, fun d _ => decide_eq_true fun h => h2 d h.1 h.2.1 h.2.2⟩
theorem prmB_out {p : Int} (h : p < 2 ∨ 10000 < p) : prmB p = false := by
  unfold prmB
  rw [decide_eq_false (by omega), Bool.false_and]
theorem prmB_div {p : Int} {d : Nat} (hd : 2 ≤ d) (hdd : (d : Int) * (d : Int) ≤ p) (hdv : (d : Int) ∣ p) : prmB p = false := by
  cases h : prmB p with
  | false => rfl
  | true => exact absurd hdv ((prmB_says h).1.2 d (by omega) hdd)
theorem bez : ∀ b a : Nat, ∃ x y : Int, (a : Int) * x + (b : Int) * y = (Nat.gcd a b : Nat) := by
  intro b
  induction b using Nat.strongRecOn with
  | ind b ih =>
    intro a
    rcases Nat.eq_zero_or_pos b with h | h
    · subst h
      exact ⟨1, 0, by simp⟩
    · obtain ⟨x, y, e⟩ := ih (a % b) (Nat.mod_lt a h) b
      refine ⟨y, x - ((a / b : Nat) : Int) * y, ?_⟩
      have e1 : Nat.gcd a b = Nat.gcd b (a % b) := by rw [Nat.gcd_comm a b, Nat.gcd_rec b a, Nat.gcd_comm]
      have e2 : (a : Int) = (b : Int) * ((a / b : Nat) : Int) + ((a % b : Nat) : Int) := by
        rw [← Int.natCast_mul, ← Int.natCast_add, Nat.div_add_mod]
      rw [e1, ← e]
      generalize ((a / b : Nat) : Int) = u at e2 ⊢
      generalize ((a % b : Nat) : Int) = v at e2 ⊢
      rw [e2]
      grind
theorem Prm.hasInv {p : Int} (h : Prm p) : HasInv p := fun a ha => by
  have hp0 : 0 < p := by have := h.1; omega
  obtain ⟨n, hn⟩ := Int.eq_ofNat_of_zero_le (Int.emod_nonneg a (show p ≠ 0 by omega))
  obtain ⟨q, hq⟩ := Int.eq_ofNat_of_zero_le (show 0 ≤ p by omega)
  obtain ⟨x, y, e⟩ := bez q n
  have hna : ¬ p ∣ (n : Int) := fun hd => ha (by
    have h1 : Cg p a (a % p) := (Cg.emod p a).symm
    rw [hn] at h1
    exact Cg.zero.mp (h1.trans (Cg.zero.mpr hd)))
  have hg := h.gcd hna
  have hg2 : (Nat.gcd n q : Nat) = 1 := by
    have : ((n : Int).gcd p) = Nat.gcd n q := by rw [hq]; rfl
    omega
  rw [hg2] at e
  refine ⟨x % p, Int.emod_nonneg _ (by omega), Int.emod_lt_of_pos _ hp0, ?_⟩
  have h1 : Cg p (a * (x % p)) ((n : Int) * x) := by
    rw [← hn]
    exact (Cg.emod p a).symm.mul (Cg.emod p x)
  refine Cg.trans h1 ⟨-y, ?_⟩
  rw [hq, Int.mul_neg]
  have e' : (n : Int) * x + (q : Int) * y = 1 := e
  omega
def ivM (p a : Int) : Int × Bool := if (prmB p && decide (NumP a) && decide (a % p ≠ 0)) = true then (invF p (a % p), true) else (0, false)
theorem invF_ext {p a g x y : Int} (hp : Prm p) (h : a * x + p * y = g) (hg : g = 1) : invF p a = x % p := by
  have hp0 : 0 < p := by have := hp.1; omega
  refine invF_of hp (Int.emod_nonneg _ (by omega)) (Int.emod_lt_of_pos _ hp0) ?_
  refine ((Cg.refl p a).mul (Cg.emod p x)).trans ⟨-y, ?_⟩
  rw [Int.mul_neg]
  omega
def resL (p : Int) (xs : List Int) : List Int := xs.map fun z => z % p
theorem resL_at {p : Int} {xs : List Int} (k : Nat) : (resL p xs).getD k 0 = xs.getD k 0 % p := by
  unfold resL
  rcases Nat.lt_or_ge k xs.length with h | h
  · simp [List.getD, h]
  · simp [List.getD, List.getElem?_eq_none h]
def redM (r c p : Int) (xs : List Int) : MR := if (isMat r c xs && prmB p) = true then ⟨true, r, c, resL p xs⟩ else MR.no
def CanL (p : Int) (xs : List Int) : Prop := ∀ k, k < xs.length → 0 ≤ xs.getD k 0 ∧ xs.getD k 0 < p
theorem resL_can {p : Int} (hp : 0 < p) (xs : List Int) : CanL p (resL p xs) := fun k _ => by rw [resL_at]; exact res_can hp _
theorem CanL.mx {p : Int} {r c : Nat} {xs : List Int} (h : CanL p xs) (hx : xs.length = r * c) {i j : Nat} (hi : i < r) (hj : j < c) : 0 ≤ mxC c xs i j ∧ mxC c xs i j < p := h _ (by rw [hx]; exact idx_lt hi hj)
theorem CanL.of {p : Int} {r c : Nat} {xs : List Int} (hx : xs.length = r * c) (h : ∀ i j, i < r → j < c → 0 ≤ mxC c xs i j ∧ mxC c xs i j < p) : CanL p xs := fun k hk => by
  rw [hx] at hk
  have hc : 0 < c := by
    rcases Nat.eq_zero_or_pos c with e | e
    · subst e; omega
    · exact e
  have e : k = k / c * c + k % c := by rw [Nat.mul_comm]; exact (Nat.div_add_mod k c).symm
  have := h (k / c) (k % c) (Nat.div_lt_of_lt_mul (by rw [Nat.mul_comm]; exact hk)) (Nat.mod_lt k hc)
  unfold mxC at this
  rw [← e] at this
  exact this
theorem CanL.sw {p : Int} {r c s t : Nat} {xs : List Int} (h : CanL p xs) (hx : xs.length = r * c) (hs : s < r) (ht : t < r) : CanL p (swC s t c xs) := CanL.of (by rw [swC_length]; exact hx) fun i j hi hj => by
  rw [swC_at hx hi hj]
  refine h.mx hx ?_ hj
  split
  · exact ht
  · split <;> omega
theorem CanL.row {p : Int} {r c i : Nat} {v : Nat → Int} {xs : List Int} (h : CanL p xs) (hx : xs.length = r * c) (hv : ∀ q, q < c → 0 ≤ v q ∧ v q < p) : CanL p (rowL r c i v xs) := CanL.of (rowL_length _ _ _ _ _) fun a j ha hj => by
  by_cases e : a = i
  · rw [e, rowL_own (by omega) hj]; exact hv j hj
  · rw [rowL_oth ha hj e]; exact h.mx hx ha hj
end Go.Proofs.YtcapddcmnjeloaaGreatDoor
end

section
/-
  Plain mathematics of chapter 7: the rank of a matrix turned over; products. Nothing of a program is used.
-/
namespace Go.Proofs.YtcapddcmnjeloaaGreatDoor
end Go.Proofs.YtcapddcmnjeloaaGreatDoor
end

section
/-
  Plain mathematics of chapter 7: what the laws ask of echelon forms. Nothing of a program is used.
-/
namespace Go.Proofs.YtcapddcmnjeloaaGreatDoor
end Go.Proofs.YtcapddcmnjeloaaGreatDoor
end

section
/-
  Plain mathematics of chapter 8: what ranks, determinants and inverses over residues are. Nothing of a program is used.
-/
namespace Go.Proofs.YtcapddcmnjeloaaGreatDoor
theorem inc_id {n : Nat} {q : Nat → Nat} (hc : ∀ k, k < n → q k < n) (hi : ∀ k l, k < l → l < n → q k < q l) : ∀ k, k < n → q k = k := by
  have low : ∀ k, k < n → k ≤ q k := by
    intro k
    induction k with
    | zero => intro _; exact Nat.zero_le _
    | succ k ih =>
      intro hk
      have h1 := ih (by omega)
      have h2 := hi k (k + 1) (by omega) hk
      omega
  have up : ∀ m k, k + m + 1 = n → q k ≤ k := by
    intro m
    induction m with
    | zero => intro k hk; have := hc k (by omega); omega
    | succ m ih =>
      intro k hk
      have h1 := ih (k + 1) (by omega)
      have h2 := hi k (k + 1) (by omega) (by omega)
      omega
  intro k hk
  have h1 := low k hk
  have h2 := up (n - k - 1) k (by omega)
  omega
theorem RefP.unit {n : Nat} {A : Mx} {q : Nat → Nat} (h : RefP n n A q n) {i j : Nat} (hi : i < n) (hj : j < n) : A i j = idX i j := by
  have e := inc_id h.col h.inc
  unfold idX
  by_cases hij : i = j
  · rw [if_pos hij]
    have := h.one j hj
    rw [e j hj] at this
    rw [hij]; exact this
  · rw [if_neg hij]
    have := h.only j i hj hi hij
    rw [e j hj] at this
    exact this
def elM (p : Int) (r c : Nat) (xs : List Int) : List Int × List Nat × Int := elP p r c c 0 (resL p xs) [] 1
theorem resL_length (p : Int) (xs : List Int) : (resL p xs).length = xs.length := List.length_map ..
theorem resL_cg {p : Int} {c : Nat} {xs : List Int} (i j : Nat) : Cg p (mxC c (resL p xs) i j) (mxC c xs i j) := by
  unfold mxC
  rw [resL_at]
  exact Cg.emod p _
theorem elM_says {p : Int} (hp : Prm p) {r c : Nat} {xs : List Int} (hx : xs.length = r * c) :
    RefP r c (mxC c (elM p r c xs).1) (fun k => (elM p r c xs).2.1.getD k 0) (elM p r c xs).2.1.length ∧ SubP p r r c (mxC c (elM p r c xs).1) (mxC c xs) ∧ SubP p r r c (mxC c xs) (mxC c (elM p r c xs).1) ∧ (0 ≤ (elM p r c xs).2.2 ∧ (elM p r c xs).2.2 < p) ∧ (r = c → Cg p (det r (mxC c xs)) ((elM p r c xs).2.2 * det r (mxC c (elM p r c xs).1))) := by
  have hp0 : 0 < p := by have := hp.1; omega
  have hr : (resL p xs).length = r * c := by rw [resL_length, hx]
  have st := PInv.start (p := p) (M := mxC c xs) hr (Nat.le_refl c) (fun i q hi hq => (resL_can hp0 xs).mx hr hi hq) (fun i q _ _ => resL_cg i q)
  obtain ⟨⟨j', h1, h2⟩, h3, h4⟩ := PInv.all hp hp.hasInv c 0 (resL p xs) [] 1 (by omega) st ⟨by decide, by have := hp.1; omega⟩
  refine ⟨h1.ref h2, h1.toM, h1.ofM, h3, fun hrc => ?_⟩
  subst hrc
  refine h4 rfl ?_
  unfold DInv
  rw [Int.one_mul]
  exact det_cg fun i j _ _ => (resL_cg i j).symm
theorem elM_det {p : Int} (hp : Prm p) {n : Nat} {xs : List Int} (hx : xs.length = n * n) :
    ((elM p n n xs).2.1.length < n ↔ det n (mxC n xs) % p = 0) ∧ (if (elM p n n xs).2.1.length < n then 0 else (elM p n n xs).2.2) = det n (mxC n xs) % p := by
  have hp0 : 0 < p := by have := hp.1; omega
  obtain ⟨h1, h2, h3, h4, h5⟩ := elM_says hp hx
  have h5 := h5 rfl
  generalize elM p n n xs = E at h1 h2 h3 h4 h5 ⊢
  by_cases hl : E.2.1.length < n
  · have e0 : Cg p (det n (mxC n E.1)) 0 := det_zero_row (i := E.2.1.length) hl fun j hj => Cg.of_eq (h1.rest _ j (Nat.le_refl _) hl hj)
    have e1 : Cg p (det n (mxC n xs)) 0 := h5.trans ((Cg.mul_left _ e0).trans (Cg.of_eq (Int.mul_zero _)))
    have e2 : det n (mxC n xs) % p = 0 := by rw [Cg.emod_eq hp0 e1]; exact Int.zero_emod p
    exact ⟨⟨fun _ => e2, fun _ => hl⟩, by rw [if_pos hl, e2]⟩
  · have hle := h1.le
    have en : E.2.1.length = n := by omega
    rw [en] at h1
    have eu : ∀ i j, i < n → j < n → mxC n E.1 i j = idX i j := fun i j hi hj => h1.unit hi hj
    have ed : det n (mxC n E.1) = 1 := by rw [det_congr (B := idX) eu, det_id]
    rw [ed, Int.mul_one] at h5
    have e1 : det n (mxC n xs) % p = E.2.2 := by
      rw [Cg.emod_eq hp0 h5]
      exact Int.emod_eq_of_lt h4.1 h4.2
    -- the unit matrix is a combination of the rows: the determinant is not 0
    have hK : ∀ i, ∃ k : Nat → Int, i < n → ∀ j, j < n → Cg p (mxC n E.1 i j) (sumN n fun a => k a * mxC n xs a j) := fun i => by
      by_cases hi : i < n
      · obtain ⟨k, hk⟩ := h2 i hi
        exact ⟨k, fun _ => hk⟩
      · exact ⟨fun _ => 0, fun h => absurd h hi⟩
    obtain ⟨K, hKK⟩ := Classical.skolem.mp hK
    have hI : InvX p n (mxC n xs) K := fun i j hi hj => (hKK i hi j hj).symm.trans (Cg.of_eq (eu i j hi hj))
    have hne := hI.ne hp
    refine ⟨⟨fun h => absurd h hl, fun h => absurd ?_ hne⟩, by rw [if_neg hl, e1]⟩
    exact Int.dvd_of_emod_eq_zero h
def wideL (p : Int) (n : Nat) (xs : List Int) : List Int := tab n (2 * n) fun i j => if j < n then (resL p xs).getD (i * n + j) 0 else if j = n + i then 1 else 0
def wideX (n : Nat) (M : Mx) : Mx := fun i j => if j < n then M i j else if j = n + i then 1 else 0
def elW (p : Int) (n : Nat) (xs : List Int) : List Int × List Nat × Int := elP p n (2 * n) n 0 (wideL p n xs) [] 1
def ivL (p : Int) (n : Nat) (xs : List Int) : List Int := tab n n fun i j => (elW p n xs).1.getD (i * (2 * n) + (n + j)) 0
theorem wideL_can {p : Int} (hp : Prm p) {n : Nat} {xs : List Int} (hx : xs.length = n * n) : CanL p (wideL p n xs) := CanL.of (tab_length _ _ _) fun i j hi hj => by
  have hp0 := hp.1
  show 0 ≤ (wideL p n xs).getD (i * (2 * n) + j) 0 ∧ (wideL p n xs).getD (i * (2 * n) + j) 0 < p
  unfold wideL
  rw [tab_at n (2 * n) _ hi hj]
  by_cases h1 : j < n
  · rw [if_pos h1]
    exact resL_can (by omega) xs _ (by rw [resL_length, hx]; exact idx_lt hi h1)
  · rw [if_neg h1]
    split <;> omega
theorem elW_says {p : Int} (hp : Prm p) {n : Nat} {xs : List Int} (hx : xs.length = n * n) :
    RefP n n (mxC (2 * n) (elW p n xs).1) (fun k => (elW p n xs).2.1.getD k 0) (elW p n xs).2.1.length ∧ SubP p n n (2 * n) (mxC (2 * n) (elW p n xs).1) (wideX n (mxC n xs)) ∧ SubP p n n (2 * n) (wideX n (mxC n xs)) (mxC (2 * n) (elW p n xs).1) ∧ (∀ i j, i < n → j < 2 * n → 0 ≤ mxC (2 * n) (elW p n xs).1 i j ∧ mxC (2 * n) (elW p n xs).1 i j < p) := by
  have hp0 : 0 < p := by have := hp.1; omega
  have hl : (wideL p n xs).length = n * (2 * n) := tab_length _ _ _
  have hM : ∀ i q, i < n → q < 2 * n → Cg p (mxC (2 * n) (wideL p n xs) i q) (wideX n (mxC n xs) i q) := fun i q hi hq => by
    have e : mxC (2 * n) (wideL p n xs) i q = if q < n then (resL p xs).getD (i * n + q) 0 else if q = n + i then 1 else 0 := tab_at n (2 * n) _ hi hq
    rw [e]
    unfold wideX
    split
    · exact resL_cg i q
    · exact Cg.refl _ _
  have st := PInv.start (p := p) (M := wideX n (mxC n xs)) hl (by omega : n ≤ 2 * n) (fun i q hi hq => (wideL_can hp hx).mx hl hi hq) hM
  obtain ⟨⟨j', h1, h2⟩, -, -⟩ := PInv.all hp hp.hasInv n 0 (wideL p n xs) [] 1 (by omega) st ⟨by decide, by have := hp.1; omega⟩
  exact ⟨h1.ref h2, h1.toM, h1.ofM, h1.can⟩
theorem elW_inv {p : Int} (hp : Prm p) {n : Nat} {xs : List Int} (hx : xs.length = n * n) :
    ((elW p n xs).2.1.length < n ↔ det n (mxC n xs) % p = 0) ∧ (¬ (elW p n xs).2.1.length < n → InvX p n (mxC n xs) (mxC n (ivL p n xs))) ∧ CanL p (ivL p n xs) ∧ (ivL p n xs).length = n * n := by
  have hp0 : 0 < p := by have := hp.1; omega
  obtain ⟨h1, h2, h3, h4⟩ := elW_says hp hx
  have at_ : ∀ i j, i < n → j < n → mxC n (ivL p n xs) i j = mxC (2 * n) (elW p n xs).1 i (n + j) := fun i j hi hj => tab_at n n _ hi hj
  have can : CanL p (ivL p n xs) := CanL.of (tab_length _ _ _) fun i j hi hj => by rw [at_ i j hi hj]; exact h4 i (n + j) hi (by omega)
  have inv : ¬ (elW p n xs).2.1.length < n → InvX p n (mxC n xs) (mxC n (ivL p n xs)) := fun hl i j hi hj => by
    have hle := h1.le
    have en : (elW p n xs).2.1.length = n := by omega
    rw [en] at h1
    obtain ⟨k, hk⟩ := h2 i hi
    have e1 : ∀ b, b < n → Cg p (mxC n (ivL p n xs) i b) (k b) := fun b hb => by
      rw [at_ i b hi hb]
      refine (hk (n + b) (by omega)).trans (Cg.of_eq ?_)
      rw [sumN_one (a := b) hb (fun a ha hne => by unfold wideX; rw [if_neg (by omega), if_neg (by omega), Int.mul_zero])]
      unfold wideX
      rw [if_neg (by omega), if_pos rfl, Int.mul_one]
    have e2 : Cg p (mxC (2 * n) (elW p n xs).1 i j) (sumN n fun a => k a * mxC n xs a j) := (hk j (by omega)).trans (Cg.of_eq (sumN_congr fun a _ => by unfold wideX; rw [if_pos hj]))
    rw [h1.unit hi hj] at e2
    exact (Cg.trans (Cg.sum fun a ha => (e1 a ha).mul (Cg.refl p _)) e2.symm)
  refine ⟨?_, inv, can, tab_length _ _ _⟩
  by_cases hl : (elW p n xs).2.1.length < n
  · refine ⟨fun _ => ?_, fun _ => hl⟩
    have hK : ∀ i, ∃ k : Nat → Int, i < n → ∀ j, j < 2 * n → Cg p (wideX n (mxC n xs) i j) (sumN n fun a => k a * mxC (2 * n) (elW p n xs).1 a j) := fun i => by
      by_cases hi : i < n
      · obtain ⟨k, hk⟩ := h3 i hi
        exact ⟨k, fun _ => hk⟩
      · exact ⟨fun _ => 0, fun h => absurd h hi⟩
    obtain ⟨K, hKK⟩ := Classical.skolem.mp hK
    have e1 : Cg p (det n (mxC n xs)) (det n (mulX n K (mxC (2 * n) (elW p n xs).1))) := det_cg fun i j hi hj => by
      have := hKK i hi j (by omega)
      unfold wideX at this
      rw [if_pos hj] at this
      exact this
    rw [det_mul] at e1
    have e0 : Cg p (det n (mxC (2 * n) (elW p n xs).1)) 0 := det_zero_row (i := (elW p n xs).2.1.length) hl fun j hj => Cg.of_eq (h1.rest _ j (Nat.le_refl _) hl hj)
    have e2 : Cg p (det n (mxC n xs)) 0 := e1.trans ((Cg.mul_left _ e0).trans (Cg.of_eq (Int.mul_zero _)))
    rw [Cg.emod_eq hp0 e2]
    exact Int.zero_emod p
  · exact ⟨fun h => absurd h hl, fun h => absurd (Int.dvd_of_emod_eq_zero h) ((inv hl).ne hp)⟩
end Go.Proofs.YtcapddcmnjeloaaGreatDoor
end

section
/-
  Plain mathematics of chapter 11: what IsRational, SolveByDeterminants and SolveByEchelon answer, and that they agree.
-/
namespace Go.Proofs.YtcapddcmnjeloaaGreatDoor
def sysB (r c : Int) (xs bs : List Int) : Bool := isSq r c xs && decide ((bs.length : Int) = r) && nums bs
theorem sysB_says {r c : Int} {xs bs : List Int} (h : sysB r c xs bs = true) : ∃ n : Nat, r = n ∧ c = n ∧ n ≤ 6 ∧ xs.length = n * n ∧ nums xs = true ∧ bs.length = n ∧ nums bs = true := by
  unfold sysB at h
  simp only [Bool.and_eq_true, decide_eq_true_eq] at h
  obtain ⟨n, rfl, rfl, h6, hl, hn⟩ := isSq_says h.1.1
  exact ⟨n, rfl, rfl, h6, hl, hn, by omega, h.2⟩
theorem sysB_false {r c : Int} {xs bs : List Int} (h : isSq r c xs = false ∨ (bs.length : Int) ≠ r ∨ nums bs = false) : sysB r c xs bs = false := by
  unfold sysB
  rcases h with h | h | h
  · rw [h]; rfl
  · rw [decide_eq_false h, Bool.and_false]; rfl
  · rw [h, Bool.and_false]
def atR (zs : List (Int × Int)) (j : Nat) : Int × Int := zs.getD j (0, 0)
theorem atR_map {n : Nat} {f : Nat → Int × Int} {j : Nat} (hj : j < n) : atR ((List.range n).map f) j = f j := by
  simp [atR, List.getD, hj]
def rowB (c : Nat) (xs bs : List Int) (zs : List (Int × Int)) (i : Nat) : Bool := decide (sumR (mxC c xs i) (atR zs) c = (bs.getD i 0, 1))
def irB (r c : Int) (xs bs : List Int) (zs : List (Int × Int)) : Bool := isMat r c xs && decide ((bs.length : Int) = r) && decide ((zs.length : Int) = c) && (List.range r.toNat).all (rowB c.toNat xs bs zs)
theorem irB_false {r c : Int} {xs bs : List Int} {zs : List (Int × Int)} (h : isMat r c xs = false ∨ (bs.length : Int) ≠ r ∨ (zs.length : Int) ≠ c) : irB r c xs bs zs = false := by
  unfold irB
  rcases h with h | h | h
  · rw [h]; rfl
  · rw [decide_eq_false h, Bool.and_false]; rfl
  · rw [decide_eq_false h, Bool.and_false]; rfl
theorem irB_row {r c i : Nat} {xs bs : List Int} {zs : List (Int × Int)} (hi : i < r) (h : rowB c xs bs zs i = false) : irB r c xs bs zs = false := by
  cases hb : irB r c xs bs zs with
  | false => rfl
  | true =>
    unfold irB at hb
    rw [Bool.and_eq_true, List.all_eq_true] at hb
    have := hb.2 i (List.mem_range.mpr hi)
    rw [show (c : Int).toNat = c from rfl, h] at this
    cases this
theorem irB_true {r c : Nat} {xs bs : List Int} {zs : List (Int × Int)} (h1 : isMat r c xs = true) (h2 : bs.length = r) (h3 : zs.length = c) (h : ∀ i, i < r → rowB c xs bs zs i = true) : irB r c xs bs zs = true := by
  unfold irB
  rw [h1, decide_eq_true (show (bs.length : Int) = r by omega), decide_eq_true (show (zs.length : Int) = c by omega)]
  exact List.all_eq_true.mpr fun i hi => h i (List.mem_range.mp hi)
theorem irB_says {r c : Int} {xs bs : List Int} {zs : List (Int × Int)} (h : irB r c xs bs zs = true) : ∃ R C : Nat, r = R ∧ c = C ∧ R ≤ 24 ∧ C ≤ 24 ∧ isMat r c xs = true ∧ bs.length = R ∧ zs.length = C ∧ ((0 < R ∨ C = 0) → RSol R C (mxC C xs) (fun i => bs.getD i 0) (atR zs)) := by
  unfold irB at h
  simp only [Bool.and_eq_true, decide_eq_true_eq, List.all_eq_true] at h
  obtain ⟨⟨⟨h1, h2⟩, h3⟩, h4⟩ := h
  obtain ⟨⟨r0, r1⟩, ⟨c0, c1⟩, -, -⟩ := isMat_says h1
  obtain ⟨R, rfl⟩ := Int.eq_ofNat_of_zero_le r0
  obtain ⟨C, rfl⟩ := Int.eq_ofNat_of_zero_le c0
  refine ⟨R, C, rfl, rfl, by omega, by omega, h1, by omega, by omega, fun hr => RSol.sums hr fun i hi => ?_⟩
  have := h4 i (List.mem_range.mpr hi)
  unfold rowB at this
  exact of_decide_eq_true this
theorem irB_sol {n : Nat} {xs bs : List Int} {zs : List (Int × Int)} (h : irB n n xs bs zs = true) : zs.length = n ∧ RSol n n (mxC n xs) (fun i => bs.getD i 0) (atR zs) := by
  obtain ⟨R, C, h1, h2, -, -, -, -, h3, h4⟩ := irB_says h
  obtain rfl : n = R := by omega
  obtain rfl : n = C := by omega
  exact ⟨h3, h4 (by omega)⟩
def rcL (n : Nat) (xs bs : List Int) (j : Nat) : List Int := tab n n fun i k => if k = j then bs.getD i 0 else xs.getD (i * n + k) 0
theorem rcL_length (n : Nat) (xs bs : List Int) (j : Nat) : (rcL n xs bs j).length = n * n := tab_length _ _ _
theorem rcL_rcX (n : Nat) (xs bs : List Int) (j : Nat) : EqX n (mxL n (rcL n xs bs j)) (rcX (mxL n xs) j fun i => bs.getD i 0) := fun i k hi hk => by
  unfold rcL
  rw [mxL_tab n _ i k hi hk]
  rfl
def sdX (r c : Int) (xs bs : List Int) : List (Int × Int) × Bool := if (sysB r c xs bs && (detOf r c xs).2 && decide ((detOf r c xs).1 ≠ 0) && (List.range r.toNat).all fun j => (detOf r c (rcL r.toNat xs bs j)).2) = true then ((List.range r.toNat).map fun j => mkRat (detOf r c (rcL r.toNat xs bs j)).1 (detOf r c xs).1, true) else ([], false)
theorem sdX_no {r c : Int} {xs bs : List Int} (h : sysB r c xs bs = false ∨ (detOf r c xs).2 = false ∨ (detOf r c xs).1 = 0) : sdX r c xs bs = ([], false) := by
  unfold sdX
  rcases h with h | h | h
  · rw [h]; rfl
  · rw [h, Bool.and_false]; rfl
  · rw [decide_eq_false (fun e => e h), Bool.and_false]; rfl
theorem sdX_bad {n j : Nat} {xs bs : List Int} (hj : j < n) (h : (detOf n n (rcL n xs bs j)).2 = false) : sdX n n xs bs = ([], false) := by
  unfold sdX
  refine if_neg fun h2 => ?_
  rw [Bool.and_eq_true, List.all_eq_true] at h2
  have := h2.2 j (List.mem_range.mpr hj)
  rw [show (n : Int).toNat = n from rfl, h] at this
  cases this
def sdUp (n : Nat) (xs bs : List Int) (d : Int) (j : Nat) : List (Int × Int) := (List.range j).map fun k => mkRat (detOf n n (rcL n xs bs k)).1 d
theorem sdUp_succ (n : Nat) (xs bs : List Int) (d : Int) (j : Nat) : sdUp n xs bs d (j + 1) = sdUp n xs bs d j ++ [mkRat (detOf n n (rcL n xs bs j)).1 d] := by simp [sdUp, List.range_succ]
theorem sdX_yes {n : Nat} {xs bs : List Int} (h1 : sysB n n xs bs = true) (h2 : (detOf n n xs).2 = true) (h3 : (detOf n n xs).1 ≠ 0) (h4 : ∀ j, j < n → (detOf n n (rcL n xs bs j)).2 = true) : sdX n n xs bs = (sdUp n xs bs (detOf n n xs).1 n, true) := by
  unfold sdX
  refine if_pos ?_
  rw [h1, h2, decide_eq_true h3]
  exact List.all_eq_true.mpr fun j hj => h4 j (List.mem_range.mp hj)
theorem mkRat_num {n d : Int} (hn : NumP n) (hd : NumP d) (h0 : d ≠ 0) : RatQ (mkRat n d) ∧ n * (mkRat n d).2 = (mkRat n d).1 * d := by
  rw [mkRat_in ⟨hn, hd⟩]
  obtain ⟨b1, b2, b3, b4⟩ := low_bd n d h0
  have f : Fits (lowN n d) (lowD n d) := by
    unfold NumP at hn hd
    refine ⟨by omega, by omega, by omega, by omega⟩
  obtain ⟨e, hr⟩ := low_fits h0 f
  rw [e]
  exact ⟨hr, (low_says e hr).2⟩
theorem sdX_says {r c : Int} {xs bs : List Int} (h : (sdX r c xs bs).2 = true) : ∃ n : Nat, r = n ∧ c = n ∧ n ≤ 6 ∧ sysB r c xs bs = true ∧ (detOf r c xs).2 = true ∧ det n (mxL n xs) ≠ 0 ∧ (sdX r c xs bs).1.length = n ∧ RSol n n (mxL n xs) (fun i => bs.getD i 0) (atR (sdX r c xs bs).1) := by
  by_cases hh : (sysB r c xs bs && (detOf r c xs).2 && decide ((detOf r c xs).1 ≠ 0) && (List.range r.toNat).all fun j => (detOf r c (rcL r.toNat xs bs j)).2) = true
  rotate_left
  · unfold sdX at h; rw [if_neg hh] at h; cases h
  simp only [Bool.and_eq_true, decide_eq_true_eq, List.all_eq_true] at hh
  obtain ⟨⟨⟨h1, h2⟩, h3⟩, h4⟩ := hh
  obtain ⟨n, rfl, rfl, h6, hl, hn, hb, hm⟩ := sysB_says h1
  have h4 : ∀ j, j < n → (detOf n n (rcL n xs bs j)).2 = true := fun j hj => h4 j (List.mem_range.mpr hj)
  have ed : ∀ ys : List Int, (detOf n n ys).2 = true → (detOf n n ys).1 = det n (mxL n ys) := fun ys hy => by
    obtain ⟨m, hm, -, -, -, -, -, -, e⟩ := detOf_says rfl hy
    obtain rfl : n = m := by omega
    exact e
  have hd : det n (mxL n xs) ≠ 0 := by rw [← ed xs h2]; exact h3
  rw [sdX_yes h1 h2 h3 h4]
  refine ⟨n, rfl, rfl, h6, h1, h2, hd, by simp [sdUp], RSol.cramer hd fun j hj => ?_⟩
  show RatQ (atR (sdUp n xs bs (detOf n n xs).1 n) j) ∧ _ * (atR (sdUp n xs bs (detOf n n xs).1 n) j).2 = (atR (sdUp n xs bs (detOf n n xs).1 n) j).1 * _
  unfold sdUp
  rw [atR_map hj, ← det_congr (rcL_rcX n xs bs j), ← ed _ (h4 j hj), ← ed _ h2]
  exact mkRat_num (detOf_num _ _ _) (detOf_num _ _ _) h3
theorem same_list {n : Nat} {zs ws : List (Int × Int)} (h1 : zs.length = n) (h2 : ws.length = n) (h : ∀ j, j < n → atR zs j = atR ws j) : zs = ws := by
  refine List.ext_getElem (by omega) fun j a b => ?_
  have := h j (by omega)
  unfold atR at this
  simpa [List.getD, a, b] using this
theorem sd_ir {r c : Int} {xs bs : List Int} {zs : List (Int × Int)} (h1 : (sdX r c xs bs).2 = true) (h2 : irB r c xs bs zs = true) : (sdX r c xs bs).1 = zs := by
  obtain ⟨n, rfl, rfl, -, -, -, hd, l1, s1⟩ := sdX_says h1
  obtain ⟨l2, s2⟩ := irB_sol h2
  exact same_list l1 l2 (s1.uniq hd s2)
end Go.Proofs.YtcapddcmnjeloaaGreatDoor
end

section
/-
  Plain mathematics of chapter 10: ratios and their residues, the ratio with small parts that has a residue. Nothing of a program is used.
-/
namespace Go.Proofs.YtcapddcmnjeloaaGreatDoor
def ImgP (n d y m : Int) : Prop := Cg m (y * d) n
theorem img_iff {n d y m : Int} (hm : 0 < m) : (y % m * (d % m) - n) % m = 0 ↔ ImgP n d y m := by
  have e : Cg m (y % m * (d % m) - n) (y * d - n) := ((Cg.emod m y).mul (Cg.emod m d)).sub (Cg.refl m n)
  rw [Cg.emod_eq hm e]
  unfold ImgP Cg
  exact ⟨fun h => Int.dvd_of_emod_eq_zero h, fun h => Int.emod_eq_zero_of_dvd h⟩
structure RInv (m a g x h u : Int) : Prop where
  low : 0 ≤ h
  less : h < g
  gx : Cg m g (x * a)
  hu : Cg m h (u * a)
  sg : (0 < u ∧ x ≤ 0 ∧ g * u - h * x = m) ∨ (u < 0 ∧ 0 ≤ x ∧ g * u - h * x = -m)
theorem RInv.start {m a : Int} (hm : 0 < m) : RInv m a m 0 (a % m) 1 where
  low := Int.emod_nonneg _ (by omega)
  less := Int.emod_lt_of_pos _ hm
  gx := by rw [Int.zero_mul]; exact Cg.zero.mpr (Int.dvd_refl m)
  hu := by rw [Int.one_mul]; exact Cg.emod m a
  sg := .inl ⟨by decide, by decide, by omega⟩
theorem RInv.step {m a g x h u : Int} (I : RInv m a g x h u) (hp : 0 < h) : RInv m a h u (g - g / h * h) (x - g / h * u) := by
  have hq : 1 ≤ g / h := by
    have := Int.ediv_mul_le g (show h ≠ 0 by omega)
    rw [Int.le_ediv_iff_mul_le hp]
    have := I.less
    omega
  have e : g - g / h * h = g % h := by rw [Int.emod_def, Int.mul_comm h]
  have e2 : h * (x - g / h * u) - (g - g / h * h) * u = -(g * u - h * x) := by generalize g / h = q; grind
  refine ⟨?_, ?_, I.hu, ?_, ?_⟩
  · rw [e]; exact Int.emod_nonneg _ (by omega)
  · rw [e]; exact Int.emod_lt_of_pos _ hp
  · have := I.gx.sub (Cg.mul_left (g / h) I.hu)
    refine this.trans (Cg.of_eq ?_)
    rw [Int.sub_mul, Int.mul_assoc]
  · rw [e2]
    generalize g / h = q at hq ⊢
    rcases I.sg with ⟨h1, h2, h3⟩ | ⟨h1, h2, h3⟩
    · right
      have := Int.mul_le_mul_of_nonneg_right hq (show 0 ≤ u by omega)
      refine ⟨by omega, by omega, by omega⟩
    · left
      have := Int.mul_le_mul_of_nonneg_right hq (show 0 ≤ -u by omega)
      simp only [Int.mul_neg, Int.one_mul] at this
      refine ⟨by omega, by omega, by omega⟩
theorem mul_abs {a b A B : Int} (ha : -A ≤ a ∧ a ≤ A) (hb : -B ≤ b ∧ b ≤ B) : -(A * B) ≤ a * b ∧ a * b ≤ A * B := by
  have h : (a * b).natAbs ≤ A.natAbs * B.natAbs := by
    rw [Int.natAbs_mul]
    exact Nat.mul_le_mul (by omega) (by omega)
  have e : ((A.natAbs * B.natAbs : Nat) : Int) = A * B := by
    rw [Int.natCast_mul, Int.natAbs_of_nonneg (by omega), Int.natAbs_of_nonneg (by omega)]
  omega
theorem pos_of_mul {u b : Int} (h : 0 < u * b) (hu : 0 < u) : 0 < b := by
  rcases Int.lt_or_le 0 b with h1 | h1
  · exact h1
  · have := Int.mul_nonneg (show 0 ≤ u by omega) (show 0 ≤ -b by omega)
    rw [Int.mul_neg] at this
    omega
theorem ratio_pos {m a g x h u B n d : Int} (hh : 0 ≤ h) (gx : Cg m g (x * a)) (hu : Cg m h (u * a)) (up : 0 < u) (xn : x ≤ 0) (dt : g * u - h * x = m) (hB : h ≤ B) (gB : B < g) (hm : 2 * (B * B) < m) (hn : -B ≤ n ∧ n ≤ B) (hd : 0 < d ∧ d ≤ B) (hg : n.gcd d = 1) (hi : Cg m (a * d) n) : h = n ∧ u = d := by
  have hmp : 0 < m := by have := Int.mul_nonneg (show 0 ≤ B by omega) (show 0 ≤ B by omega); omega
  obtain ⟨k, hk⟩ : m ∣ n * u - d * h := by
    have e1 : Cg m (n * u) (a * d * u) := hi.symm.mul (Cg.refl m u)
    have e2 : Cg m (d * h) (d * (u * a)) := Cg.mul_left d hu
    exact e1.trans ((Cg.of_eq (by grind)).trans e2.symm)
  obtain ⟨l, hl⟩ : m ∣ g * d - x * n := by
    have e1 : Cg m (g * d) (x * a * d) := gx.mul (Cg.refl m d)
    have e2 : Cg m (x * n) (x * (a * d)) := Cg.mul_left x hi.symm
    exact e1.trans ((Cg.of_eq (by grind)).trans e2.symm)
  have en : n = g * k + h * l := by
    refine Int.eq_of_mul_eq_mul_left (show m ≠ 0 by omega) ?_
    have e1 : (g * u - h * x) * n = g * (n * u - d * h) + h * (g * d - x * n) := by grind
    rw [dt, hk, hl] at e1
    rw [e1]
    grind
  have ed : d = x * k + u * l := by
    refine Int.eq_of_mul_eq_mul_left (show m ≠ 0 by omega) ?_
    have e1 : (g * u - h * x) * d = x * (n * u - d * h) + u * (g * d - x * n) := by grind
    rw [dt, hk, hl] at e1
    rw [e1]
    grind
  have hk0 : k = 0 := by
    rcases Int.lt_trichotomy k 0 with h1 | h1 | h1
    · exfalso
      have b1 := Int.mul_le_mul_of_nonneg_left (show 1 ≤ -k by omega) (show 0 ≤ g by omega)
      have b3 := Int.mul_le_mul_of_nonneg_left (show 1 ≤ -k by omega) (show 0 ≤ m by omega)
      have b2 := Int.mul_nonneg (show 0 ≤ -x by omega) (show 0 ≤ -k by omega)
      simp only [Int.mul_neg, Int.neg_mul, Int.mul_one] at b1 b2 b3
      rcases Int.lt_or_le 0 l with h2 | h2
      · have c1 := Int.mul_le_mul_of_nonneg_left (show 1 ≤ l from h2) (show 0 ≤ u by omega)
        have c2 := mul_abs (a := n) (b := u) (A := B) (B := B) (by omega) (by omega)
        have c3 := mul_abs (a := d) (b := h) (A := B) (B := B) (by omega) (by omega)
        omega
      · have c1 := Int.mul_nonneg hh (show 0 ≤ -l by omega)
        simp only [Int.mul_neg] at c1
        omega
    · exact h1
    · exfalso
      have b1 := Int.mul_le_mul_of_nonneg_left (show 1 ≤ k from h1) (show 0 ≤ g by omega)
      have b2 := Int.mul_nonneg (show 0 ≤ -x by omega) (show 0 ≤ k by omega)
      simp only [Int.neg_mul, Int.mul_one] at b1 b2
      rcases Int.lt_or_le l 0 with h2 | h2
      · have c1 := Int.mul_le_mul_of_nonneg_left (show 1 ≤ -l by omega) (show 0 ≤ u by omega)
        simp only [Int.mul_neg, Int.mul_one] at c1
        omega
      · have c1 := Int.mul_nonneg hh h2
        omega
  subst hk0
  rw [Int.mul_zero, Int.zero_add] at en ed
  have hl0 : 0 < l := pos_of_mul (by omega) up
  have hl1 : l = 1 := by
    have g1 : l ∣ n := ⟨h, by rw [en, Int.mul_comm]⟩
    have g2 : l ∣ d := ⟨u, by rw [ed, Int.mul_comm]⟩
    have := Int.dvd_coe_gcd g1 g2
    rw [hg] at this
    have := Int.le_of_dvd (by decide) this
    omega
  rw [hl1, Int.mul_one] at en ed
  exact ⟨en.symm, ed.symm⟩
theorem RInv.found {m a g x h u B n d : Int} (I : RInv m a g x h u) (hB : h ≤ B) (gB : B < g) (hm : 2 * (B * B) < m) (hn : -B ≤ n ∧ n ≤ B) (hd : 0 < d ∧ d ≤ B) (hg : n.gcd d = 1) (hi : Cg m (a * d) n) : (0 < u ∧ h = n ∧ u = d) ∨ (u < 0 ∧ -h = n ∧ -u = d) := by
  rcases I.sg with ⟨h1, h2, h3⟩ | ⟨h1, h2, h3⟩
  · exact .inl ⟨h1, ratio_pos I.low I.gx I.hu h1 h2 h3 hB gB hm hn hd hg hi⟩
  · have := ratio_pos (a := -a) (x := -x) (u := -u) (n := -n) I.low (by rw [Int.neg_mul_neg]; exact I.gx) (by rw [Int.neg_mul_neg]; exact I.hu) (by omega) (by omega) (by rw [Int.mul_neg, Int.mul_neg]; omega) hB gB hm (by omega) hd (by rw [Int.neg_gcd]; exact hg) (by rw [Int.neg_mul]; exact hi.neg)
    exact .inr ⟨h1, by omega, this.2⟩
def RatP (a m B n d : Int) : Prop := (-B ≤ n ∧ n ≤ B) ∧ (0 < d ∧ d ≤ B) ∧ n.gcd d = 1 ∧ d.gcd m = 1 ∧ Cg m (a * d) n
open Classical in
noncomputable def ratM (a m B : Int) : Int × Int × Bool := if h : ∃ z : Int × Int, RatP a m B z.1 z.2 then (h.choose.1, h.choose.2, true) else (0, 0, false)
theorem RInv.end_ {m a g x h u B n d : Int} (I : RInv m a g x h u) (hB : h ≤ B) (gB : B < g) (hm : 2 * (B * B) < m) (hr : RatP a m B n d) : (if u < 0 then -h else h) = n ∧ (if u < 0 then -u else u) = d := by
  rcases I.found hB gB hm hr.1 hr.2.1 hr.2.2.1 hr.2.2.2.2 with ⟨h1, h2, h3⟩ | ⟨h1, h2, h3⟩
  · rw [if_neg (by omega), if_neg (by omega)]; exact ⟨h2, h3⟩
  · rw [if_pos h1, if_pos h1]; exact ⟨h2, h3⟩
theorem RInv.yes {m a g x h u B s t : Int} (I : RInv m a g x h u) (hB : h ≤ B) (gB : B < g) (hm : 2 * (B * B) < m) (hs : (if u < 0 then -h else h) = s) (ht : (if u < 0 then -u else u) = t) (hr : RatP a m B s t) : ratM a m B = (s, t, true) := by
  have hx : ∃ z : Int × Int, RatP a m B z.1 z.2 := ⟨(s, t), hr⟩
  unfold ratM
  rw [dif_pos hx]
  have := I.end_ hB gB hm hx.choose_spec
  rw [hs, ht] at this
  rw [← this.1, ← this.2]
theorem RInv.no {m a g x h u B s t : Int} (I : RInv m a g x h u) (hB : h ≤ B) (gB : B < g) (hm : 2 * (B * B) < m) (hs : (if u < 0 then -h else h) = s) (ht : (if u < 0 then -u else u) = t) (hr : ¬ RatP a m B s t) : ratM a m B = (0, 0, false) := by
  unfold ratM
  rw [dif_neg]
  rintro ⟨z, hz⟩
  have := I.end_ hB gB hm hz
  rw [hs, ht] at this
  rw [← this.1, ← this.2] at hz
  exact hr hz
end Go.Proofs.YtcapddcmnjeloaaGreatDoor
end

section
/-
  Plain mathematics of chapter 10: what its functions answer. Nothing of a program is used.
-/
namespace Go.Proofs.YtcapddcmnjeloaaGreatDoor
def imA (n d m : Int) : Bool := isRat n d && decide (1 ≤ m ∧ m ≤ 400000000) && decide (d.gcd m = 1)
theorem imA_says {n d m : Int} (h : imA n d m = true) : IsRatP n d ∧ (1 ≤ m ∧ m ≤ 400000000) ∧ d.gcd m = 1 := by
  unfold imA isRat at h
  simp only [Bool.and_eq_true, decide_eq_true_eq] at h
  exact ⟨h.1.1, h.1.2, h.2⟩
theorem imA_true {n d m : Int} (h1 : isRat n d = true) (h2 : 1 ≤ m ∧ m ≤ 400000000) (h3 : d.gcd m = 1) : imA n d m = true := by
  unfold imA; rw [h1, decide_eq_true h2, decide_eq_true h3]; rfl
theorem imA_rat {n d m : Int} (h : isRat n d = false) : imA n d m = false := by unfold imA; rw [h]; rfl
theorem imA_mod {n d m : Int} (h : ¬ (1 ≤ m ∧ m ≤ 400000000)) : imA n d m = false := by unfold imA; rw [decide_eq_false h, Bool.and_false]; rfl
theorem imA_gcd {n d m : Int} (h : d.gcd m ≠ 1) : imA n d m = false := by unfold imA; rw [decide_eq_false h, Bool.and_false]
def imB (n d a m : Int) : Bool := imA n d m && decide (NumP a) && decide ((a * d - n) % m = 0)
theorem imB_iff {n d a m : Int} : imB n d a m = true ↔ imA n d m = true ∧ NumP a ∧ ImgP n d a m := by
  unfold imB
  simp only [Bool.and_eq_true, decide_eq_true_eq, and_assoc]
  refine and_congr_right fun h => and_congr_right fun _ => ?_
  unfold ImgP Cg
  exact ⟨fun h => Int.dvd_of_emod_eq_zero h, fun h => Int.emod_eq_zero_of_dvd h⟩
theorem imB_no {n d a m : Int} (h : imA n d m = false ∨ ¬ NumP a) : imB n d a m = false := by
  unfold imB
  rcases h with h | h
  · rw [h]; rfl
  · rw [decide_eq_false h, Bool.and_false]; rfl
theorem imB_eq {n d a m : Int} (h : imA n d m = true) (ha : NumP a) {b : Bool} (hb : b = decide ((a % m * (d % m) - n) % m = 0)) : imB n d a m = b := by
  have hm : 0 < m := by have := (imA_says h).2.1.1; omega
  cases hB : imB n d a m with
  | true => rw [hb, decide_eq_true ((img_iff hm).mpr (imB_iff.mp hB).2.2)]
  | false =>
    rw [hb, decide_eq_false]
    intro hz
    rw [imB_iff.mpr ⟨h, ha, (img_iff hm).mp hz⟩] at hB; cases hB
theorem imB_eq2 {n d a m : Int} (h : imA n d m = true) (ha : NumP a) {b : Bool} (hb : b = decide ((a * d - n) % m = 0)) : imB n d a m = b := by
  unfold imB; rw [h, decide_eq_true ha, hb]; rfl
def RtA (a m B : Int) : Prop := NumP a ∧ (1 ≤ m ∧ m ≤ 400000000) ∧ (1 ≤ B ∧ B ≤ 20000) ∧ 2 * B * B < m
instance (a m B : Int) : Decidable (RtA a m B) := by unfold RtA; exact inferInstance
theorem RtA.sq {a m B : Int} (h : RtA a m B) : 2 * (B * B) < m := by rw [← Int.mul_assoc]; exact h.2.2.2
noncomputable def rtX (a m B : Int) : Int × Int × Bool := if RtA a m B then ratM a m B else (0, 0, false)
theorem rtX_no {a m B : Int} (h : ¬ RtA a m B) : rtX a m B = (0, 0, false) := if_neg h
theorem RtA.start {a m B : Int} (h : RtA a m B) : RInv m a m 0 (a % m) 1 ∧ B < m := by
  refine ⟨RInv.start (by have := h.2.1.1; omega), ?_⟩
  have h1 := h.sq
  have h2 := Int.mul_le_mul_of_nonneg_right h.2.2.1.1 (show 0 ≤ B by have := h.2.2.1.1; omega)
  have := h.2.2.1.1
  omega
theorem RatP_iff {a m B n d : Int} (h : RtA a m B) (hn : -B ≤ n ∧ n ≤ B) : RatP a m B n d ↔ d ≤ B ∧ imB n d a m = true := by
  rw [imB_iff]
  have hB := h.2.2.1.2
  constructor
  · rintro ⟨-, h2, h3, h4, h5⟩
    exact ⟨h2.2, imA_true (decide_eq_true ⟨by omega, by omega, by omega, by omega, h3⟩) h.2.1 h4, h.1, h5⟩
  · rintro ⟨h1, h2, -, h4⟩
    obtain ⟨r1, -, r3⟩ := imA_says h2
    exact ⟨hn, ⟨by have := r1.1; omega, h1⟩, r1.2.2.2.2, r3, h4⟩
theorem RInv.ans {m a g x h u B s t : Int} (A : RtA a m B) (I : RInv m a g x h u) (hB : h ≤ B) (gB : B < g) (hs : (if u < 0 then -h else h) = s) (ht : (if u < 0 then -u else u) = t) : rtX a m B = if t ≤ B ∧ imB s t a m = true then (s, t, true) else (0, 0, false) := by
  have hl := I.low
  have hb : -B ≤ s ∧ s ≤ B := by rw [← hs]; split <;> omega
  unfold rtX
  rw [if_pos A]
  split
  · next h1 => exact I.yes hB gB A.sq hs ht ((RatP_iff A hb).mpr h1)
  · next h1 => exact I.no hB gB A.sq hs ht fun h2 => h1 ((RatP_iff A hb).mp h2)
theorem RInv.ans_yes {m a g x h u B s t : Int} (A : RtA a m B) (I : RInv m a g x h u) (hB : h ≤ B) (gB : B < g) (hs : (if u < 0 then -h else h) = s) (ht : (if u < 0 then -u else u) = t) (h1 : t ≤ B) (h2 : imB s t a m = true) : rtX a m B = (s, t, true) := by
  rw [I.ans A hB gB hs ht, if_pos ⟨h1, h2⟩]
theorem RInv.ans_no {m a g x h u B s t : Int} (A : RtA a m B) (I : RInv m a g x h u) (hB : h ≤ B) (gB : B < g) (hs : (if u < 0 then -h else h) = s) (ht : (if u < 0 then -u else u) = t) (h1 : B < t ∨ imB s t a m = false) : rtX a m B = (0, 0, false) := by
  rw [I.ans A hB gB hs ht, if_neg]
  rintro ⟨h2, h3⟩
  rcases h1 with h1 | h1
  · omega
  · rw [h1] at h3; cases h3
end Go.Proofs.YtcapddcmnjeloaaGreatDoor
end

section
/-
  Plain mathematics of chapter 8: what solutions over residues are, and what the composed laws of the chapter say of them. Nothing of a program is used.
-/
namespace Go.Proofs.YtcapddcmnjeloaaGreatDoor
def slF (p : Int) (u b : Nat → Int) : Nat → Int
  | 0 => 0
  | m + 1 => (slF p u b m + u m * (b m % p)) % p
theorem slF_can {p : Int} (hp : 0 < p) (u b : Nat → Int) : ∀ m, 0 ≤ slF p u b m ∧ slF p u b m < p
  | 0 => ⟨Int.le_refl _, hp⟩
  | m + 1 => ⟨Int.emod_nonneg _ (by omega), Int.emod_lt_of_pos _ hp⟩
theorem slF_cg {p : Int} (u b : Nat → Int) : ∀ m, Cg p (slF p u b m) (sumN m fun j => u j * b j)
  | 0 => Cg.refl _ _
  | m + 1 => (Cg.emod p _).trans ((slF_cg u b m).add ((Cg.refl p _).mul (Cg.emod p _)))
def solL (p : Int) (n : Nat) (vs bs : List Int) : List Int := (List.range n).map fun i => slF p (fun j => vs.getD (i * n + j) 0) (fun j => bs.getD j 0) n
theorem solL_length (p : Int) (n : Nat) (vs bs : List Int) : (solL p n vs bs).length = n := by unfold solL; rw [List.length_map, List.length_range]
theorem solL_at {p : Int} {n : Nat} {vs bs : List Int} {i : Nat} (hi : i < n) : (solL p n vs bs).getD i 0 = slF p (fun j => mxC n vs i j) (fun j => bs.getD j 0) n := by
  unfold solL mxC
  simp [List.getD, hi]
theorem solL_can {p : Int} (hp : 0 < p) {n : Nat} {vs bs : List Int} {i : Nat} (hi : i < n) : 0 ≤ (solL p n vs bs).getD i 0 ∧ (solL p n vs bs).getD i 0 < p := by
  rw [solL_at hi]
  exact slF_can hp _ _ _
end Go.Proofs.YtcapddcmnjeloaaGreatDoor
end

section
/-
  Chapter 1, in the model: GcdOf.
-/
namespace Go.Proofs.YtcapddcmnjeloaaGreatDoor
open Go.RowKit
end Go.Proofs.YtcapddcmnjeloaaGreatDoor
end

section
/-
  Chapter 1, in the program: greatestDivisor.
-/
namespace Go.Proofs.YtcapddcmnjeloaaGreatDoor
open Go.RowKit
set_option maxHeartbeats 400000 in
theorem iGD (a b : Int) (w : World) (ha : -9000000000000000000 ≤ a ∧ a ≤ 9000000000000000000) (hb : -9000000000000000000 ≤ b ∧ b ≤ 9000000000000000000) :
    Calls Tryz.prog 142 #[.int .i64 a, .int .i64 b] w fun e w' => e = .returned (.int .i64 (Int.gcd a b : Int)) ∧ ∃ n, w' = w.drewN n := by
  obtain ⟨ha1, ha2⟩ := ha
  obtain ⟨hb1, hb2⟩ := hb
  go_enter Tryz.func142, Tryz.ntmps142
  go_wp2_with fail
  go_loopw [0, 1] (fun x y wr => ∃ p q : Int, x = .int .i64 p ∧ y = .int .i64 q ∧ -9000000000000000000 ≤ p ∧ p ≤ 9000000000000000000 ∧ -9000000000000000000 ≤ q ∧ q ≤ 9000000000000000000 ∧ Int.gcd p q = Int.gcd a b ∧ ∃ n, wr = w.drewN n) (fun _ y _ => (intOf y).natAbs)
  case atStart => exact ⟨a, b, rfl, rfl, ha1, ha2, hb1, hb2, rfl, 0, rfl⟩
  case round =>
    obtain ⟨p, q, rfl, rfl, p1, p2, q1, q2, hg, n, rfl⟩ := hrel
    have HG := Lib.hid hg
    clear hg
    by_cases hq : q = 0
    · subst hq
      go_wp2
      all_goals
        go_ret
        exact ⟨by rw [← HG.out, Int.gcd_zero_right]; exact ret_int (by omega), n, rfl⟩
    · have t1 := tmod_small p q hq
      have t2 := gcd_round p q
      have b1 : -9000000000000000000 ≤ p.tmod q := by omega
      have b2 : p.tmod q ≤ 9000000000000000000 := by omega
      have T1 := Lib.hid t1
      have T2 := Lib.hid t2
      clear t1 t2
      have hq' : (q == 0) = false := by simpa using hq
      go_wp2
      go_quiet (fail)
      go_wp2
      go_roundw
      case rel => exact ⟨q, p.tmod q, rfl, rfl, q1, q2, b1, b2, T2.out.trans HG.out, _, by rw [World.drewN_drewN]⟩
      case measure => simpa [intOf] using T1.out
end Go.Proofs.YtcapddcmnjeloaaGreatDoor
end

section
/-
  Chapter 1, in the program: GcdOf.
-/
namespace Go.Proofs.YtcapddcmnjeloaaGreatDoor
open Go.RowKit
theorem iGcd (a b : Int) (w : World) (ha : -400000000 ≤ a ∧ a ≤ 400000000) (hb : -400000000 ≤ b ∧ b ≤ 400000000) :
    Calls Tryz.prog 153 #[.int .i64 a, .int .i64 b] w fun e w' => e = .returned (.int .i64 (Int.gcd a b : Int)) ∧ ∃ n, w' = w.drewN n := by
  go_enter Tryz.func153, Tryz.ntmps153
  go_wp2_with fail
  refine (iIsNum_t _ _ ha.1 ha.2).mono ?_
  rintro e w' ⟨rfl, rfl⟩
  go_wp2_with fail
  refine (iIsNum_t _ _ hb.1 hb.2).mono ?_
  rintro e w' ⟨rfl, rfl⟩
  go_wp2_with fail
  refine (iGD a b _ (by omega) (by omega)).mono ?_
  rintro e w' ⟨rfl, n, rfl⟩
  go_wp2_with fail
  go_ret
  exact ⟨rfl, n, rfl⟩
end Go.Proofs.YtcapddcmnjeloaaGreatDoor
end

section
/-
  The model's quotient rounded down.
-/
namespace Go.Proofs.YtcapddcmnjeloaaGreatDoor
open Go.RowKit
end Go.Proofs.YtcapddcmnjeloaaGreatDoor
end

section
/-
  Chapter 1: Euclid's algorithm with coefficients, in the model and in the program.
-/
namespace Go.Proofs.YtcapddcmnjeloaaGreatDoor
open Go.RowKit
def egOut (r : Int × Int × Int) : Int × Int × Int := if r.1 < 0 then (-r.1, -r.2.1, -r.2.2) else r
def egAns (a b : Int) : Int × Int × Int := egOut (eg a 1 0 b 0 1)
def egVal (r : Int × Int × Int) : Value := .tuple #[.int .i64 r.1, .int .i64 r.2.1, .int .i64 r.2.2, .bool true]
theorem eg_neg {a b g x y : Int} (h : eg a 1 0 b 0 1 = (g, x, y)) (hg : g < 0) : egVal (egAns a b) = .tuple #[.int .i64 (-g), .int .i64 (-x), .int .i64 (-y), .bool true] := by
  unfold egAns; rw [h]; simp [egOut, hg, egVal]
theorem eg_pos {a b g x y : Int} (h : eg a 1 0 b 0 1 = (g, x, y)) (hg : ¬ g < 0) : egVal (egAns a b) = .tuple #[.int .i64 g, .int .i64 x, .int .i64 y, .bool true] := by
  unfold egAns; rw [h]; simp [egOut, hg, egVal]
set_option maxHeartbeats 400000 in
theorem sExt (a b : Int) (w : World) (ha : -400000000 ≤ a ∧ a ≤ 400000000) (hb : -400000000 ≤ b ∧ b ≤ 400000000) :
    Calls Tryz.prog 183 #[.int .i64 a, .int .i64 b] w fun e w' => e = .returned (egVal (egAns a b)) ∧ ∃ n, w' = w.drewN n := by
  have i0 := Inv.start a b ha hb
  have A := Lib.hid ha
  have B := Lib.hid hb
  have I0 := Lib.hid i0
  clear i0
  obtain ⟨ha1, ha2⟩ := ha
  obtain ⟨hb1, hb2⟩ := hb
  go_enter Tryz.func183, Tryz.ntmps183
  go_wp2_with (go_at_call 56; refine (sIsNum_t _ _ (by omega) (by omega)).mono ?_; rintro e w' ⟨rfl, rfl⟩)
  go_loopw [8, 9, 10, 11, 12, 13] (fun sg sx sy sh su sv wr => ∃ g x y h u v : Int, sg = .int .i64 g ∧ sx = .int .i64 x ∧ sy = .int .i64 y ∧ sh = .int .i64 h ∧ su = .int .i64 u ∧ sv = .int .i64 v ∧ Inv a b g x y h u v ∧ eg g x y h u v = eg a 1 0 b 0 1 ∧ ∃ n, wr = w.drewN n) (fun _ _ _ sh _ _ _ => (intOf sh).natAbs)
  case atStart => exact ⟨a, 1, 0, b, 0, 1, rfl, rfl, rfl, rfl, rfl, rfl, I0.out, rfl, 0, rfl⟩
  case round =>
    obtain ⟨g, x, y, h, u, v, rfl, rfl, rfl, rfl, rfl, rfl, i, hE, n, rfl⟩ := hrel
    have HE := Lib.hid hE
    have I := Lib.hid i
    clear hE
    have ⟨g1, g2⟩ := i.g0
    have ⟨h1, h2⟩ := i.h0
    have ⟨x1, x2⟩ := i.x0
    have ⟨y1, y2⟩ := i.y0
    have ⟨u1, u2⟩ := i.u0
    have ⟨v1, v2⟩ := i.v0
    clear i
    by_cases hh : h = 0
    · subst hh
      have HE2 : Hid (eg a 1 0 b 0 1 = (g, x, y)) := by rw [← HE.out, eg_end]; exact rfl
      by_cases hg : g < 0
      · go_wp2
        refine bodyPost_ret (retFour rfl _ _ _) rfl ?_
        exact ⟨by rw [eg_neg HE2.out hg]; rfl, n, rfl⟩
      · go_wp2
        refine bodyPost_ret (retFour rfl _ _ _) rfl ?_
        exact ⟨by rw [eg_pos HE2.out (by omega)]; rfl, n, rfl⟩
    · have hh' : (h == 0) = false := by simpa using hh
      obtain ⟨⟨m1, m2⟩, ⟨m3, m4⟩, ⟨m5, m6⟩, m7, m8⟩ := I.out.fits A.out B.out hh
      have J := Lib.hid (I.out.step A.out B.out hh)
      have E := Lib.hid (eg_step g x y h u v hh)
      have L := Lib.hid (rem_lt g h hh)
      go_wp2
      go_roundw
      case rel => exact ⟨h, u, v, _, _, _, rfl, rfl, rfl, rfl, rfl, rfl, J.out, E.out.symm.trans HE.out, n, rfl⟩
      case measure => simpa [intOf] using L.out
set_option maxHeartbeats 400000 in
theorem lessT (g x y h u v q : Int) (w : World) (g1 : -1000000000 ≤ g) (g2 : g ≤ 1000000000) (x1 : -1000000000 ≤ x) (x2 : x ≤ 1000000000) (y1 : -1000000000 ≤ y) (y2 : y ≤ 1000000000)
    (h1 : -1000000000 ≤ q * h) (h2 : q * h ≤ 1000000000) (u1 : -1000000000 ≤ q * u) (u2 : q * u ≤ 1000000000) (v1 : -1000000000 ≤ q * v) (v2 : q * v ≤ 1000000000) :
    Calls Tryz.prog 166 #[.agg #[.int .i64 g, .int .i64 x, .int .i64 y], .agg #[.int .i64 h, .int .i64 u, .int .i64 v], .int .i64 q] w fun e w' =>
      e = .returned (.agg #[.int .i64 (g - q * h), .int .i64 (x - q * u), .int .i64 (y - q * v)]) ∧ Below w.heap.size w w' := by
  go_enter Tryz.func166, Tryz.ntmps166
  go_wp2
  refine bodyPost_ret (v := .agg #[.int .i64 (g - q * h), .int .i64 (x - q * u), .int .i64 (y - q * v)]) (by simp [results, Tryz.results166, go_sem]) rfl ⟨rfl, ?_⟩
  exact (((Below.refl _ _).alloc (Nat.le_refl _) _).alloc (by simp) _).alloc (by simp; omega) _
set_option maxHeartbeats 4000000 in
theorem iExt (a b : Int) (w : World) (ha : -400000000 ≤ a ∧ a ≤ 400000000) (hb : -400000000 ≤ b ∧ b ≤ 400000000) :
    Calls Tryz.prog 180 #[.int .i64 a, .int .i64 b] w fun e w' => e = .returned (egVal (egAns a b)) ∧ Below w.heap.size w w' := by
  have i0 := Inv.start a b ha hb
  have A := Lib.hid ha
  have B := Lib.hid hb
  have I0 := Lib.hid i0
  clear i0
  obtain ⟨ha1, ha2⟩ := ha
  obtain ⟨hb1, hb2⟩ := hb
  go_enter Tryz.func180, Tryz.ntmps180
  go_wp2_with (go_at_call 90; refine (iIsNum_t _ _ (by omega) (by omega)).mono ?_; rintro e w' ⟨rfl, rfl⟩)
  go_loopg [] b.natAbs (fun k wr => ∃ g x y h u v : Int, k = h.natAbs ∧ Inv a b g x y h u v ∧ eg g x y h u v = eg a 1 0 b 0 1 ∧ Below w.heap.size w wr ∧
      Blk3 wr w.heap.size 182 (.int .i64 g) (.int .i64 x) (.int .i64 y) ∧ Blk3 wr (w.heap.size + 1) 182 (.int .i64 h) (.int .i64 u) (.int .i64 v))
  case atStart =>
    refine ⟨a, 1, 0, b, 0, 1, rfl, I0.out, rfl, ?_, (Blk3.new _ _ _ _ _).old _, ?_⟩
    · exact ((Below.refl _ _).alloc (Nat.le_refl _) _).alloc (by simp) _
    · have := Blk3.new (w.alloc (.cells #[.int .i64 a, .int .i64 1, .int .i64 0] 182)) 182 (.int .i64 b) (.int .i64 0) (.int .i64 1)
      simpa using this
  case round =>
    obtain ⟨g, x, y, h, u, v, hk, i, hE, hbel, k1, k2⟩ := hrel
    have HK := Lib.hid hk
    have HE := Lib.hid hE
    have I := Lib.hid i
    have K1 := Lib.hid k1
    have K2 := Lib.hid k2
    have BEL := Lib.hid hbel
    have c0 := k1.cell0
    have c1 := k1.cell1
    have c2 := k1.cell2
    have d0 := k2.cell0
    have d1 := k2.cell1
    have d2 := k2.cell2
    have f0 := k1.free 0
    have f1 := k1.free 1
    have f2 := k1.free 2
    have e0 := k2.free 0
    have e1 := k2.free 1
    have e2 := k2.free 2
    have hz := k2.lt
    have hz1 := k1.lt
    clear hE k1 k2 hbel hk
    have ⟨g1, g2⟩ := i.g0
    have ⟨h1, h2⟩ := i.h0
    have ⟨x1, x2⟩ := i.x0
    have ⟨y1, y2⟩ := i.y0
    have ⟨u1, u2⟩ := i.u0
    have ⟨v1, v2⟩ := i.v0
    clear i
    by_cases hh : h = 0
    · subst hh
      have HE2 : Hid (eg a 1 0 b 0 1 = (g, x, y)) := by rw [← HE.out, eg_end]; exact rfl
      by_cases hg : g < 0
      · go_wp2_with fail
        refine (lessT 0 0 0 g x y 1 _ (by omega) (by omega) (by omega) (by omega) (by omega) (by omega) (by omega) (by omega) (by omega) (by omega) (by omega) (by omega)).mono ?_
        rintro e w1 ⟨rfl, hb1⟩
        obtain ⟨C0, C1, C2, F0, F1, F2⟩ := (K1.out.keep hb1 hz1).all
        clear c0 c1 c2 d0 d1 d2 f0 f1 f2 e0 e1 e2
        go_wp2_with fail
        go_quiet (fail)
        go_wp2_with fail
        refine bodyPost_ret (retFour rfl _ _ _) rfl ?_
        exact ⟨by rw [eg_neg HE2.out hg]; rfl, below_drewN ((((BEL.out.trans (hb1.mono (by omega))).setCell (Nat.le_refl _) _).setCell (Nat.le_refl _) _).setCell (Nat.le_refl _) _) _⟩
      · go_wp2_with fail
        go_quiet (fail)
        go_wp2_with fail
        refine bodyPost_ret (retFour rfl _ _ _) rfl ?_
        exact ⟨by rw [eg_pos HE2.out (by omega)]; rfl, below_drewN BEL.out _⟩
    · have hh' : (h == 0) = false := by simpa using hh
      obtain ⟨⟨m1, m2⟩, ⟨m3, m4⟩, ⟨m5, m6⟩, m7, m8⟩ := I.out.fits A.out B.out hh
      have J := Lib.hid (I.out.step A.out B.out hh)
      have E := Lib.hid (eg_step g x y h u v hh)
      have L := Lib.hid (rem_lt g h hh)
      go_wp2_with fail
      go_region_with (go_at_call 166; refine (lessT _ _ _ _ _ _ _ _ (by omega) (by omega) (by omega) (by omega) (by omega) (by omega) (by omega) (by omega) (by omega) (by omega) (by omega) (by omega)).mono ?_; rintro e w1 ⟨rfl, hb1⟩; obtain ⟨C0, C1, C2, F0, F1, F2⟩ := ((K1.out.drewN _).keep hb1 hz1).all; obtain ⟨D0, D1, D2, G0, G1, G2⟩ := ((K2.out.drewN _).keep hb1 hz).all)
      all_goals
        go_wp2_with fail
        go_roundg (g - g.tdiv h * h).natAbs
        case measure => rw [HK.out]; exact L.out
        case rel =>
          refine ⟨h, u, v, _, _, _, rfl, J.out, E.out.symm.trans HE.out, ?_, ?_, ?_⟩
          · exact (((((((below_drewN BEL.out _).trans (hb1.mono (Nat.le_of_lt hz1))).setCell (Nat.le_refl _) _).setCell (Nat.le_refl _) _).setCell (Nat.le_refl _) _).setCell (Nat.le_succ _) _).setCell (Nat.le_succ _) _).setCell (Nat.le_succ _) _
          · exact (((((((K1.out.drewN _).keep hb1 hz1).set0 _).set1 _).set2 _).far (by simp) _).far (by simp) _).far (by simp) _
          · exact (((((((K2.out.drewN _).keep hb1 hz).far (by simp) _).far (by simp) _).far (by simp) _).set0 _).set1 _).set2 _
theorem sExt_f (a b : Int) (w : World) (h : ¬ ((-400000000 ≤ a ∧ a ≤ 400000000) ∧ (-400000000 ≤ b ∧ b ≤ 400000000))) :
    Calls Tryz.prog 183 #[.int .i64 a, .int .i64 b] w fun e w' => e = .returned (.tuple #[.int .i64 0, .int .i64 0, .int .i64 0, .bool false]) ∧ w = w' := by
  by_cases ha : -400000000 ≤ a ∧ a ≤ 400000000
  · have hb : b < -400000000 ∨ 400000000 < b := by omega
    clear h
    go_enter Tryz.func183, Tryz.ntmps183
    go_wp2_with fail
    refine (sIsNum_t _ _ ha.1 ha.2).mono ?_
    rintro e w' ⟨rfl, rfl⟩
    go_wp2_with fail
    refine (sIsNum_f _ _ hb).mono ?_
    rintro e w' ⟨rfl, rfl⟩
    go_wp2_with fail
    refine bodyPost_ret (retFour rfl _ _ _) rfl ?_
    exact ⟨rfl, rfl⟩
  · have ha' : a < -400000000 ∨ 400000000 < a := by omega
    clear h ha
    go_enter Tryz.func183, Tryz.ntmps183
    go_wp2_with fail
    refine (sIsNum_f _ _ ha').mono ?_
    rintro e w' ⟨rfl, rfl⟩
    go_wp2_with fail
    refine bodyPost_ret (retFour rfl _ _ _) rfl ?_
    exact ⟨rfl, rfl⟩
theorem iExt_f (a b : Int) (w : World) (h : ¬ ((-400000000 ≤ a ∧ a ≤ 400000000) ∧ (-400000000 ≤ b ∧ b ≤ 400000000))) :
    Calls Tryz.prog 180 #[.int .i64 a, .int .i64 b] w fun e w' => e = .returned (.tuple #[.int .i64 0, .int .i64 0, .int .i64 0, .bool false]) ∧ w = w' := by
  by_cases ha : -400000000 ≤ a ∧ a ≤ 400000000
  · have hb : b < -400000000 ∨ 400000000 < b := by omega
    clear h
    go_enter Tryz.func180, Tryz.ntmps180
    go_wp2_with fail
    refine (iIsNum_t _ _ ha.1 ha.2).mono ?_
    rintro e w' ⟨rfl, rfl⟩
    go_wp2_with fail
    refine (iIsNum_f _ _ hb).mono ?_
    rintro e w' ⟨rfl, rfl⟩
    go_wp2_with fail
    refine bodyPost_ret (retFour rfl _ _ _) rfl ?_
    exact ⟨rfl, rfl⟩
  · have ha' : a < -400000000 ∨ 400000000 < a := by omega
    clear h ha
    go_enter Tryz.func180, Tryz.ntmps180
    go_wp2_with fail
    refine (iIsNum_f _ _ ha').mono ?_
    rintro e w' ⟨rfl, rfl⟩
    go_wp2_with fail
    refine bodyPost_ret (retFour rfl _ _ _) rfl ?_
    exact ⟨rfl, rfl⟩
theorem eg_last (n : Nat) : ∀ a b g x y h u v : Int, h.natAbs = n → -400000000 ≤ a ∧ a ≤ 400000000 → -400000000 ≤ b ∧ b ≤ 400000000 → Inv a b g x y h u v →
    ∃ g' x' y' u' v' : Int, eg g x y h u v = (g', x', y') ∧ Inv a b g' x' y' 0 u' v' := by
  induction n using Nat.strongRecOn with
  | ind n ih =>
    intro a b g x y h u v hn ha hb i
    by_cases hh : h = 0
    · subst hh
      exact ⟨g, x, y, u, v, eg_end _ _ _ _ _, i⟩
    · have l := rem_lt g h hh
      rw [eg_step g x y h u v hh]
      exact ih _ (by omega) a b _ _ _ _ _ _ rfl ha hb (i.step ha hb hh)
theorem egAns_is (a b : Int) (ha : -400000000 ≤ a ∧ a ≤ 400000000) (hb : -400000000 ≤ b ∧ b ≤ 400000000) :
    ∃ x y : Int, egAns a b = ((Int.gcd a b : Int), x, y) ∧ a * x + b * y = (Int.gcd a b : Int) ∧ -400000000 ≤ x ∧ x ≤ 400000000 ∧ -400000000 ≤ y ∧ y ≤ 400000000 := by
  obtain ⟨g, x, y, u, v, he, i⟩ := eg_last _ a b a 1 0 b 0 1 rfl ha hb (Inv.start a b ha hb)
  have l := i.last
  have gc := i.gc
  have x0 := i.x0
  have y0 := i.y0
  unfold egAns egOut
  rw [he]
  by_cases hg : g < 0
  · refine ⟨-x, -y, ?_, ?_, by omega, by omega, by omega, by omega⟩
    · simp only [hg, if_true]
      rw [show -g = (Int.gcd a b : Int) from by omega]
    · rw [Int.mul_neg, Int.mul_neg]; omega
  · refine ⟨x, y, ?_, by omega, by omega, by omega, by omega, by omega⟩
    simp only [hg, if_false]
    rw [show g = (Int.gcd a b : Int) from by omega]
end Go.Proofs.YtcapddcmnjeloaaGreatDoor
end

section
/-
  Chapter 8, in the model: residues from 0 on, IsPrime, InverseModulo.
-/
namespace Go.Proofs.YtcapddcmnjeloaaGreatDoor
set_option maxRecDepth 100000
open Go.RowKit
theorem ivM_no1 {p a : Int} (h : prmB p = false) : ivM p a = (0, false) := by unfold ivM; rw [h]; rfl
theorem ivM_no2 {p a : Int} (h : ¬ NumP a) : ivM p a = (0, false) := by unfold ivM; rw [decide_eq_false h, Bool.and_false, Bool.false_and]; rfl
theorem ivM_no3 {p a : Int} (h : a % p = 0) : ivM p a = (0, false) := by unfold ivM; rw [decide_eq_false (by omega : ¬ a % p ≠ 0), Bool.and_false]; rfl
theorem ivM_yes {p a y : Int} (h1 : prmB p = true) (h2 : NumP a) (h : a % p = y) (h3 : y ≠ 0) : ivM p a = (invF p y, true) := by
  unfold ivM
  rw [h1, decide_eq_true h2, h, decide_eq_true h3]; rfl
end Go.Proofs.YtcapddcmnjeloaaGreatDoor
end

section
/-
  Chapter 3, in the program: slices.Clone over slices of ints.
-/
namespace Go.Proofs.YtcapddcmnjeloaaGreatDoor
open Go.RowKit
def Copy (zs : List Int) (w : World) (e : Ending) (w' : World) : Prop := ∃ v, e = .returned v ∧ Own w.heap.size w' v zs ∧ Below w.heap.size w w'
theorem iClone (a : Option Addr) (cap : Nat) (zs : List Int) (w : World) (h : Rd w a zs) (hn : zs.length ≤ 16777216) :
    Calls Tryz.prog 162 #[.slice a zs.length cap] w (Copy zs w) := by
  rcases Nat.eq_zero_or_pos zs.length with e | hz
  · obtain rfl : zs = [] := List.eq_nil_of_length_eq_zero e
    cases a with
    | none => exact (Tryz.slices_Clone_int_nil 0 cap w).mono fun e w' ⟨h1, h2⟩ => ⟨_, h1, .inl ⟨rfl, rfl⟩, by rw [h2]; exact Below.refl _ _⟩
    | some x => exact (Tryz.slices_Clone_int_zero x cap w).mono fun e w' ⟨v, h1, h2, _, h3⟩ => ⟨v, h1, Own.of_row h2 (by simp), h3⟩
  · obtain ⟨b, o, rfl⟩ := h.addr hz
    refine (Tryz.slices_Clone_int b o zs.length cap zs w (Nat.le_refl _) (by omega) h.cells).mono fun e w' ⟨v, h1, h2, _, h3⟩ => ⟨v, h1, Own.of_row ?_ hn, h3⟩
    rw [List.take_length] at h2
    exact h2
def mixL (xs : List Int) (k : Nat) (f : Nat → Int) : List Int := (List.range xs.length).map fun i => if i < k then f i else xs.getD i 0
theorem mixL_length (xs : List Int) (k : Nat) (f : Nat → Int) : (mixL xs k f).length = xs.length := by simp [mixL]
theorem mixL_zero (xs : List Int) (f : Nat → Int) : mixL xs 0 f = xs := by
  apply List.ext_getElem (by simp [mixL])
  intro i h1 h2
  simp [mixL, List.getD, h2]
theorem mixL_all (xs : List Int) (f : Nat → Int) : mixL xs xs.length f = (List.range xs.length).map f := by
  apply List.ext_getElem (by simp [mixL])
  intro i h1 h2
  have : i < xs.length := by simpa [mixL] using h1
  simp [mixL, this]
theorem mixL_at (xs : List Int) (k : Nat) (f : Nat → Int) : (mixL xs k f).getD k 0 = xs.getD k 0 := by
  unfold mixL List.getD
  rcases Nat.lt_or_ge k xs.length with h | h
  · simp [h]
  · simp [h]
theorem mixL_step (xs : List Int) (k : Nat) (f : Nat → Int) : (mixL xs k f).set k (f k) = mixL xs (k + 1) f := by
  apply List.ext_getElem (by simp [mixL])
  intro i h1 h2
  have hi : i < xs.length := by simpa [mixL] using h2
  rw [List.getElem_set]
  by_cases e : k = i
  · subst e; simp [mixL]
  · simp only [e, if_false]
    simp only [mixL, List.getElem_map, List.getElem_range]
    by_cases h3 : i < k
    · rw [if_pos h3, if_pos (by omega)]
    · rw [if_neg h3, if_neg (by omega)]
theorem Own.cases {B : Nat} {w : World} {v : Value} {zs : List Int} (h : Own B w v zs) : (v = .slice none 0 0 ∧ zs = []) ∨ ∃ (g cap : Nat), v = .slice (some ⟨g, 0, none⟩) zs.length cap ∧ B ≤ g ∧ Ints w g zs ∧ zs.length ≤ cap := by
  rcases h with h | ⟨g, cap, hv, hB, hi, hl, _⟩
  · exact .inl h
  · exact .inr ⟨g, cap, hv, hB, hi, hl⟩
def CopyN (n : Nat) (zs : List Int) (w : World) (e : Ending) (w' : World) : Prop := ∃ q qc, e = .returned (.slice q n qc) ∧ Own w.heap.size w' (.slice q n qc) zs ∧ Below w.heap.size w w'
theorem iCloneN (a : Option Addr) (cap n : Nat) (zs : List Int) (hz : zs.length = n) (w : World) (h : Rd w a zs) (hn : n ≤ 16777216) :
    Calls Tryz.prog 162 #[.slice a n cap] w (CopyN n zs w) := by
  subst hz
  refine (iClone a cap zs w h hn).mono ?_
  rintro e w' ⟨v, rfl, own, hb⟩
  obtain ⟨q, qc, rfl, -, -⟩ := own.form
  exact ⟨q, qc, rfl, own, hb⟩
theorem seven {W w' : World} {b : Nat} {t : TypeId} {p q r : Value} (h0 : Blk3 W b t p q r) (hb : Below W.heap.size W w') :
    w'.cell? ⟨b, 0, none⟩ = some p ∧ w'.cell? ⟨b, 1, none⟩ = some q ∧ w'.cell? ⟨b, 2, none⟩ = some r :=
  ⟨(h0.keep hb h0.lt).cell0, (h0.keep hb h0.lt).cell1, (h0.keep hb h0.lt).cell2⟩
end Go.Proofs.YtcapddcmnjeloaaGreatDoor
end

section
/-
  Chapter 8, in the model: ReduceMod.
-/
namespace Go.Proofs.YtcapddcmnjeloaaGreatDoor
set_option maxRecDepth 100000
open Go.RowKit
theorem resL_mix {p : Int} {xs : List Int} : mixL xs xs.length (fun i => xs.getD i 0 % p) = resL p xs := by
  rw [mixL_all]
  unfold resL
  apply List.ext_getElem (by simp)
  intro i h1 h2
  have : i < xs.length := by simpa using h2
  simp [List.getD, this]
end Go.Proofs.YtcapddcmnjeloaaGreatDoor
end

section
/-
  Chapter 7, in the model: a row made primitive.
-/
namespace Go.Proofs.YtcapddcmnjeloaaGreatDoor
set_option maxRecDepth 100000
open Go.RowKit
end Go.Proofs.YtcapddcmnjeloaaGreatDoor
end

section
/-
  A row of ints of a call's own, that append may go on with.
-/
namespace Go.Proofs.YtcapddcmnjeloaaGreatDoor
open Go.RowKit
def OwnQ (B : Nat) (w : World) (v : Value) (zs : List Int) : Prop := w.ownsRow B 3 1 v zs.length (zs.map (Value.int .i64))
theorem OwnQ.le {B : Nat} {w : World} {v : Value} {zs : List Int} (h : OwnQ B w v zs) {k : Nat} (hk : v.ownBlock = some k) : B ≤ k := by
  rcases h.2 with ⟨rfl, -⟩ | ⟨g, cap, cur, rfl, hB, -⟩
  · cases hk
  · simp [Value.ownBlock] at hk; omega
theorem OwnQ.move {B : Nat} {w w' : World} {v : Value} {zs : List Int} (h : OwnQ B w v zs) (hb : ∀ k, v.ownBlock = some k → w'.heap[k]? = w.heap[k]?) : OwnQ B w' v zs := by
  obtain ⟨h1, ⟨h2, h3⟩ | ⟨g, cap, cur, rfl, hB, hg, rest⟩⟩ := h
  · exact ⟨h1, .inl ⟨h2, h3⟩⟩
  · exact ⟨h1, .inr ⟨g, cap, cur, rfl, hB, (hb g rfl).trans hg, rest⟩⟩
theorem OwnQ.lt {B : Nat} {w : World} {v : Value} {zs : List Int} (h : OwnQ B w v zs) {k : Nat} (hk : v.ownBlock = some k) : k < w.heap.size := by
  rcases h.2 with ⟨rfl, -⟩ | ⟨g, cap, cur, rfl, hB, hg, -⟩
  · cases hk
  · simp only [Value.ownBlock, Option.some.injEq] at hk
    subst hk
    exact lt_of_block hg
theorem OwnQ.keep {B : Nat} {w w' : World} {v : Value} {zs : List Int} (h : OwnQ B w v zs) (hb : Below w.heap.size w w') : OwnQ B w' v zs := h.move fun k hk => hb.block k (h.lt hk)
theorem OwnQ.form {B : Nat} {w : World} {v : Value} {zs : List Int} (h : OwnQ B w v zs) : ∃ a c, v = .slice a zs.length c := by
  obtain ⟨h1, ⟨h2, h3⟩ | ⟨g, cap, cur, e, hB, hg, rest⟩⟩ := h
  · exact ⟨_, _, by rw [h2, h3]⟩
  · exact ⟨_, _, e⟩
theorem OwnQ.own {B : Nat} {w : World} {v : Value} {zs : List Int} (h : OwnQ B w v zs) (hn : zs.length ≤ 16777216) : Own B w v zs := Own.of_row h hn
theorem OwnQ.none_ {B : Nat} {w : World} {g : Nat} (hB : B ≤ g) (h : IntsC w g 0 []) : OwnQ B w (.slice (some ⟨g, 0, none⟩) 0 0) [] := h.row hB
end Go.Proofs.YtcapddcmnjeloaaGreatDoor
end

section
/-
  Chapter 7, in the model: the elimination.
-/
namespace Go.Proofs.YtcapddcmnjeloaaGreatDoor
set_option maxRecDepth 100000
open Go.RowKit
end Go.Proofs.YtcapddcmnjeloaaGreatDoor
end

section
/-
  Chapter 8, in the model: the elimination over residues.
-/
namespace Go.Proofs.YtcapddcmnjeloaaGreatDoor
set_option maxRecDepth 100000
open Go.RowKit
theorem ivM_can {p x : Int} (h : prmB p = true) (h0 : 0 ≤ x) (h1 : x < p) (hx : x ≠ 0) : ivM p x = (invF p x, true) := by
  obtain ⟨hp, hp2⟩ := prmB_says h
  have e : x % p = x := Int.emod_eq_of_lt h0 h1
  exact ivM_yes h (by unfold NumP; omega) e hx
theorem mul_bd {a b p : Int} (ha : 0 ≤ a) (ha2 : a < p) (hb : 0 ≤ b) (hb2 : b < p) (hp : p ≤ 10000) : 0 ≤ a * b ∧ a * b ≤ 100000000 := by
  refine ⟨Int.mul_nonneg ha hb, ?_⟩
  have : a * b ≤ 10000 * 10000 := Int.mul_le_mul (by omega) (by omega) hb (by omega)
  omega
end Go.Proofs.YtcapddcmnjeloaaGreatDoor
end
