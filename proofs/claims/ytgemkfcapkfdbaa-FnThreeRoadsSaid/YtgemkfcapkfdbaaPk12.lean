/-
  Texts of this seat, joined: PrI · ImgP · Blk1 · RgY · PrI2 · RgX · PrI3 · ImgR · PrI4 · RgT · RgR · RwI · EchB
-/
import Derived.RangeFuncNested
import Derived.RangeFuncBound
import Derived.RangeFuncCalls
import Derived.RangeFuncLeaves
import Derived.Shelf.Abstract
import Derived.WalkKit
import Derived.OwnWalkIn
import Derived.TacticsInMore
import Derived.LoopNIn
import Derived.LoopIn
import Derived.Test.YtgemkfcapkfdbaaProg
import Derived.Maps.AppendAt
import Derived.Maps.OwnIn
import Derived.OrdersHeld
import Derived.RegionTactic
import Derived.Deep.RegionHeld
import Derived.OrdersIn
import Derived.Deep.DeepCutAuto
import Derived.IntWalk
import Derived.Test.YtgemkfcapkfdbaaPk1
import Derived.Test.YtgemkfcapkfdbaaPk2
import Derived.Test.YtgemkfcapkfdbaaPk3
import Derived.Test.YtgemkfcapkfdbaaPk4
import Derived.Test.YtgemkfcapkfdbaaPk6
import Derived.Test.YtgemkfcapkfdbaaPk9
import Derived.Test.YtgemkfcapkfdbaaPk10

section
/-
  Chapter 8, in the program: the iterator over primes; IsPrime.
-/
namespace Go.Proofs.Ytgemkfcapkfdbaa
set_option maxRecDepth 100000
open Go.RowKit Go.Shelf

/-- The primes below n, in order. -/
def prmTo (n : Nat) : List Int := ((List.range n).filter fun (q : Nat) => prmB (q : Int)).map fun (q : Nat) => (q : Int)
theorem prmTo_succ (n : Nat) : prmTo (n + 1) = if prmB (n : Int) = true then prmTo n ++ [(n : Int)] else prmTo n := by
  unfold prmTo
  rw [List.range_succ, List.filter_append, List.map_append]
  by_cases h : prmB (n : Int) = true
  · rw [if_pos h]; simp [h]
  · rw [if_neg h]; simp [h]
theorem prmTo_mem {n : Nat} {x : Int} : x ∈ prmTo n ↔ ∃ q : Nat, x = q ∧ q < n ∧ prmB (q : Int) = true := by
  unfold prmTo
  simp only [List.mem_map, List.mem_filter, List.mem_range]
  exact ⟨fun ⟨q, ⟨h1, h2⟩, e⟩ => ⟨q, e.symm, h1, h2⟩, fun ⟨q, e, h1, h2⟩ => ⟨q, ⟨h1, h2⟩, e.symm⟩⟩
theorem prmTo_two : prmTo 2 = [] := by decide
theorem prmTo_length (n : Nat) : (prmTo n).length ≤ n := by
  unfold prmTo
  rw [List.length_map]
  exact Nat.le_trans (List.length_filter_le _ _) (by simp)
/-- The least divisor of a number is prime. -/
theorem least_div : ∀ n d : Nat, 2 ≤ d → d ∣ n → 0 < n → ∃ q : Nat, 2 ≤ q ∧ q ≤ d ∧ q ∣ n ∧ ∀ e : Nat, 2 ≤ e → e < q → ¬ e ∣ n := by
  intro n d
  induction d using Nat.strongRecOn with
  | ind d ih =>
    intro hd hdv hn
    by_cases h : ∃ e, 2 ≤ e ∧ e < d ∧ e ∣ n
    · obtain ⟨e, e1, e2, e3⟩ := h
      obtain ⟨q, q1, q2, q3⟩ := ih e e2 e1 e3 hn
      exact ⟨q, q1, by omega, q3⟩
    · exact ⟨d, hd, Nat.le_refl _, hdv, fun e e1 e2 e3 => h ⟨e, e1, e2, e3⟩⟩
theorem prm_of_least {n q : Nat} (h1 : 2 ≤ q) (h2 : q ≤ 10000) (h3 : q ∣ n) (h4 : ∀ e : Nat, 2 ≤ e → e < q → ¬ e ∣ n) : prmB (q : Int) = true := by
  refine prmB_true ⟨by omega, by omega⟩ fun d hd hdd hdv => ?_
  have e1 : d ∣ q := Int.natCast_dvd_natCast.mp hdv
  have e2 : d * d ≤ q := by rw [← Int.natCast_mul] at hdd; omega
  have e3 : d < q := by
    have : 2 * d ≤ d * d := Nat.mul_le_mul_right d hd
    omega
  exact h4 d hd e3 (Nat.dvd_trans e1 h3)
/-- A number is prime exactly if no prime below it divides it. -/
theorem prm_iff {n : Nat} (h1 : 2 ≤ n) (h2 : n ≤ 10000) : prmB (n : Int) = true ↔ ∀ x ∈ prmTo n, (n : Int) % x ≠ 0 := by
  constructor
  · intro hp x hx he
    obtain ⟨q, rfl, hq, hqp⟩ := prmTo_mem.mp hx
    have hq2 := (prmB_says hqp).1.1
    have hdv : q ∣ n := Int.natCast_dvd_natCast.mp (Int.dvd_of_emod_eq_zero he)
    obtain ⟨m, hm⟩ := hdv
    obtain ⟨pp, -⟩ := prmB_says hp
    have hm2 : 2 ≤ m := by
      rcases Nat.lt_or_ge m 2 with h | h
      · have : m = 0 ∨ m = 1 := by omega
        rcases this with rfl | rfl
        · omega
        · omega
      · exact h
    rcases Nat.le_total q m with h | h
    · refine pp.2 q (by omega) ?_ ⟨m, by rw [hm, Int.natCast_mul]⟩
      rw [hm, ← Int.natCast_mul]
      exact Int.ofNat_le.mpr (Nat.mul_le_mul_left q h)
    · refine pp.2 m (by omega) ?_ ⟨q, by rw [hm, Int.natCast_mul, Int.mul_comm]⟩
      rw [hm, ← Int.natCast_mul]
      exact Int.ofNat_le.mpr (Nat.mul_le_mul_right m h)
  · intro h
    obtain ⟨q, q1, q2, q3, q4⟩ := least_div n n h1 (Nat.dvd_refl n) (by omega)
    have hq := prm_of_least q1 (by omega) q3 q4
    rcases Nat.lt_or_ge q n with h3 | h3
    · exact absurd (Int.emod_eq_zero_of_dvd (Int.natCast_dvd_natCast.mpr q3)) (h q (prmTo_mem.mpr ⟨q, rfl, h3, hq⟩))
    · obtain rfl : q = n := by omega
      exact hq
/-- A number that is not prime has a prime divisor whose square is not beyond it. -/
theorem not_prm {p : Int} (h1 : 2 ≤ p) (h2 : p ≤ 10000) (h : prmB p = false) : ∃ q : Nat, q < 10001 ∧ prmB (q : Int) = true ∧ (q : Int) * (q : Int) ≤ p ∧ p % (q : Int) = 0 := by
  obtain ⟨n, rfl⟩ := Int.eq_ofNat_of_zero_le (show 0 ≤ p by omega)
  have hx : ¬ ∀ d : Nat, 2 ≤ d → (d : Int) * (d : Int) ≤ (n : Int) → ¬ (d : Int) ∣ (n : Int) := fun h3 => by
    rw [prmB_true ⟨h1, h2⟩ h3] at h; cases h
  have : ∃ d : Nat, 2 ≤ d ∧ (d : Int) * (d : Int) ≤ (n : Int) ∧ (d : Int) ∣ (n : Int) := Classical.byContradiction fun hn => hx fun d e1 e2 e3 => hn ⟨d, e1, e2, e3⟩
  obtain ⟨d, d1, d2, d3⟩ := this
  obtain ⟨q, q1, q2, q3, q4⟩ := least_div n d d1 (Int.natCast_dvd_natCast.mp d3) (by omega)
  have hqd : q * q ≤ d * d := Nat.mul_le_mul q2 q2
  rw [← Int.natCast_mul] at d2
  have h5 : q ≤ q * q := Nat.le_mul_of_pos_left q (by omega)
  refine ⟨q, by omega, prm_of_least q1 (by omega) q3 q4, by rw [← Int.natCast_mul]; omega, Int.emod_eq_zero_of_dvd (Int.natCast_dvd_natCast.mpr q3)⟩
/-- A prime whose square is not beyond p divides no prime p. -/
theorem prm_not {p : Int} {q : Nat} (h : prmB p = true) (hq : 2 ≤ q) (hqq : (q : Int) * (q : Int) ≤ p) : p % (q : Int) ≠ 0 := fun e => (prmB_says h).1.2 q (by omega) hqq (Int.dvd_of_emod_eq_zero e)
end Go.Proofs.Ytgemkfcapkfdbaa
end

section
/-
  Plain mathematics of chapter 9: the primes as the program's loop takes them. Nothing of the program is used but the list of the primes.
-/
namespace Go.Proofs.Ytgemkfcapkfdbaa

def big9 (L : List Int) : List Int := L.filter fun p => decide (101 ≤ p)
theorem big9_snoc_small {L : List Int} {x : Int} (h : x < 101) : big9 (L ++ [x]) = big9 L := by
  unfold big9
  rw [List.filter_append]
  simp
  omega
theorem big9_snoc {L : List Int} {x : Int} (h : 101 ≤ x) : big9 (L ++ [x]) = big9 L ++ [x] := by
  unfold big9
  rw [List.filter_append]
  simp [h]
theorem big9_mem {q : Nat} {r : Int} : r ∈ big9 (prmTo q) ↔ ∃ n : Nat, r = n ∧ n < q ∧ prmB (n : Int) = true ∧ 101 ≤ n := by
  unfold big9
  rw [List.mem_filter, prmTo_mem]
  constructor
  · rintro ⟨⟨n, rfl, h1, h2⟩, h3⟩
    exact ⟨n, rfl, h1, h2, by have := of_decide_eq_true h3; omega⟩
  · rintro ⟨n, rfl, h1, h2, h3⟩
    exact ⟨⟨n, rfl, h1, h2⟩, decide_eq_true (by omega)⟩
theorem mo9_mem {k : Nat} {r : Int} : r ∈ mo9 k ↔ ∃ i, i < k ∧ r = pr9 i := by
  unfold mo9
  rw [List.mem_map]
  constructor
  · rintro ⟨i, h1, rfl⟩
    exact ⟨i, List.mem_range.mp h1, rfl⟩
  · rintro ⟨i, h1, rfl⟩
    exact ⟨i, List.mem_range.mpr h1, rfl⟩
theorem pr9_lt : ∀ {i k : Nat}, i < k → k ≤ 4 → pr9 i < pr9 k := by
  intro i k h1 h2
  rcases (show (i = 0 ∧ k = 1) ∨ (i = 0 ∧ k = 2) ∨ (i = 0 ∧ k = 3) ∨ (i = 0 ∧ k = 4) ∨ (i = 1 ∧ k = 2) ∨ (i = 1 ∧ k = 3) ∨ (i = 1 ∧ k = 4) ∨ (i = 2 ∧ k = 3) ∨ (i = 2 ∧ k = 4) ∨ (i = 3 ∧ k = 4) by omega) with ⟨rfl, rfl⟩ | ⟨rfl, rfl⟩ | ⟨rfl, rfl⟩ | ⟨rfl, rfl⟩ | ⟨rfl, rfl⟩ | ⟨rfl, rfl⟩ | ⟨rfl, rfl⟩ | ⟨rfl, rfl⟩ | ⟨rfl, rfl⟩ | ⟨rfl, rfl⟩ <;> decide
/-- The next prime that is taken. -/
theorem nx9 {k q : Nat} (hk : k ≤ 4) (hq : prmB (q : Int) = true) (h1 : 101 ≤ q) (hf : big9 (prmTo q) = mo9 k) : (q : Int) = pr9 k := by
  have b1 := pr9_num k
  have up : (q : Int) ≤ pr9 k := by
    refine Int.not_lt.mp fun hlt => ?_
    obtain ⟨n, hn⟩ := Int.eq_ofNat_of_zero_le (show 0 ≤ pr9 k by omega)
    have hm : pr9 k ∈ big9 (prmTo q) := big9_mem.mpr ⟨n, hn, by omega, by rw [← hn]; exact pr9_prime k, by omega⟩
    rw [hf] at hm
    obtain ⟨i, hi, e⟩ := mo9_mem.mp hm
    have := pr9_lt hi hk
    omega
  have far : ∀ i, i < k → (q : Int) ≠ pr9 i := fun i hi e => by
    have hm : pr9 i ∈ big9 (prmTo q) := by rw [hf]; exact mo9_mem.mpr ⟨i, hi, rfl⟩
    obtain ⟨n, hn, h2, -, -⟩ := big9_mem.mp hm
    omega
  have g := pr9_gap q h1 (by omega) hq
  have e0 : pr9 0 = 101 := rfl
  have e1 : pr9 1 = 103 := rfl
  have e2 : pr9 2 = 107 := rfl
  have e3 : pr9 3 = 109 := rfl
  have e4 : pr9 4 = 113 := rfl
  rcases (show k = 0 ∨ k = 1 ∨ k = 2 ∨ k = 3 ∨ k = 4 by omega) with rfl | rfl | rfl | rfl | rfl
  · omega
  · have := far 0 (by omega)
    omega
  · have := far 0 (by omega)
    have := far 1 (by omega)
    omega
  · have := far 0 (by omega)
    have := far 1 (by omega)
    have := far 2 (by omega)
    omega
  · have := far 0 (by omega)
    have := far 1 (by omega)
    have := far 2 (by omega)
    have := far 3 (by omega)
    omega
/-- The loop does not come to an end by itself. -/
theorem last9 {k : Nat} (hf : big9 (prmTo 10001) = mo9 k) : False := by
  have hm : (127 : Int) ∈ big9 (prmTo 10001) := big9_mem.mpr ⟨127, rfl, by decide, by decide +kernel, by decide⟩
  rw [hf] at hm
  obtain ⟨i, -, e⟩ := mo9_mem.mp hm
  have := pr9_num i
  omega
/-- The products, one further than those within the limit. -/
def pq9 (k : Nat) : Int := if k ≤ 4 then pp9 k else 13710311357
theorem pq9_low {k : Nat} (h : k ≤ 4) : pq9 k = pp9 k := if_pos h
theorem pq9_num (k : Nat) : 1 ≤ pq9 k ∧ pq9 k ≤ 13710311357 := by
  unfold pq9
  have := pp9_num k
  split <;> omega
theorem pq9_big {k : Nat} {b : Int} (hb : b ≤ 400000000) (h : pq9 k ≤ 2 * b) : k ≤ 4 := by
  unfold pq9 at h
  split at h <;> omega
theorem pq9_step {k : Nat} (h : k ≤ 4) : pq9 k * pr9 k = pq9 (k + 1) := by
  rcases (show k = 0 ∨ k = 1 ∨ k = 2 ∨ k = 3 ∨ k = 4 by omega) with rfl | rfl | rfl | rfl | rfl <;> decide
theorem pq9_four {b : Int} {k : Nat} (hk : k = 4) (h : pq9 k ≤ 2 * b) : 121330189 ≤ 2 * b := by
  subst hk
  have e : pq9 4 = 121330189 := rfl
  omega
theorem chi9_five (D : Int) : chiX (re9 D 5) (mo9 5) = (0, 0, false) := chiX_no (.inl (by decide +kernel))
end Go.Proofs.Ytgemkfcapkfdbaa
end

section
/-
  A block of one cell. No function of the program is named.
-/
namespace Go.Proofs.Ytgemkfcapkfdbaa
open Go.RowKit

/-- A block of one cell, not frozen. -/
def Blk1 (w : World) (b : Nat) (t : TypeId) (p : Value) : Prop := w.heap[b]? = some (.cells #[p] t (0, 0))
theorem Blk1.cell0 {w : World} {b : Nat} {t : TypeId} {p : Value} (h : Blk1 w b t p) : w.cell? ⟨b, 0, none⟩ = some p := by unfold Blk1 at h; simp [World.cell?, h]
theorem Blk1.free {w : World} {b : Nat} {t : TypeId} {p : Value} (h : Blk1 w b t p) (o : Nat) : w.frozen? ⟨b, o, none⟩ = false := by unfold Blk1 at h; simp [World.frozen?, h]
theorem Blk1.lt {w : World} {b : Nat} {t : TypeId} {p : Value} (h : Blk1 w b t p) : b < w.heap.size := lt_of_block h
theorem Blk1.set0 {w : World} {b : Nat} {t : TypeId} {p : Value} (h : Blk1 w b t p) (u : Value) : Blk1 (w.setCell ⟨b, 0, none⟩ u) b t u := by
  have hlt := h.lt
  unfold Blk1 at h ⊢
  have h' : w.heap[b] = .cells #[p] t (0, 0) := by simpa [Array.getElem?_eq_getElem hlt] using h
  show (w.heap.modify b _)[b]? = _
  rw [Array.getElem?_eq_getElem (by simpa using hlt), Array.getElem_modify_self, h']
  rfl
theorem Blk1.far {w : World} {b : Nat} {t : TypeId} {p : Value} (h : Blk1 w b t p) {a : Addr} (ha : b ≠ a.block) (u : Value) : Blk1 (w.setCell a u) b t p := (Below.heap_setCell w a u b ha).trans h
theorem Blk1.keep {w w' : World} {b B : Nat} {t : TypeId} {p : Value} (h : Blk1 w b t p) (hb : Below B w w') (hB : b < B) : Blk1 w' b t p := (hb.block b hB).trans h
theorem Blk1.drewN {w : World} {b : Nat} {t : TypeId} {p : Value} (h : Blk1 w b t p) (n : Nat) : Blk1 (w.drewN n) b t p := h
theorem Blk1.drew {w : World} {b : Nat} {t : TypeId} {p : Value} (h : Blk1 w b t p) : Blk1 w.drew b t p := h
theorem Blk1.at_ {w : World} {b : Nat} (t : TypeId) (p : Value) (hb : b = w.heap.size) : Blk1 (w.alloc (.cells #[p] t)) b t p := by
  subst hb; unfold Blk1; show (w.heap.push _)[w.heap.size]? = _
  rw [Array.getElem?_push, if_pos rfl]
theorem Blk1.old {w : World} {b : Nat} {t : TypeId} {p : Value} (h : Blk1 w b t p) (o : Obj) : Blk1 (w.alloc o) b t p := (Below.heap_alloc w o b h.lt).trans h
theorem Blk1.keepOne {w w' : World} {b c : Nat} {t : TypeId} {p : Value} (h : Blk1 w b t p) (hg : w.grownBy w' (some c)) (hne : b ≠ c) : Blk1 w' b t p :=
  (hg.block b h.lt (by simpa using hne)).trans h
end Go.Proofs.Ytgemkfcapkfdbaa
end

section
/-
  A range over an iterator that keeps what it knows in cells of its own, where the loop's body keeps blocks of its own, too: a set of blocks, laid since the loop began, that the iterator leaves alone. No function of the program is named.
-/
namespace Go.Proofs.Ytgemkfcapkfdbaa
open Go.RowKit

/-- Blocks from B on that are not the body's own may have changed in any way. -/
def AbY {β : Type} (B : Nat) (J : β → (Nat → Prop) → World → Prop) : Prop := ∀ s M W W' row, J s M W → W.grownBy W' row → (∀ r, row = some r → B ≤ r ∧ ¬ M r) → J s M W'
/-- Blocks from B on that are not the body's own lie as they lay; the body's own are those it had, or new ones. -/
structure KpY (B : Nat) (M M' : Nat → Prop) (W W' : World) : Prop where
  size : W.heap.size ≤ W'.heap.size
  block : ∀ k, B ≤ k → k < W.heap.size → ¬ M k → W'.heap[k]? = W.heap[k]?
  own : ∀ k, M' k → (M k ∨ W.heap.size ≤ k) ∧ k < W'.heap.size
theorem KpY.at_ {B k : Nat} {M M' : Nat → Prop} {W W' : World} {o : Obj} (h : KpY B M M' W W') (hk : B ≤ k) (hm : ¬ M k) (e : W.heap[k]? = some o) : W'.heap[k]? = some o := (h.block k hk (Array.getElem?_eq_some_iff.mp e).1 hm).trans e
def SeqY {α : Type} (F : Fence) (n : Nat) (P : Program) (g : Nat) (encs : α → Array Value) (S Sp : List α → Prop) (Nx : List α → α → Prop) : Prop :=
  ∀ (l : Nat) (J Jx : List α → (Nat → Prop) → World → Prop) (W : World), AbY W.heap.size J → (∀ s M W1, J s M W1 → ∀ k, M k → k < W1.heap.size) →
    (∀ pre x M W1, J pre M W1 → Nx pre x → YieldAt F (n - 1) P l (encs x) W1 fun e W' => (e = .returned (.bool true) ∧ ∃ M', J (pre ++ [x]) M' W' ∧ KpY W.heap.size M M' W1 W') ∨ (e = .returned (.bool false) ∧ ∃ M', Jx (pre ++ [x]) M' W')) →
    J [] (fun _ => False) W → CallsIn F n P g #[.func (.yield l) #[] #[]] W fun e W' => (∃ v, e = .returned v) ∧ ((∃ xs M, S xs ∧ J xs M W') ∨ (∃ pre M, Sp pre ∧ Jx pre M W'))
/-- How a round's body may be left. -/
def bodyY {α : Type} (B : Nat) (M : Nat → Prop) (I : List α → (Nat → Prop) → World → Prop) (Ix : Code → List α → (Nat → Prop) → World → Prop) (xs : List α) (W : World) : Exit → Act → World → Prop
  | .normal, _, W' => ∃ M', KpY B M M' W W' ∧ I xs M' W'
  | .ret, _, W' => ∃ M', KpY B M M' W W' ∧ Ix .ret xs M' W'
  | .exit id, _, W' => ∃ M', KpY B M M' W W' ∧ Ix (.exit id) xs M' W'
  | .goto t, _, W' => ∃ M', KpY B M M' W W' ∧ Ix (.goto t) xs M' W'
  | _, _, _ => False
theorem AbY.put {β : Type} {B l : Nat} {J : β → (Nat → Prop) → World → Prop} (h : AbY B J) {s : β} {M : Nat → Prop} {W : World} (hs : J s M W) (hl : B ≤ l) (hm : ¬ M l) (o : Obj) : J s M (W.putObj l o) :=
  h s M W _ (some l) hs (grownBy_putObj' W l o) (fun r e => by cases e; exact ⟨hl, hm⟩)
theorem AbY.old {β : Type} {B : Nat} {J : β → (Nat → Prop) → World → Prop} (h : AbY B J) {s : β} {M : Nat → Prop} {W : World} (hs : J s M W) (o : Obj) : J s M (W.alloc o) :=
  h s M W _ none hs (World.grownBy_alloc W o none) (fun r e => by cases e)
/-- The record of the loop, as it lies at one time. -/
def recY (fn : Nat) (a : Act) (ps : Array Tmp) (assign body : Code) (D : Nat) (st : LoopState) (pe : Option Code) : Loop := { state := st, pending := pe, fn, tmps := a.tmps, params := ps, assign, body, defers := D }
/-- What holds between two rounds, with the record and the block for deferred calls beside it. -/
structure betY {α : Type} (D : Nat) (R : Loop) (I : List α → (Nat → Prop) → World → Prop) (pre : List α) (M : Nat → Prop) (W : World) : Prop where
  inv : I pre M W
  rec_ : W.heap[D + 1]? = some (.loop R)
  defd : W.heap[D]? = some (.deferred (some []))
  far : ∀ k, M k → D + 2 ≤ k ∧ k < W.heap.size
theorem betY.ab {α : Type} {D : Nat} {R : Loop} {I : List α → (Nat → Prop) → World → Prop} (h : AbY D I) : AbY (D + 2) (betY D R I) := fun s M A B row hs hg hr =>
  ⟨h s M A B row hs.inv hg (fun r e => by have := hr r e; exact ⟨by omega, this.2⟩), (hg.block _ (Array.getElem?_eq_some_iff.mp hs.rec_).1 (fun e => by have := hr _ e.symm; omega)).trans hs.rec_, (hg.block _ (Array.getElem?_eq_some_iff.mp hs.defd).1 (fun e => by have := hr _ e.symm; omega)).trans hs.defd, fun k hk => ⟨(hs.far k hk).1, Nat.lt_of_lt_of_le (hs.far k hk).2 hg.size⟩⟩
theorem betY.put {α : Type} {D : Nat} {R R' : Loop} {I' : List α → (Nat → Prop) → World → Prop} {xs : List α} {M' : Nat → Prop} {W : World} (hI : AbY D I') (h1 : W.heap[D + 1]? = some (.loop R)) (h2 : W.heap[D]? = some (.deferred (some []))) (h3 : ∀ k, M' k → D + 2 ≤ k ∧ k < W.heap.size) (h' : I' xs M' W) : betY D R' I' xs M' (W.putObj (D + 1) (.loop R')) :=
  ⟨hI.put h' (by omega) (fun hm => by have := h3 _ hm; omega) _, World.putObj_heap_same (Array.getElem?_eq_some_iff.mp h1).1, (World.putObj_heap_other (by omega)).trans h2, fun k hk => by have := h3 k hk; exact ⟨this.1, by simp [World.putObj]; exact this.2⟩⟩
theorem wpIn_rangeY {F : Fence} {n : Nat} {P : Program} {α : Type} {g : Operand} {ps : Array Tmp} {assign body : Code} {Q : Exit → Act → World → Prop} {a : Act} {w : World}
    (hro : F.round = none) (h1 : 1 ≤ n) {gf : Nat} (hg : a.eval g = .func (.func gf) #[] #[]) (hFg : F.fn gf) (eg : ∀ args w, (callFunc gf args).run P w = .ok (.enter gf args) w)
    {encs : α → Array Value} {S Sp : List α → Prop} {Nx : List α → α → Prop} (hseq : SeqY F (n - 1) P gf encs S Sp Nx) (hps : ∀ x, (encs x).size = ps.size)
    (I : List α → (Nat → Prop) → World → Prop) (Ix : Code → List α → (Nat → Prop) → World → Prop) (hI : AbY w.heap.size I) (hIx : ∀ c, AbY w.heap.size (Ix c)) (h0 : I [] (fun _ => False) w) (a₁ : α → Act)
    (hassign : ∀ (l : Nat) (x : α) (W : World) (K : Act → World → Prop), K (a₁ x) W →
      assign.wpIn (F.inRound l) (n - 1 - 1) P (Exit.then K (fun _ _ _ => False)) { tmps := (ps.zip (encs x)).foldl (fun t (p, v) => t.setIfInBounds p v) a.tmps, defers := [] } W)
    (hbody : ∀ (l : Nat) (pre : List α) (x : α) (M : Nat → Prop) (W : World), I pre M W → (∀ k, M k → w.heap.size + 2 ≤ k ∧ k < W.heap.size) → Nx pre x → w.heap.size + 2 ≤ W.heap.size → body.wpIn (F.inRound l) (n - 1 - 1) P (bodyY w.heap.size M I Ix (pre ++ [x]) W) (a₁ x) W)
    (hdone : ∀ (xs : List α) (M : Nat → Prop) (W : World), S xs → I xs M W → (∀ k, M k → w.heap.size + 2 ≤ k ∧ k < W.heap.size) → W.heap[w.heap.size]? = some (.deferred (some [])) → Q .normal { a with defers := { target := .collected w.heap.size, args := #[] } :: a.defers } W)
    (hstop : ∀ (c : Code) (pre : List α) (M : Nat → Prop) (W : World), Sp pre → Ix c pre M W → (∀ k, M k → w.heap.size + 2 ≤ k ∧ k < W.heap.size) → W.heap[w.heap.size]? = some (.deferred (some [])) → c.wpIn F n P Q { a with defers := { target := .collected w.heap.size, args := #[] } :: a.defers } W) :
    (Code.rangeFunc g ps assign body).wpIn F n P Q a w := by
  refine wpIn_rangeFunc fun fn hfn => ?_
  rw [hro]
  generalize hD : w.heap.size = D at hI hIx hbody hdone hstop
  obtain ⟨R, hR⟩ : ∃ R : LoopState → Option Code → Loop, R = recY fn a ps assign body D := ⟨_, rfl⟩
  have sz : ((w.alloc (.deferred (some []))).alloc (.loop (R .ready none))).heap.size = D + 2 := by simp [hD]
  have st : betY D (R .ready none) I [] (fun _ => False) ((w.alloc (.deferred (some []))).alloc (.loop (R .ready none))) := by
    refine ⟨hI.old (hI.old h0 _) _, ?_, ?_, fun k hk => hk.elim⟩
    · have := World.alloc_heap_new (w.alloc (.deferred (some []))) (.loop (R .ready none))
      rwa [World.size_alloc, hD] at this
    · rw [← hD]
      exact (Below.heap_alloc _ _ _ (by simp)).trans (World.alloc_heap_new w _)
  refine ⟨D + 1, [{ target := .collected D, args := #[] }], (w.alloc (.deferred (some []))).alloc (.loop (R .ready none)), { target := .fn (.func gf) #[], args := #[.func (.yield (D + 1)) #[] #[]] }, (w.alloc (.deferred (some []))).alloc (.loop (R .ready none)), gf, #[.func (.yield (D + 1)) #[] #[]], (w.alloc (.deferred (some []))).alloc (.loop (R .ready none)), ?_, ?_, ?_, ?_, fun _ => h1, ?_⟩
  · rw [hR, ← hD]; exact run_enterLoop_outer _ _ _ _ _
  · simp only [resolve, hg]
    simp [go_sem]
  · intro f' hf'
    simp [Target.leads] at hf'
    subst hf'
    exact hFg
  · simp [invoke, go_sem, eg]
  · have ab2 : ∀ {I' : List α → (Nat → Prop) → World → Prop} {R' : Loop}, AbY D I' → AbY ((w.alloc (.deferred (some []))).alloc (.loop (R .ready none))).heap.size (betY D R' I') := fun h => by rw [sz]; exact betY.ab h
    refine (hseq (D + 1) (betY D (R .ready none) I) (fun pre M W => ∃ c, betY D (R .done (some c)) (Ix c) pre M W) _ (ab2 hI) (fun s M W1 h k hk => (h.far k hk).2) ?_ st).mono ?_
    · intro pre x M W hJ hlen
      have hy := run_yield (P := P) (args := encs x) hJ.rec_ (by rw [hR]; exact hps x)
      rw [hR] at hy
      refine ⟨fn, _, assign, body, hy, roundIn_of_wpIn hfn (hassign _ x W _ ⟨_, run_beginRound hJ.rec_ (by rw [hR]; rfl), ?_⟩)⟩
      have hB : betY D { R .ready none with state := .busy } I pre M (W.putObj (D + 1) (.loop { R .ready none with state := .busy })) := betY.put hI hJ.rec_ hJ.defd hJ.far hJ.inv
      have zW : (W.putObj (D + 1) (.loop { R .ready none with state := .busy })).heap.size = W.heap.size := by simp [World.putObj]
      refine wpIn_mono (hbody _ pre x M _ hB.inv hB.far hlen (by rw [zW]; have := (Array.getElem?_eq_some_iff.mp hJ.rec_).1; omega)) ?_
      have fin : ∀ (jump : Option Code) (I' : List α → (Nat → Prop) → World → Prop) (M' : Nat → Prop) (W3 : World), AbY D I' → KpY D M M' (W.putObj (D + 1) (.loop { R .ready none with state := .busy })) W3 → I' (pre ++ [x]) M' W3 →
          (Instr.endRound (D + 1) jump).run P W3 = .ok (.bool jump.isNone) (W3.putObj (D + 1) (.loop (R (if jump.isNone then .ready else .done) jump))) ∧ betY D (R (if jump.isNone then .ready else .done) jump) I' (pre ++ [x]) M' (W3.putObj (D + 1) (.loop (R (if jump.isNone then .ready else .done) jump))) ∧
          KpY (D + 2) M M' W (W3.putObj (D + 1) (.loop (R (if jump.isNone then .ready else .done) jump))) := fun jump I' M' W3 hab hk hi => by
        have r1 : W3.heap[D + 1]? = some (.loop { R .ready none with state := .busy }) := hk.at_ (by omega) (fun hm => by have := hB.far _ hm; omega) hB.rec_
        have r2 : W3.heap[D]? = some (.deferred (some [])) := hk.at_ (Nat.le_refl _) (fun hm => by have := hB.far _ hm; omega) hB.defd
        have r3 : ∀ k, M' k → D + 2 ≤ k ∧ k < W3.heap.size := fun k hm => by
          obtain ⟨h1, h2⟩ := hk.own k hm
          rcases h1 with h1 | h1
          · exact ⟨(hB.far k h1).1, h2⟩
          · have := (Array.getElem?_eq_some_iff.mp hB.rec_).1
            exact ⟨by omega, h2⟩
        have hr := run_endRound (P := P) jump r1
        rw [hR] at hr
        have z3 : (W3.putObj (D + 1) (.loop (R (if jump.isNone then .ready else .done) jump))).heap.size = W3.heap.size := by simp [World.putObj]
        refine ⟨by rw [hR]; exact hr, betY.put hab r1 r2 r3 hi, ⟨?_, fun k h1 h2 h3 => ?_, fun k hm => ?_⟩⟩
        · rw [z3, ← zW]; exact hk.size
        · exact (World.putObj_heap_other (by omega)).trans ((hk.block k (by omega) (by rw [zW]; exact h2) h3).trans (World.putObj_heap_other (by omega)))
        · rw [z3, ← zW]; exact hk.own k hm
      rintro e a3 W3 hp
      have jumped : ∀ c : Code, (∃ M', KpY D M M' (W.putObj (D + 1) (.loop { R .ready none with state := .busy })) W3 ∧ Ix c (pre ++ [x]) M' W3) → ∃ v W4, (Instr.endRound (D + 1) (some c)).run P W3 = .ok v W4 ∧ ((Ending.returned v = .returned (.bool true) ∧ ∃ M', betY D (R .ready none) I (pre ++ [x]) M' W4 ∧ KpY ((w.alloc (.deferred (some []))).alloc (.loop (R .ready none))).heap.size M M' W W4) ∨ (Ending.returned v = .returned (.bool false) ∧ ∃ M' c, betY D (R .done (some c)) (Ix c) (pre ++ [x]) M' W4)) := fun c ⟨M', hk, hi⟩ => by
        obtain ⟨e1, e2, -⟩ := fin (some c) (Ix c) M' W3 (hIx c) hk hi
        exact ⟨_, _, e1, .inr ⟨rfl, M', c, e2⟩⟩
      cases e with
      | normal =>
        obtain ⟨M', h1, h2⟩ := hp
        obtain ⟨e1, e2, e3⟩ := fin none I M' W3 hI h1 h2
        exact ⟨_, _, e1, .inl ⟨rfl, M', e2, by rw [sz]; exact e3⟩⟩
      | ret => exact jumped _ hp
      | exit id => exact jumped _ hp
      | goto t => exact jumped _ hp
      | panic ch => exact hp.elim
      | outgrown => exact hp.elim
    · rintro e W2 ⟨⟨v, rfl⟩, ⟨xs, M, hS, hJ⟩ | ⟨pre, M, hSp, c, hJ⟩⟩
      · have hr := run_endLoop (P := P) hJ.rec_ (by rw [hR]; simp [recY])
        rw [hR] at hr
        have hn : ¬ M (D + 1) := fun hm => by have := hJ.far _ hm; omega
        exact ⟨none, _, hr, hdone xs M _ hS (hI.put hJ.inv (by omega) hn _) (fun k hk => by have := hJ.far k hk; exact ⟨this.1, by simp [World.putObj]; exact this.2⟩) ((World.putObj_heap_other (by omega)).trans hJ.defd)⟩
      · have hr := run_endLoop (P := P) hJ.rec_ (by rw [hR]; simp [recY])
        rw [hR] at hr
        have hn : ¬ M (D + 1) := fun hm => by have := hJ.far _ hm; omega
        exact ⟨some c, _, hr, hstop c pre M _ hSp ((hIx c).put hJ.inv (by omega) hn _) (fun k hk => by have := hJ.far k hk; exact ⟨this.1, by simp [World.putObj]; exact this.2⟩) ((World.putObj_heap_other (by omega)).trans hJ.defd)⟩
end Go.Proofs.Ytgemkfcapkfdbaa
end

section
/-
  Chapter 8, in the program: slices.ContainsFunc with the iterator's test.
-/
namespace Go.Proofs.Ytgemkfcapkfdbaa
set_option maxRecDepth 100000
open Go.RowKit Go.Shelf

theorem iDivides (n x : Int) (b : Nat) (w : World) (hb : w.cell? ⟨b, 0, none⟩ = some (.int .i64 n)) (hn : 0 ≤ n) (hx : 2 ≤ x) :
    Calls Try.prog 86 #[.int .i64 x, .pointer (some ⟨b, 0, none⟩)] w fun e w' => e = .returned (.bool (n % x == 0)) ∧ w = w' := by
  have h0 : (x == 0) = false := by simp; omega
  go_enter Try.func86, Try.ntmps86
  go_wp2_with fail
  go_ret
  exact ⟨rfl, rfl⟩
set_option maxHeartbeats 1000000 in
theorem iIdx (n : Int) (b m L : Nat) (q : Option Addr) (xs : List Int) (w : World) (h : Rd w q xs) (hL : xs.length = L) (hb : w.cell? ⟨b, 0, none⟩ = some (.int .i64 n)) (hn : 0 ≤ n) (hx : ∀ k, k < L → 2 ≤ xs.getD k 0) (hl : L ≤ 16777216) :
    Calls Try.prog 100 #[.slice q L m, .func (.func 86) #[] #[.pointer (some ⟨b, 0, none⟩)]] w fun e w' => ((∃ k : Nat, e = .returned (.int .i64 k) ∧ k < L ∧ n % xs.getD k 0 = 0) ∨ (e = .returned (.int .i64 (-1)) ∧ ∀ k, k < L → n % xs.getD k 0 ≠ 0)) ∧ w = w' := by
  have H := Lib.hid h
  have HX := Lib.hid hx
  have HL := Lib.hid hL
  have HB := Lib.hid hb
  clear h hx hL hb
  go_enter Try.func100, Try.ntmps100
  go_wp2_with fail
  go_loopw [5, 8] (fun _ v8 wr => ∃ k : Nat, v8 = .int .i64 k ∧ k ≤ L ∧ (∀ i, i < k → n % xs.getD i 0 ≠ 0) ∧ wr = w) (fun _ v8 _ => L - (intOf v8).toNat)
  case atStart => exact ⟨0, rfl, by omega, fun i hi => by omega, rfl⟩
  case round =>
    obtain ⟨k, rfl, hk, hi, rfl⟩ := hrel
    have HI := Lib.hid hi
    clear hi
    by_cases hlt : k < L
    · obtain ⟨g, o, rfl, hc⟩ := H.out k (by rw [HL.out]; exact hlt)
      have hx := HX.out k hlt
      obtain ⟨x, hxx⟩ : ∃ x, xs.getD k 0 = x := ⟨_, rfl⟩
      have X := Lib.hid hxx
      rw [hxx] at hc hx
      clear hxx
      by_cases hz : n % x = 0
      · have hcall := iDivides n x b wr HB.out hn hx
        rw [show (n % x == 0) = true by simp [hz]] at hcall
        go_wp2_with fail
        refine hcall.mono ?_
        rintro e w' ⟨rfl, rfl⟩
        go_wp2_with fail
        go_ret
        exact ⟨.inl ⟨k, rfl, hlt, by rw [X.out]; exact hz⟩, rfl⟩
      · have hcall := iDivides n x b wr HB.out hn hx
        rw [show (n % x == 0) = false by simpa using hz] at hcall
        go_wp2_with fail
        refine hcall.mono ?_
        rintro e w' ⟨rfl, rfl⟩
        go_wp2_with fail
        go_roundw
        case rel => exact ⟨k + 1, by go_num, by omega, fun i hi2 => by
          rcases Nat.lt_or_ge i k with h3 | h3
          · exact HI.out i h3
          · obtain rfl : i = k := by omega
            rw [X.out]; exact hz, trivial⟩
        case measure => simp [intOf]; omega
    · obtain rfl : k = L := by omega
      go_wp2_with fail
      go_ret
      exact ⟨.inr ⟨rfl, HI.out⟩, rfl⟩
theorem iContains (n : Int) (b m L : Nat) (q : Option Addr) (xs : List Int) (w : World) (h : Rd w q xs) (hL : xs.length = L) (hb : w.cell? ⟨b, 0, none⟩ = some (.int .i64 n)) (hn : 0 ≤ n) (hx : ∀ k, k < L → 2 ≤ xs.getD k 0) (hl : L ≤ 16777216) (t : Bool) (ht : t = true ↔ ∃ k, k < L ∧ n % xs.getD k 0 = 0) :
    Calls Try.prog 85 #[.slice q L m, .func (.func 86) #[] #[.pointer (some ⟨b, 0, none⟩)]] w fun e w' => e = .returned (.bool t) ∧ w = w' := by
  have hi := Lib.hid (iIdx n b m L q xs w h hL hb hn hx hl)
  clear h hL hb hx
  go_enter Try.func85, Try.ntmps85
  go_wp2_with fail
  refine hi.out.mono ?_
  rintro e w' ⟨⟨k, rfl, h1, h2⟩ | ⟨rfl, h1⟩, rfl⟩
  · obtain rfl : t = true := ht.mpr ⟨k, h1, h2⟩
    clear ht
    go_wp2_with fail
    go_ret
    exact ⟨rfl, rfl⟩
  · obtain rfl : t = false := by
      cases t with
      | false => rfl
      | true => obtain ⟨k, h2, h3⟩ := ht.mp rfl; exact absurd h3 (h1 k h2)
    clear ht
    go_wp2_with fail
    go_ret
    exact ⟨rfl, rfl⟩
end Go.Proofs.Ytgemkfcapkfdbaa
end

section
/-
  A range over an iterator that keeps what it knows in cells of its own: the loop's invariant abides whatever happens to blocks that were laid since the loop began. No function of the program is named.
-/
namespace Go.Proofs.Ytgemkfcapkfdbaa
open Go.RowKit

/-- Blocks from B on may have changed in any way. -/
def AbX {β : Type} (B : Nat) (J : β → World → Prop) : Prop := ∀ s W W' row, J s W → W.grownBy W' row → (∀ r, row = some r → B ≤ r) → J s W'
/-- Blocks from B on lie as they lay. -/
def KpX (B : Nat) (W W' : World) : Prop := W.heap.size ≤ W'.heap.size ∧ ∀ k, B ≤ k → k < W.heap.size → W'.heap[k]? = W.heap[k]?
theorem KpX.refl (B : Nat) (W : World) : KpX B W W := ⟨Nat.le_refl _, fun _ _ _ => rfl⟩
theorem KpX.trans {B : Nat} {U V W : World} (h : KpX B U V) (h' : KpX B V W) : KpX B U W := ⟨Nat.le_trans h.1 h'.1, fun k hk hl => (h'.2 k hk (Nat.lt_of_lt_of_le hl h.1)).trans (h.2 k hk hl)⟩
theorem KpX.put {B l : Nat} (W : World) (hl : l < B) (o : Obj) : KpX B W (W.putObj l o) := ⟨by simp, fun k hk _ => World.putObj_heap_other (by omega)⟩
theorem KpX.set {B : Nat} (W : World) {a : Addr} (ha : a.block < B) (v : Value) : KpX B W (W.setCell a v) := ⟨by simp [World.setCell], fun k hk _ => Below.heap_setCell W a v k (by omega)⟩
theorem KpX.at_ {B k : Nat} {W W' : World} {o : Obj} (h : KpX B W W') (hk : B ≤ k) (e : W.heap[k]? = some o) : W'.heap[k]? = some o := (h.2 k hk (Array.getElem?_eq_some_iff.mp e).1).trans e
def SeqX {α : Type} (F : Fence) (n : Nat) (P : Program) (g : Nat) (encs : α → Array Value) (S Sp : List α → Prop) (N : Nat) : Prop :=
  ∀ (l : Nat) (J Jx : List α → World → Prop) (W : World), AbX W.heap.size J → AbX W.heap.size Jx →
    (∀ pre x W1, J pre W1 → pre.length < N → YieldAt F (n - 1) P l (encs x) W1 fun e W' => (e = .returned (.bool true) ∧ J (pre ++ [x]) W' ∧ KpX W.heap.size W1 W') ∨ (e = .returned (.bool false) ∧ Jx (pre ++ [x]) W')) →
    J [] W → CallsIn F n P g #[.func (.yield l) #[] #[]] W fun e W' => (∃ v, e = .returned v) ∧ ((∃ xs, S xs ∧ J xs W') ∨ (∃ pre, Sp pre ∧ Jx pre W'))
/-- How a round's body may be left. -/
def bodyX {α : Type} (B : Nat) (I : List α → World → Prop) (Ix : Code → List α → World → Prop) (xs : List α) (W : World) : Exit → Act → World → Prop
  | .normal, _, W' => KpX B W W' ∧ I xs W'
  | .ret, _, W' => KpX B W W' ∧ Ix .ret xs W'
  | .exit id, _, W' => KpX B W W' ∧ Ix (.exit id) xs W'
  | .goto t, _, W' => KpX B W W' ∧ Ix (.goto t) xs W'
  | _, _, _ => False
theorem AbX.put {β : Type} {B l : Nat} {J : β → World → Prop} (h : AbX B J) {s : β} {W : World} (hs : J s W) (hl : B ≤ l) (o : Obj) : J s (W.putObj l o) :=
  h s W _ (some l) hs (grownBy_putObj' W l o) (fun r e => by cases e; exact hl)
theorem AbX.old {β : Type} {B : Nat} {J : β → World → Prop} (h : AbX B J) {s : β} {W : World} (hs : J s W) (o : Obj) : J s (W.alloc o) :=
  h s W _ none hs (World.grownBy_alloc W o none) (fun r e => by cases e)
/-- The record of the loop, as it lies at one time. -/
def recX (fn : Nat) (a : Act) (ps : Array Tmp) (assign body : Code) (D : Nat) (st : LoopState) (pe : Option Code) : Loop := { state := st, pending := pe, fn, tmps := a.tmps, params := ps, assign, body, defers := D }
/-- What holds between two rounds, with the record and the block for deferred calls beside it. -/
def betX {α : Type} (D : Nat) (R : Loop) (I : List α → World → Prop) (pre : List α) (W : World) : Prop := I pre W ∧ W.heap[D + 1]? = some (.loop R) ∧ W.heap[D]? = some (.deferred (some []))
theorem betX.ab {α : Type} {D : Nat} {R : Loop} {I : List α → World → Prop} (h : AbX D I) : AbX (D + 2) (betX D R I) := fun s A B row hs hg hr => by
  obtain ⟨h1, h2, h3⟩ := hs
  exact ⟨h s A B row h1 hg (fun r e => by have := hr r e; omega), (hg.block _ (Array.getElem?_eq_some_iff.mp h2).1 (fun e => by have := hr _ e.symm; omega)).trans h2, (hg.block _ (Array.getElem?_eq_some_iff.mp h3).1 (fun e => by have := hr _ e.symm; omega)).trans h3⟩
theorem betX.put {α : Type} {D : Nat} {R R' : Loop} {I I' : List α → World → Prop} {xs ys : List α} {W : World} (hI : AbX D I') (h : betX D R I ys W) (h' : I' xs W) : betX D R' I' xs (W.putObj (D + 1) (.loop R')) :=
  ⟨hI.put h' (by omega) _, World.putObj_heap_same (Array.getElem?_eq_some_iff.mp h.2.1).1, (World.putObj_heap_other (by omega)).trans h.2.2⟩
theorem wpIn_rangeX {F : Fence} {n : Nat} {P : Program} {α : Type} {g : Operand} {ps : Array Tmp} {assign body : Code} {Q : Exit → Act → World → Prop} {a : Act} {w : World}
    (hro : F.round = none) (h1 : 1 ≤ n) {gf : Nat} (hg : a.eval g = .func (.func gf) #[] #[]) (hFg : F.fn gf) (eg : ∀ args w, (callFunc gf args).run P w = .ok (.enter gf args) w)
    {encs : α → Array Value} {S Sp : List α → Prop} {N : Nat} (hseq : SeqX F (n - 1) P gf encs S Sp N) (hps : ∀ x, (encs x).size = ps.size)
    (I : List α → World → Prop) (Ix : Code → List α → World → Prop) (hI : AbX w.heap.size I) (hIx : ∀ c, AbX w.heap.size (Ix c)) (h0 : I [] w) (a₁ : α → Act)
    (hassign : ∀ (l : Nat) (x : α) (W : World) (K : Act → World → Prop), K (a₁ x) W →
      assign.wpIn (F.inRound l) (n - 1 - 1) P (Exit.then K (fun _ _ _ => False)) { tmps := (ps.zip (encs x)).foldl (fun t (p, v) => t.setIfInBounds p v) a.tmps, defers := [] } W)
    (hbody : ∀ (l : Nat) (pre : List α) (x : α) (W : World), I pre W → pre.length < N → body.wpIn (F.inRound l) (n - 1 - 1) P (bodyX w.heap.size I Ix (pre ++ [x]) W) (a₁ x) W)
    (hdone : ∀ (xs : List α) (W : World), S xs → I xs W → W.heap[w.heap.size]? = some (.deferred (some [])) → Q .normal { a with defers := { target := .collected w.heap.size, args := #[] } :: a.defers } W)
    (hstop : ∀ (c : Code) (pre : List α) (W : World), Sp pre → Ix c pre W → W.heap[w.heap.size]? = some (.deferred (some [])) → c.wpIn F n P Q { a with defers := { target := .collected w.heap.size, args := #[] } :: a.defers } W) :
    (Code.rangeFunc g ps assign body).wpIn F n P Q a w := by
  refine wpIn_rangeFunc fun fn hfn => ?_
  rw [hro]
  generalize hD : w.heap.size = D at hI hIx hbody hdone hstop
  obtain ⟨R, hR⟩ : ∃ R : LoopState → Option Code → Loop, R = recX fn a ps assign body D := ⟨_, rfl⟩
  have sz : ((w.alloc (.deferred (some []))).alloc (.loop (R .ready none))).heap.size = D + 2 := by simp [hD]
  have st : betX D (R .ready none) I [] ((w.alloc (.deferred (some []))).alloc (.loop (R .ready none))) := by
    refine ⟨hI.old (hI.old h0 _) _, ?_, ?_⟩
    · have := World.alloc_heap_new (w.alloc (.deferred (some []))) (.loop (R .ready none))
      rwa [World.size_alloc, hD] at this
    · rw [← hD]
      exact (Below.heap_alloc _ _ _ (by simp)).trans (World.alloc_heap_new w _)
  refine ⟨D + 1, [{ target := .collected D, args := #[] }], (w.alloc (.deferred (some []))).alloc (.loop (R .ready none)), { target := .fn (.func gf) #[], args := #[.func (.yield (D + 1)) #[] #[]] }, (w.alloc (.deferred (some []))).alloc (.loop (R .ready none)), gf, #[.func (.yield (D + 1)) #[] #[]], (w.alloc (.deferred (some []))).alloc (.loop (R .ready none)), ?_, ?_, ?_, ?_, fun _ => h1, ?_⟩
  · rw [hR, ← hD]; exact run_enterLoop_outer _ _ _ _ _
  · simp only [resolve, hg]
    simp [go_sem]
  · intro f' hf'
    simp [Target.leads] at hf'
    subst hf'
    exact hFg
  · simp [invoke, go_sem, eg]
  · have ab2 : ∀ {I' : List α → World → Prop} {R' : Loop}, AbX D I' → AbX ((w.alloc (.deferred (some []))).alloc (.loop (R .ready none))).heap.size (betX D R' I') := fun h => by rw [sz]; exact betX.ab h
    refine (hseq (D + 1) (betX D (R .ready none) I) (fun pre W => ∃ c, betX D (R .done (some c)) (Ix c) pre W) _ (ab2 hI) (fun s A B row hs hg' hr => by
      obtain ⟨c, hc⟩ := hs
      exact ⟨c, ab2 (hIx c) s A B row hc hg' hr⟩) ?_ st).mono ?_
    · intro pre x W hJ hlen
      have hy := run_yield (P := P) (args := encs x) hJ.2.1 (by rw [hR]; exact hps x)
      rw [hR] at hy
      refine ⟨fn, _, assign, body, hy, roundIn_of_wpIn hfn (hassign _ x W _ ⟨_, run_beginRound hJ.2.1 (by rw [hR]; rfl), ?_⟩)⟩
      have hB : betX D { R .ready none with state := .busy } I pre (W.putObj (D + 1) (.loop { R .ready none with state := .busy })) := hJ.put hI hJ.1
      have k1 : KpX (D + 2) W (W.putObj (D + 1) (.loop { R .ready none with state := .busy })) := KpX.put W (by omega) _
      refine wpIn_mono (hbody _ pre x _ hB.1 hlen) ?_
      have fin : ∀ (jump : Option Code) (I' : List α → World → Prop) (W3 : World), AbX D I' → KpX D (W.putObj (D + 1) (.loop { R .ready none with state := .busy })) W3 → I' (pre ++ [x]) W3 →
          (Instr.endRound (D + 1) jump).run P W3 = .ok (.bool jump.isNone) (W3.putObj (D + 1) (.loop (R (if jump.isNone then .ready else .done) jump))) ∧ betX D (R (if jump.isNone then .ready else .done) jump) I' (pre ++ [x]) (W3.putObj (D + 1) (.loop (R (if jump.isNone then .ready else .done) jump))) ∧
          KpX (D + 2) W (W3.putObj (D + 1) (.loop (R (if jump.isNone then .ready else .done) jump))) := fun jump I' W3 hab hk hi => by
        have b3 : betX D { R .ready none with state := .busy } I' (pre ++ [x]) W3 := ⟨hi, hk.at_ (by omega) hB.2.1, hk.at_ (Nat.le_refl _) hB.2.2⟩
        have hr := run_endRound (P := P) jump b3.2.1
        rw [hR] at hr
        refine ⟨by rw [hR]; exact hr, b3.put hab hi, (k1.trans ⟨hk.1, fun k h1 h2 => hk.2 k (by omega) h2⟩).trans (KpX.put W3 (by omega) _)⟩
      rintro e a3 W3 hp
      have jumped : ∀ c : Code, KpX D (W.putObj (D + 1) (.loop { R .ready none with state := .busy })) W3 → Ix c (pre ++ [x]) W3 → ∃ v W4, (Instr.endRound (D + 1) (some c)).run P W3 = .ok v W4 ∧ ((Ending.returned v = .returned (.bool true) ∧ betX D (R .ready none) I (pre ++ [x]) W4 ∧ KpX ((w.alloc (.deferred (some []))).alloc (.loop (R .ready none))).heap.size W W4) ∨ (Ending.returned v = .returned (.bool false) ∧ ∃ c, betX D (R .done (some c)) (Ix c) (pre ++ [x]) W4)) := fun c hk hi => by
        obtain ⟨e1, e2, -⟩ := fin (some c) (Ix c) W3 (hIx c) hk hi
        exact ⟨_, _, e1, .inr ⟨rfl, c, e2⟩⟩
      cases e with
      | normal =>
        obtain ⟨e1, e2, e3⟩ := fin none I W3 hI hp.1 hp.2
        exact ⟨_, _, e1, .inl ⟨rfl, e2, by rw [sz]; exact e3⟩⟩
      | ret => exact jumped _ hp.1 hp.2
      | exit id => exact jumped _ hp.1 hp.2
      | goto t => exact jumped _ hp.1 hp.2
      | panic ch => exact hp.elim
      | outgrown => exact hp.elim
    · rintro e W2 ⟨⟨v, rfl⟩, ⟨xs, hS, hJ⟩ | ⟨pre, hSp, c, hJ⟩⟩
      · have hr := run_endLoop (P := P) hJ.2.1 (by rw [hR]; simp [recX])
        rw [hR] at hr
        exact ⟨none, _, hr, hdone xs _ hS (hI.put hJ.1 (by omega) _) ((World.putObj_heap_other (by omega)).trans hJ.2.2)⟩
      · have hr := run_endLoop (P := P) hJ.2.1 (by rw [hR]; simp [recX])
        rw [hR] at hr
        exact ⟨some c, _, hr, hstop c pre _ hSp ((hIx c).put hJ.1 (by omega) _) ((World.putObj_heap_other (by omega)).trans hJ.2.2)⟩
end Go.Proofs.Ytgemkfcapkfdbaa
end

section
/-
  Chapter 8, in the program: the iterator over primes; IsPrime.
-/
namespace Go.Proofs.Ytgemkfcapkfdbaa
set_option maxRecDepth 100000
open Go.RowKit Go.Shelf

attribute [local go_sem] Oper.semAt_some

/-- A prime that the iterator gives out. -/
abbrev PrmQ := { q : Nat // q < 10001 ∧ prmB (q : Int) = true }
def prmV (ys : List PrmQ) : List Int := ys.map fun x => (x.1 : Int)
theorem prmV_snoc (ys : List PrmQ) (x : PrmQ) : prmV (ys ++ [x]) = prmV ys ++ [(x.1 : Int)] := by simp [prmV]
theorem prmV_length (ys : List PrmQ) : (prmV ys).length = ys.length := List.length_map ..
/-- What is left for the iterator, read off the cell of its variable. -/
def leftX (w : World) (v : Value) : Nat := match v with
  | .pointer (some a) => match w.cell? a with
    | some (.int _ z) => 10001 - z.toNat
    | _ => 0
  | _ => 0
theorem leftX_at {w : World} {b m : Nat} (h : w.cell? ⟨b, 0, none⟩ = some (.int .i64 (m : Int))) : leftX w (.pointer (some ⟨b, 0, none⟩)) = 10001 - m := by
  unfold leftX
  simp [h]
theorem prmTo_get {m k : Nat} (hk : k < (prmTo m).length) : (prmTo m).getD k 0 ∈ prmTo m := by
  have : (prmTo m).getD k 0 = (prmTo m)[k] := by simp [List.getD, hk]
  rw [this]
  exact List.getElem_mem hk
theorem prmTo_two_le {m k : Nat} (hk : k < (prmTo m).length) : 2 ≤ (prmTo m).getD k 0 := by
  obtain ⟨q, e, -, h⟩ := prmTo_mem.mp (prmTo_get hk)
  have := (prmB_says h).1.1
  omega
theorem prm_test {m : Nat} (h1 : 2 ≤ m) (h2 : m ≤ 10000) : (!prmB (m : Int)) = true ↔ ∃ k, k < (prmTo m).length ∧ (m : Int) % (prmTo m).getD k 0 = 0 := by
  constructor
  · intro h
    refine Classical.byContradiction fun hn => ?_
    have : prmB (m : Int) = true := (prm_iff h1 h2).mpr fun x hx he => by
      obtain ⟨k, hk, e⟩ := List.getElem_of_mem hx
      exact hn ⟨k, hk, by rw [show (prmTo m).getD k 0 = x by simp [List.getD, hk, e]]; exact he⟩
    rw [this] at h
    cases h
  · rintro ⟨k, hk, he⟩
    cases hp : prmB (m : Int) with
    | false => rfl
    | true => exact absurd he ((prm_iff h1 h2).mp hp _ (prmTo_get hk))
/-- The iterator's worlds, ahead of the test of m. -/
structure ItSt (J : List PrmQ → World → Prop) (B m b : Nat) (q : Option Addr) (qc : Nat) (pre : List PrmQ) (wr : World) : Prop where
  own : OwnQ B wr (.slice q (prmTo m).length qc) (prmTo m)
  box : Blk1 wr b 3 (.int .i64 m)
  ge : B ≤ b
  ne : (Value.slice q (prmTo m).length qc).ownBlock ≠ some b
  pre_ : prmV pre = prmTo m
  j : J pre wr
  sz : B ≤ wr.heap.size
theorem ItSt.kept {J : List PrmQ → World → Prop} {B m b : Nat} {q : Option Addr} {qc : Nat} {pre : List PrmQ} {wr w' : World} (h : ItSt J B m b q qc pre wr) (hk : KpX B wr w') :
    OwnQ B w' (.slice q (prmTo m).length qc) (prmTo m) ∧ Blk1 w' b 3 (.int .i64 m) ∧ B ≤ w'.heap.size :=
  ⟨h.own.move fun k e => hk.2 k (h.own.le e) (h.own.lt e), hk.at_ h.ge h.box, Nat.le_trans h.sz hk.1⟩
/-- The end of a round: a new box for the next number. -/
theorem ItSt.next {J : List PrmQ → World → Prop} {B m : Nat} {v : Value} {q : Option Addr} {qc : Nat} {pre : List PrmQ} {wr : World} (hab : AbX B J) (hv : v = .slice q (prmTo (m + 1)).length qc) (ho : OwnQ B wr v (prmTo (m + 1))) (hp : prmV pre = prmTo (m + 1)) (hj : J pre wr) (hs : B ≤ wr.heap.size) (z : Int) (hz : z = ((m + 1 : Nat) : Int)) :
    ItSt J B (m + 1) wr.heap.size q qc pre (wr.alloc (.cells #[.int .i64 z] 3)) := by
  subst hv hz
  exact ⟨ho.move fun k e => Below.heap_alloc wr _ k (ho.lt e), Blk1.at_ _ _ rfl, hs, fun e => by have := ho.lt e; omega, hp, hab.old hj _, by simp; omega⟩
set_option maxHeartbeats 4000000 in
theorem seqPrimes (n : Nat) (hn : 1 ≤ n) : SeqX Fence.wide n Try.prog 84 (fun x : PrmQ => #[Value.int .i64 (x.1 : Int)]) (fun ys => prmV ys = prmTo 10001) (fun pre => ∃ (ini : List PrmQ) (x : PrmQ), pre = ini ++ [x] ∧ prmV ini = prmTo x.1) 10001 := by
  intro l J Jx W hJ hJx hY h0
  have AJ := Lib.hid hJ
  have YY := Lib.hid hY
  clear hJ hJx hY
  have o0 : OwnQ W.heap.size (W.alloc (.cells #[] 3)) (.slice (some ⟨W.heap.size, 0, none⟩) 0 0) [] := OwnQ.none_ (Nat.le_refl _) ⟨Nat.zero_le _, [], rfl, heap_alloc_new W _⟩
  have S0 : Hid (ItSt J W.heap.size 2 (W.heap.size + 1) (some ⟨W.heap.size, 0, none⟩) 0 [] ((W.alloc (.cells #[] 3)).alloc (.cells #[.int .i64 2] 3))) := by
    refine ⟨?_, Blk1.at_ _ _ (by simp), by omega, by rw [prmTo_two]; simp [Value.ownBlock], by rw [prmTo_two]; rfl, AJ.out.old (AJ.out.old h0 _) _, by simp; omega⟩
    rw [prmTo_two]
    exact o0.move fun k e => Below.heap_alloc _ _ k (o0.lt e)
  clear o0
  refine callsIn_of_wp Try.func84 rfl trivial ?_ rfl
  simp only [Try.ntmps84, List.size_toArray, List.length_cons, List.length_nil, Nat.reduceAdd, Nat.reduceSub, Array.replicate_succ, Array.replicate_zero, List.push_toArray, List.append_toArray, List.nil_append, List.cons_append]
  gi_wp2
  gi_loopw [2, 3] (fun v2 v3 wr => ∃ (m b : Nat) (q : Option Addr) (qc : Nat) (pre : List PrmQ), v2 = .slice q (prmTo m).length qc ∧ v3 = .pointer (some ⟨b, 0, none⟩) ∧ 2 ≤ m ∧ m ≤ 10001 ∧ ItSt J W.heap.size m b q qc pre wr) (fun _ v3 wr => leftX wr v3)
  case atStart => exact ⟨2, _, _, _, [], by rw [prmTo_two]; rfl, rfl, by omega, by omega, S0.out⟩
  case round =>
    clear S0 h0
    obtain ⟨m, b, q, qc, pre, rfl, rfl, hm1, hm2, hS⟩ := hrel
    have S := Lib.hid hS
    have hc := hS.box.cell0
    have hLX := Lib.hid (leftX_at hc)
    have hL := prmTo_length m
    clear hS
    by_cases hlt : m ≤ 10000
    · have hcon := Lib.hid (iContains m b qc (prmTo m).length q (prmTo m) wr (S.out.own.own (by omega)).rdq rfl hc (by omega) (fun k hk => prmTo_two_le hk) (by omega) (!prmB (m : Int)) (prm_test hm1 hlt))
      have NX : Hid (∀ (v : Value) (q' : Option Addr) (qc' : Nat) (pre' : List PrmQ) (w' : World), v = .slice q' (prmTo (m + 1)).length qc' → OwnQ W.heap.size w' v (prmTo (m + 1)) → prmV pre' = prmTo (m + 1) → J pre' w' → W.heap.size ≤ w'.heap.size → ∀ z : Int, z = ((m + 1 : Nat) : Int) → ItSt J W.heap.size (m + 1) w'.heap.size q' qc' pre' (w'.alloc (.cells #[.int .i64 z] 3))) := fun v q' qc' pre' w' hv ho hp hj hs z hz => ItSt.next AJ.out hv ho hp hj hs z hz
      have LM : Hid (10001 - (m + 1) < 10001 - m) := by show _ < _; omega
      rcases Bool.eq_false_or_eq_true (prmB (m : Int)) with hp | hp
      · have PS : Hid (prmTo (m + 1) = prmTo m ++ [(m : Int)]) := by show _ = _; rw [prmTo_succ, if_pos hp]
        have PP : Hid (m < 10001 ∧ prmB (m : Int) = true) := ⟨by omega, hp⟩
        rw [hp] at hcon
        clear hp
        have PL : Hid (pre.length = (prmTo m).length) := by
          show _ = _
          rw [← prmV_length, S.out.pre_]
        obtain ⟨fn, tmps, assign, body, hy, hR⟩ := YY.out pre ⟨m, PP.out⟩ wr S.out.j (by rw [PL.out]; omega)
        dsimp only at hy
        gi_wp2_with (refine ⟨trivial, ?_⟩; gi_at_call 85; refine (callsIn_wide.2 hcon.out).mono ?_; rintro e w' ⟨rfl, rfl⟩)
        refine hR.mono ?_
        rintro e W3 (⟨rfl, hJ3, hk3⟩ | ⟨rfl, hJx3⟩)
        · obtain ⟨o3, b3, s3⟩ := S.out.kept hk3
          have O3 := Lib.hid o3
          have N3 := Lib.hid S.out.ne
          have B3 := Lib.hid b3
          have J3 := Lib.hid hJ3
          have hc3 := b3.cell0
          have PV : Hid (prmV (pre ++ [⟨m, PP.out⟩]) = prmTo (m + 1)) := by
            show _ = _
            rw [prmV_snoc, S.out.pre_, PS.out]
          clear hk3 o3 b3 hJ3 hR hy
          obtain ⟨fi, hfi, hz0, hz1, hz2⟩ := facts_int
          have HO : Hid ((W3.alloc (.cells #[.int .i64 m] 3)).ownsRow W.heap.size 3 1 (.slice q (prmTo m).length qc) (prmTo m).length ((prmTo m).map (Value.int .i64))) := by
            have h1 := O3.out.keep ((Below.refl _ _).alloc (Nat.le_refl _) (.cells #[.int .i64 m] 3))
            unfold OwnQ at h1
            exact h1
          gi_wp2_with (gi_at_builtin; refine wpListIn_append_own _ rfl _ _ 24 rfl W.heap.size 3 fi (.int .i64 0) 1 8 underlying_ints hfi hz0 hz1 hz2 rfl (by decide) _ _ _ rfl HO.out ⟨W3.heap.size, 0, none⟩ 1 1 [.int .i64 m] ?hx ?hl ?hnews ?h1 ?h63 ?hbytes ?hbase ?hnext)
          case hx => rfl
          case hl => rfl
          case hnews => exact cell_one_new _ _ _
          case h1 => intro v hv; simp at hv; subst hv; rfl
          case h63 => unfold maxLen; omega
          case hbytes => omega
          case hbase => simp; omega
          case hnext =>
            rintro v' w7 ho hg7 -
            have O7 : OwnQ W.heap.size w7 v' (prmTo (m + 1)) := by
              unfold OwnQ
              rw [PS.out, List.map_append, List.length_append]
              exact ho
            have b7 : Blk1 w7 b 3 (.int .i64 m) := (hg7.block b (by have := B3.out.lt; simp; omega) (fun e => N3.out e.symm)).trans ((Below.heap_alloc _ _ b B3.out.lt).trans B3.out)
            have s7 := hg7.size
            simp at s7
            have j7 : J (pre ++ [⟨m, PP.out⟩]) w7 := AJ.out _ _ _ _ (AJ.out.old J3.out _) hg7 (fun r e => O3.out.le e)
            obtain ⟨q', qc', hv'⟩ := O7.form
            have hc7 := b7.cell0
            have N7 := Lib.hid (NX.out v' q' qc' _ w7 hv' O7 PV.out j7 (by omega))
            subst hv'
            clear O7 ho hg7 b7 j7
            have ez : (m : Int) + 1 = ((m + 1 : Nat) : Int) := by omega
            have N8 := Lib.hid (N7.out ((m : Int) + 1) ez)
            clear ez
            gi_wp2
            go_roundw
            case rel => exact ⟨m + 1, _, q', qc', _, rfl, rfl, by omega, by omega, N8.out⟩
            case measure =>
              rw [hLX.out, leftX_at N8.out.box.cell0]
              exact LM.out
        · gi_wp2
          refine bodyPost_ret (results_none rfl _ _ _) rfl ?_
          exact ⟨⟨_, rfl⟩, .inr ⟨_, ⟨pre, ⟨m, PP.out⟩, rfl, S.out.pre_⟩, hJx3⟩⟩
      · have PS : Hid (prmTo (m + 1) = prmTo m) := by show _ = _; rw [prmTo_succ, if_neg (by rw [hp]; decide)]
        rw [hp] at hcon
        clear hp
        gi_wp2_with (refine ⟨trivial, ?_⟩; gi_at_call 85; refine (callsIn_wide.2 hcon.out).mono ?_; rintro e w' ⟨rfl, rfl⟩)
        have ez : (m : Int) + 1 = ((m + 1 : Nat) : Int) := by omega
        have N8 := Lib.hid (NX.out (.slice q (prmTo m).length qc) q qc pre wr (by rw [PS.out]) (by rw [PS.out]; exact S.out.own) (by rw [PS.out]; exact S.out.pre_) S.out.j S.out.sz ((m : Int) + 1) ez)
        clear ez
        go_roundw
        case rel => exact ⟨m + 1, _, q, qc, pre, by rw [PS.out], rfl, by omega, by omega, N8.out⟩
        case measure =>
          rw [hLX.out, leftX_at N8.out.box.cell0]
          exact LM.out
    · obtain rfl : m = 10001 := by omega
      gi_wp2
      go_end0
      exact ⟨⟨_, rfl⟩, .inl ⟨pre, S.out.pre_, S.out.j⟩⟩
/-- primes(). -/
theorem iPrimes (w : World) : Calls Try.prog 55 #[] w fun e w' => e = .returned (.func (.func 84) #[] #[]) ∧ w = w' := by
  go_enter Try.func55, Try.ntmps55
  go_wp2_with fail
  go_ret
  exact ⟨rfl, rfl⟩
/-- What holds of the worlds between two rounds of IsPrime's loop. -/
def prI (w : World) (p : Int) (pre : List PrmQ) (W : World) : Prop := (∀ x ∈ pre, (x.1 : Int) * (x.1 : Int) ≤ p ∧ p % (x.1 : Int) ≠ 0) ∧ Blk1 W w.heap.size 3 (.int .i64 p) ∧ Blk1 W (w.heap.size + 1) 4 (.bool false) ∧ Below w.heap.size w W
/-- .. and where it is left. -/
def prX (w : World) (p : Int) (c : Code) (pre : List PrmQ) (W : World) : Prop :=
  (∃ (ini : List PrmQ) (x : PrmQ), pre = ini ++ [x] ∧ (∀ y ∈ ini, p % (y.1 : Int) ≠ 0) ∧ ((c = .exit 0 ∧ p < (x.1 : Int) * (x.1 : Int)) ∨ (c = .ret ∧ (x.1 : Int) * (x.1 : Int) ≤ p ∧ p % (x.1 : Int) = 0))) ∧ Blk1 W (w.heap.size + 1) 4 (.bool false) ∧ Below w.heap.size w W
theorem prI.ab (w : World) (p : Int) : AbX (w.heap.size + 2) (prI w p) := fun s A B row hs hg hr => by
  obtain ⟨h1, h2, h3, h4⟩ := hs
  exact ⟨h1, (hg.block _ h2.lt (fun e => by have := hr _ e.symm; omega)).trans h2, (hg.block _ h3.lt (fun e => by have := hr _ e.symm; omega)).trans h3, h4.grown hg h4.size (fun k e => by have := hr _ e; omega)⟩
theorem prX.ab (w : World) (p : Int) (c : Code) : AbX (w.heap.size + 2) (prX w p c) := fun s A B row hs hg hr => by
  obtain ⟨h1, h3, h4⟩ := hs
  exact ⟨h1, (hg.block _ h3.lt (fun e => by have := hr _ e.symm; omega)).trans h3, h4.grown hg h4.size (fun k e => by have := hr _ e; omega)⟩
/-- All primes up to the limit have been tried. -/
theorem prm_done {p : Int} {ys : List PrmQ} (h1 : 2 ≤ p) (h2 : p ≤ 10000) (hS : prmV ys = prmTo 10001) (h : ∀ x ∈ ys, (x.1 : Int) * (x.1 : Int) ≤ p ∧ p % (x.1 : Int) ≠ 0) : prmB p = true := by
  cases hp : prmB p with
  | true => rfl
  | false =>
    obtain ⟨q, hq, hqp, -, he⟩ := not_prm h1 h2 hp
    have : (q : Int) ∈ prmV ys := by rw [hS]; exact prmTo_mem.mpr ⟨q, rfl, hq, hqp⟩
    obtain ⟨x, hx, e⟩ := List.mem_map.mp this
    rw [← e] at he
    exact absurd he (h x hx).2
/-- The loop has been left: at a prime whose square is beyond p. -/
theorem prm_broke {p : Int} {ini : List PrmQ} {x : PrmQ} (h1 : 2 ≤ p) (h2 : p ≤ 10000) (hS : prmV ini = prmTo x.1) (h : ∀ y ∈ ini, p % (y.1 : Int) ≠ 0) (hx : p < (x.1 : Int) * (x.1 : Int)) : prmB p = true := by
  cases hp : prmB p with
  | true => rfl
  | false =>
    obtain ⟨q, hq, hqp, hqq, he⟩ := not_prm h1 h2 hp
    rcases Nat.lt_or_ge q x.1 with h3 | h3
    · have : (q : Int) ∈ prmV ini := by rw [hS]; exact prmTo_mem.mpr ⟨q, rfl, h3, hqp⟩
      obtain ⟨y, hy, e⟩ := List.mem_map.mp this
      rw [← e] at he
      exact absurd he (h y hy)
    · have h4 : x.1 * x.1 ≤ q * q := Nat.mul_le_mul h3 h3
      have h5 : ((x.1 * x.1 : Nat) : Int) ≤ ((q * q : Nat) : Int) := Int.ofNat_le.mpr h4
      rw [Int.natCast_mul, Int.natCast_mul] at h5
      omega
theorem prm_hit {p : Int} {x : PrmQ} (hx : (x.1 : Int) * (x.1 : Int) ≤ p) (he : p % (x.1 : Int) = 0) : prmB p = false :=
  prmB_div (d := x.1) (by have := (prmB_says x.2.2).1.1; omega) hx (Int.dvd_of_emod_eq_zero he)
theorem put_blk {W : World} {b D : Nat} {t : TypeId} {v : Value} (h : Blk1 W b t v) (hne : b ≠ D) (o : Obj) : Blk1 (W.putObj D o) b t v := (World.putObj_heap_other hne).trans h
set_option maxHeartbeats 2000000 in
theorem iPrime_in (p : Int) (w : World) (h1 : 2 ≤ p) (h2 : p ≤ 10000) : Calls Try.prog 101 #[.int .i64 p] w fun e w' => e = .returned (.bool (prmB p)) ∧ Below w.heap.size w w' := by
  have HT := Lib.hid (fun ys (hS : prmV ys = prmTo 10001) (h : ∀ x ∈ ys, (x.1 : Int) * (x.1 : Int) ≤ p ∧ p % (x.1 : Int) ≠ 0) => prm_done h1 h2 hS h)
  have HB := Lib.hid (fun (ini : List PrmQ) (x : PrmQ) (hS : prmV ini = prmTo x.1) (h : ∀ y ∈ ini, p % (y.1 : Int) ≠ 0) (hx : p < (x.1 : Int) * (x.1 : Int)) => prm_broke h1 h2 hS h hx)
  have HF := Lib.hid (fun (x : PrmQ) (hx : (x.1 : Int) * (x.1 : Int) ≤ p) (he : p % (x.1 : Int) = 0) => prm_hit hx he)
  generalize prmB p = bp at HT HB HF ⊢
  refine (callsIn_wide (n := 4)).1 ?_
  refine callsIn_of_wp_marks Try.func101 rfl trivial ?_ rfl
  simp only [Try.ntmps101, List.size_toArray, List.length_cons, List.length_nil, Nat.reduceAdd, Nat.reduceSub, Array.replicate_succ, Array.replicate_zero, List.push_toArray, List.append_toArray, List.nil_append, List.cons_append]
  gi_wp2_with (refine ⟨trivial, ?_⟩; gi_at_call 55; refine (callsIn_wide.2 (iPrimes _)).mono ?_; rintro e w' ⟨rfl, rfl⟩)
  have k0 : Blk1 ((w.alloc (.cells #[.int .i64 p] 3)).alloc (.cells #[.bool false] 4)) w.heap.size 3 (.int .i64 p) := (Blk1.at_ _ _ rfl).old _
  have k1 : Blk1 ((w.alloc (.cells #[.int .i64 p] 3)).alloc (.cells #[.bool false] 4)) (w.heap.size + 1) 4 (.bool false) := Blk1.at_ _ _ (by simp)
  have B0 : Below w.heap.size w ((w.alloc (.cells #[.int .i64 p] 3)).alloc (.cells #[.bool false] 4)) := ((Below.refl _ w).alloc (Nat.le_refl _) _).alloc (by simp) _
  have SZ : ((w.alloc (.cells #[.int .i64 p] 3)).alloc (.cells #[.bool false] 4)).heap.size = w.heap.size + 2 := by simp
  generalize (w.alloc (.cells #[.int .i64 p] 3)).alloc (.cells #[.bool false] 4) = W0 at k0 k1 B0 SZ ⊢
  refine wpIn_rangeX (F := Fence.wide) rfl (by omega) (gf := 84) rfl trivial (enters_of Try.func84 (by kernel_rfl) rfl) (seqPrimes 3 (by omega)) (fun _ => rfl) (prI w p) (prX w p) (by rw [SZ]; exact prI.ab w p) (fun c => by rw [SZ]; exact prX.ab w p c) ⟨by simp, k0, k1, B0⟩
    (fun x => { tmps := #[.int .i64 p, .pointer (some ⟨w.heap.size, 0, none⟩), .pointer (some ⟨w.heap.size + 1, 0, none⟩), .int .i64 (x.1 : Int), .int .i64 p, .bool (decide (p < 2)), .bool (decide (p < 2)), .int .i64 p, .bool (decide (10000 < p)), .bool (decide (p < 2) || decide (10000 < p)), .func (.func 84) #[] #[], .int .i64 (x.1 : Int), undef, undef, undef, undef, undef, undef, undef, undef, undef], defers := [] }) ?assign ?body ?done ?stop
  case assign =>
    intro l x W K hK
    gi_wp2
    exact hK
  case body =>
    rintro l pre x W ⟨hp, hb1, hb2, hB⟩ _
    have HP := Lib.hid hp
    have B2 := Lib.hid hb2
    have BB := Lib.hid hB
    have hc := hb1.cell0
    have hc2 := hb2.cell0
    have hf2 := hb2.free 0
    have x1 := (prmB_says x.2.2).1.1
    have x2 := x.2.1
    obtain ⟨d, hd⟩ : ∃ d : Nat, x.1 = d := ⟨_, rfl⟩
    have D := Lib.hid hd
    rw [hd] at x1 x2
    clear hp hB
    have q0 : (d : Int) * (d : Int) = ((d * d : Nat) : Int) := (Int.natCast_mul _ _).symm
    have q1 : d * d ≤ 10001 * 10001 := Nat.mul_le_mul (by omega) (by omega)
    have w1 : IntKind.i64.wrap ((d : Int) * (d : Int)) = (d : Int) * (d : Int) := IntWalk.i64_in _ (by rw [q0]; omega)
    obtain ⟨q, hq⟩ : ∃ q : Int, (d : Int) * (d : Int) = q := ⟨_, rfl⟩
    have HQ := Lib.hid hq
    rw [hq] at w1
    have w1 : IntKind.i64.wrap ((d : Int) * (d : Int)) = q := by rw [hq]; exact w1
    have n0 : ((d : Int) == 0) = false := by simp; omega
    rw [hd]
    clear q0 q1 hq hd
    by_cases h3 : p < q
    · have X : Hid (p < (x.1 : Int) * (x.1 : Int)) := by show _ < _; rw [D.out, HQ.out]; exact h3
      gi_wp2
      exact ⟨KpX.refl _ _, ⟨pre, x, rfl, fun y hy => (HP.out y hy).2, .inl ⟨rfl, X.out⟩⟩, B2.out, BB.out⟩
    · have X : Hid ((x.1 : Int) * (x.1 : Int) ≤ p) := by show _ ≤ _; rw [D.out, HQ.out]; omega
      by_cases h4 : p % (d : Int) = 0
      · have n1 : (p % (d : Int) == 0) = true := by simp [h4]
        have Y : Hid (p % (x.1 : Int) = 0) := by show _ = _; rw [D.out]; exact h4
        clear h4
        gi_wp2
        exact ⟨KpX.set W (by show w.heap.size + 1 < w.heap.size + 2; omega) _, ⟨pre, x, rfl, fun y hy => (HP.out y hy).2, .inr ⟨rfl, X.out, Y.out⟩⟩, B2.out.set0 _, BB.out.setCell (by simp) _⟩
      · have n1 : (p % (d : Int) == 0) = false := by simpa using h4
        have Y : Hid (p % (x.1 : Int) ≠ 0) := by show _ ≠ _; rw [D.out]; exact h4
        clear h4
        gi_wp2
        exact ⟨KpX.refl _ _, fun y hy => (List.mem_append.1 hy).elim (HP.out y) (fun e => by simp at e; subst e; exact ⟨X.out, Y.out⟩), hb1, B2.out, BB.out⟩
  case done =>
    rintro ys W hS ⟨hp, hb1, hb2, hB⟩ hK
    have HR : Hid (bp = true) := HT.out ys hS hp
    have b3 := hb2.set0 (.bool true)
    have hK' : (W.setCell ⟨w.heap.size + 1, 0, none⟩ (.bool true)).heap[W0.heap.size]? = some (.deferred (some [])) := (Below.heap_setCell W ⟨w.heap.size + 1, 0, none⟩ (.bool true) _ (by show W0.heap.size ≠ w.heap.size + 1; omega)).trans hK
    have hc := hb2.cell0
    have hf := hb2.free 0
    clear hp HT HB HF
    gi_wp2
    refine ⟨by simp, .inl ⟨_, _, rfl, run_takeDeferred hK', ?_⟩⟩
    have hc5 := (put_blk b3 (D := W0.heap.size) (by omega) (.deferred none)).cell0
    refine ⟨.bool true, by simp [results, Try.f101, go_sem, hc5], by rw [HR.out], ?_⟩
    exact (hB.setCell (p := ⟨w.heap.size + 1, 0, none⟩) (by simp) _).grown (grownBy_putObj' _ _ _) (by have := hB.size; simp [World.setCell]; omega) (fun k e => by cases e; omega)
  case stop =>
    rintro c pre W ⟨ini, x, e, hS⟩ ⟨⟨ini', x', e', hi, hx⟩, hb2, hB⟩ hK
    rw [e] at e'
    obtain ⟨rfl, e5⟩ := List.append_inj' e' rfl
    obtain rfl : x = x' := by simpa using e5
    have hc := hb2.cell0
    have hf := hb2.free 0
    rcases hx with ⟨rfl, hx⟩ | ⟨rfl, hx1, hx2⟩
    · have HR : Hid (bp = true) := HB.out _ x hS hi hx
      have b3 := hb2.set0 (.bool true)
      have hK' : (W.setCell ⟨w.heap.size + 1, 0, none⟩ (.bool true)).heap[W0.heap.size]? = some (.deferred (some [])) := (Below.heap_setCell W ⟨w.heap.size + 1, 0, none⟩ (.bool true) _ (by show W0.heap.size ≠ w.heap.size + 1; omega)).trans hK
      clear hi hx HT HB HF e5 e' e
      gi_wp2
      refine ⟨by simp, .inl ⟨_, _, rfl, run_takeDeferred hK', ?_⟩⟩
      have hc5 := (put_blk b3 (D := W0.heap.size) (by omega) (.deferred none)).cell0
      refine ⟨.bool true, by simp [results, Try.f101, go_sem, hc5], by rw [HR.out], ?_⟩
      exact (hB.setCell (p := ⟨w.heap.size + 1, 0, none⟩) (by simp) _).grown (grownBy_putObj' _ _ _) (by have := hB.size; simp [World.setCell]; omega) (fun k e => by cases e; omega)
    · have HR : Hid (bp = false) := HF.out x hx1 hx2
      clear hi hx1 hx2 HT HB HF e5 e' e
      gi_wp2
      refine ⟨by simp, .inl ⟨_, _, rfl, run_takeDeferred hK, ?_⟩⟩
      have hc5 := (put_blk hb2 (D := W0.heap.size) (by omega) (.deferred none)).cell0
      refine ⟨.bool false, by simp [results, Try.f101, go_sem, hc5], by rw [HR.out], ?_⟩
      exact hB.grown (grownBy_putObj' _ _ _) hB.size (fun k e => by cases e; omega)
theorem iPrime (p : Int) (w : World) : Calls Try.prog 101 #[.int .i64 p] w fun e w' => e = .returned (.bool (prmB p)) ∧ Below w.heap.size w w' := by
  by_cases h : 2 ≤ p ∧ p ≤ 10000
  · exact iPrime_in p w h.1 h.2
  · have E : Hid (prmB p = false) := prmB_out (by omega)
    have h' : p < 2 ∨ 10000 < p := by omega
    have B0 : Hid (Below w.heap.size w ((w.alloc (.cells #[.int .i64 p] 3)).alloc (.cells #[.bool false] 4))) := ((Below.refl _ w).alloc (Nat.le_refl _) _).alloc (by simp) _
    clear h
    rw [E.out]
    go_enter Try.func101, Try.ntmps101
    have hc : Hid (((w.alloc (.cells #[.int .i64 p] 3)).alloc (.cells #[.bool false] 4)).cell? ⟨w.heap.size + 1, 0, none⟩ = some (.bool false)) := (Blk1.at_ (w := w.alloc (.cells #[.int .i64 p] 3)) (b := w.heap.size + 1) 4 (.bool false) (by simp)).cell0
    rcases h' with h1 | h1
    · go_wp2_with fail
      have hc := hc.out
      exact bodyPost_ret (v := .bool false) (by simp [results, Try.results101, go_sem, hc]) rfl ⟨rfl, B0.out⟩
    · by_cases h2 : p < 2
      · omega
      · go_wp2_with fail
        have hc := hc.out
        exact bodyPost_ret (v := .bool false) (by simp [results, Try.results101, go_sem, hc]) rfl ⟨rfl, B0.out⟩
end Go.Proofs.Ytgemkfcapkfdbaa
end

section
/-
  Chapter 9, in the program: what DeterminantByImages' loop knows of memory.
-/
namespace Go.Proofs.Ytgemkfcapkfdbaa
open Go.RowKit

theorem row_move {w w' : World} {B n : Nat} {v : Value} {xs : List Value} (h : w.ownsRow B 3 1 v n xs) (hb : ∀ k, v.ownBlock = some k → w'.heap[k]? = w.heap[k]?) : w'.ownsRow B 3 1 v n xs := by
  obtain ⟨h1, ⟨h2, h3⟩ | ⟨g, cap, cur, rfl, hB, hg, rest⟩⟩ := h
  · exact ⟨h1, .inl ⟨h2, h3⟩⟩
  · exact ⟨h1, .inr ⟨g, cap, cur, rfl, hB, (hb g rfl).trans hg, rest⟩⟩
theorem TwoL.move {B : Nat} {w w' : World} {v1 v2 : Value} {l1 l2 : List Int} (h : TwoL B w v1 v2 l1 l2) (h1 : ∀ k, v1.ownBlock = some k → w'.heap[k]? = w.heap[k]?) (h2 : ∀ k, v2.ownBlock = some k → w'.heap[k]? = w.heap[k]?) : TwoL B w' v1 v2 l1 l2 := ⟨row_move h.r1 h1, row_move h.r2 h2, h.ne⟩
/-- The boxes, the lists and the matrix, between two rounds; M: the blocks that the rounds have laid for the lists. -/
structure ImJ (w : World) (n N : Nat) (a : Option Addr) (m B : Nat) (b D : Int) (k : Nat) (v6 v7 : Value) (M : Nat → Prop) (W : World) : Prop where
  bnd : Blk1 W B 3 (.int .i64 b)
  im : Blk1 W (B + 3) 24 v6
  mo : Blk1 W (B + 4) 24 v7
  pr : Blk1 W (B + 5) 3 (.int .i64 (pq9 k))
  mat : Blk3 W w.heap.size 34 (.int .i64 n) (.int .i64 n) (.slice a N m)
  bel : Below w.heap.size w W
  two : TwoL (B + 1) W v6 v7 (re9 D k) (mo9 k)
  o6 : ∀ g, v6.ownBlock = some g → g < B + 3 ∨ M g
  o7 : ∀ g, v7.ownBlock = some g → g < B + 3 ∨ M g
  lt : w.heap.size < B
theorem ImJ.ab {w : World} {n N : Nat} {a : Option Addr} {m B : Nat} {b D : Int} {k : Nat} {v6 v7 : Value} {M : Nat → Prop} {W W' : World} {row : Option Nat} (h : ImJ w n N a m B b D k v6 v7 M W) (hg : W.grownBy W' row) (hr : ∀ r, row = some r → B + 6 ≤ r ∧ ¬ M r) : ImJ w n N a m B b D k v6 v7 M W' := by
  have keep : ∀ g, g < W.heap.size → g < B + 6 ∨ M g → W'.heap[g]? = W.heap[g]? := fun g hl h1 => hg.block g hl (fun e => by
    obtain ⟨r1, r2⟩ := hr g e.symm
    rcases h1 with h1 | h1
    · omega
    · exact r2 h1)
  have low := h.lt
  refine ⟨(keep _ h.bnd.lt (.inl (by omega))).trans h.bnd, (keep _ h.im.lt (.inl (by omega))).trans h.im, (keep _ h.mo.lt (.inl (by omega))).trans h.mo, (keep _ h.pr.lt (.inl (by omega))).trans h.pr, (keep _ h.mat.lt (.inl (by omega))).trans h.mat, ?_, h.two.move (fun g hg' => keep g (h.two.r1.lt g hg').2 ((h.o6 g hg').imp (fun h1 => by omega) id)) (fun g hg' => keep g (h.two.r2.lt g hg').2 ((h.o7 g hg').imp (fun h1 => by omega) id)), h.o6, h.o7, h.lt⟩
  exact h.bel.grown hg h.bel.size (fun r e => by have := hr r e; omega)
/-- Where a round's two appends are: W the world at their beginning, v6 v7 the lists there. -/
structure Rg10 (E c6 c7 : Nat) (v6 v7 : Value) (W : World) (u6 u7 : Value) (l6 l7 : List Int) (W' : World) : Prop where
  os : W'.os = W.os
  tape : W'.tape = W.tape
  output : W'.output = W.output
  size : W.heap.size ≤ W'.heap.size
  blk : ∀ g, g < W.heap.size → v6.ownBlock ≠ some g → v7.ownBlock ≠ some g → g ≠ c6 → g ≠ c7 → W'.heap[g]? = W.heap[g]?
  two : TwoL E W' u6 u7 l6 l7
  o6 : u6.ownBlock = v6.ownBlock ∨ ∃ g, u6.ownBlock = some g ∧ W.heap.size ≤ g
  o7 : u7.ownBlock = v7.ownBlock ∨ ∃ g, u7.ownBlock = some g ∧ W.heap.size ≤ g
  far : ∀ g, v6.ownBlock = some g ∨ v7.ownBlock = some g → g ≠ c6 ∧ g ≠ c7
  cs : c6 < W.heap.size ∧ c7 < W.heap.size
theorem Rg10.start {E c6 c7 : Nat} {v6 v7 : Value} {W : World} {l6 l7 : List Int} (h : TwoL E W v6 v7 l6 l7) (hf : ∀ g, v6.ownBlock = some g ∨ v7.ownBlock = some g → g ≠ c6 ∧ g ≠ c7) (hc : c6 < W.heap.size ∧ c7 < W.heap.size) : Rg10 E c6 c7 v6 v7 W v6 v7 l6 l7 W.drew :=
  ⟨rfl, rfl, rfl, Nat.le_refl _, fun _ _ _ _ _ _ => rfl, ⟨h.r1, h.r2, h.ne⟩, .inl rfl, .inl rfl, hf, hc⟩
theorem Rg10.alloc {E c6 c7 : Nat} {v6 v7 u6 u7 : Value} {W W' : World} {l6 l7 : List Int} (h : Rg10 E c6 c7 v6 v7 W u6 u7 l6 l7 W') (o : Obj) : Rg10 E c6 c7 v6 v7 W u6 u7 l6 l7 (W'.alloc o) :=
  ⟨h.os, h.tape, h.output, by have := h.size; simp; omega, fun g h1 h2 h3 h4 h5 => (Below.heap_alloc _ _ g (by have := h.size; omega)).trans (h.blk g h1 h2 h3 h4 h5), h.two.alloc o, h.o6, h.o7, h.far, h.cs⟩
theorem Rg10.app6 {E c6 c7 : Nat} {v6 v7 u6 u7 u6' : Value} {W W' W2 : World} {l6 l7 : List Int} {x : Int} (h : Rg10 E c6 c7 v6 v7 W u6 u7 l6 l7 W') (ho : W2.ownsRow E 3 1 u6' (l6.length + 1) (l6.map (Value.int .i64) ++ [.int .i64 x])) (hg : W'.grownBy W2 u6.ownBlock) (hor : u6'.ownBlock = u6.ownBlock ∨ u6'.ownBlock = some W'.heap.size) : Rg10 E c6 c7 v6 v7 W u6' u7 (l6 ++ [x]) l7 W2 := by
  have sz := h.size
  refine ⟨hg.os.trans h.os, hg.tape.trans h.tape, hg.output.trans h.output, Nat.le_trans h.size hg.size, fun g h1 h2 h3 h4 h5 => (hg.block g (by omega) (fun e => ?_)).trans (h.blk g h1 h2 h3 h4 h5), h.two.app1 ho hg hor, ?_, h.o7, h.far, h.cs⟩
  · rcases h.o6 with e2 | ⟨g', e2, h6⟩
    · exact h2 (e2.symm.trans e.symm)
    · rw [e2] at e
      injection e with e
      omega
  · rcases hor with e | e
    · rw [e]; exact h.o6
    · exact .inr ⟨_, e, sz⟩
theorem Rg10.app7 {E c6 c7 : Nat} {v6 v7 u6 u7 u7' : Value} {W W' W2 : World} {l6 l7 : List Int} {x : Int} (h : Rg10 E c6 c7 v6 v7 W u6 u7 l6 l7 W') (ho : W2.ownsRow E 3 1 u7' (l7.length + 1) (l7.map (Value.int .i64) ++ [.int .i64 x])) (hg : W'.grownBy W2 u7.ownBlock) (hor : u7'.ownBlock = u7.ownBlock ∨ u7'.ownBlock = some W'.heap.size) : Rg10 E c6 c7 v6 v7 W u6 u7' l6 (l7 ++ [x]) W2 := by
  have sz := h.size
  refine ⟨hg.os.trans h.os, hg.tape.trans h.tape, hg.output.trans h.output, Nat.le_trans h.size hg.size, fun g h1 h2 h3 h4 h5 => (hg.block g (by omega) (fun e => ?_)).trans (h.blk g h1 h2 h3 h4 h5), (h.two.swap.app1 ho hg hor).swap, h.o6, ?_, h.far, h.cs⟩
  · rcases h.o7 with e2 | ⟨g', e2, h6⟩
    · exact h3 (e2.symm.trans e.symm)
    · rw [e2] at e
      injection e with e
      omega
  · rcases hor with e | e
    · rw [e]; exact h.o7
    · exact .inr ⟨_, e, sz⟩
theorem Rg10.apart {E c6 c7 : Nat} {v6 v7 u6 u7 : Value} {W W' : World} {l6 l7 : List Int} (h : Rg10 E c6 c7 v6 v7 W u6 u7 l6 l7 W') {g : Nat} (hg : u6.ownBlock = some g ∨ u7.ownBlock = some g) : g ≠ c6 ∧ g ≠ c7 := by
  obtain ⟨s1, s2⟩ := h.cs
  rcases hg with hg | hg
  · rcases h.o6 with e | ⟨g', e, h6⟩
    · exact h.far g (.inl (e.symm.trans hg))
    · rw [e] at hg; injection hg with hg; omega
  · rcases h.o7 with e | ⟨g', e, h6⟩
    · exact h.far g (.inr (e.symm.trans hg))
    · rw [e] at hg; injection hg with hg; omega
theorem Rg10.box {E c6 c7 : Nat} {v6 v7 u6 u7 : Value} {W W' : World} {l6 l7 : List Int} (h : Rg10 E c6 c7 v6 v7 W u6 u7 l6 l7 W') {c : Nat} (hc : c = c6 ∨ c = c7) (u : Value) : Rg10 E c6 c7 v6 v7 W u6 u7 l6 l7 (W'.setCell ⟨c, 0, none⟩ u) := by
  have far : ∀ g, u6.ownBlock = some g ∨ u7.ownBlock = some g → g ≠ c := fun g hg => by have := h.apart hg; omega
  refine ⟨h.os, h.tape, h.output, by simpa [World.setCell] using h.size, fun g h1 h2 h3 h4 h5 => (Below.heap_setCell W' ⟨c, 0, none⟩ u g (by show g ≠ c; omega)).trans (h.blk g h1 h2 h3 h4 h5), h.two.move (fun g hg => Below.heap_setCell W' ⟨c, 0, none⟩ u g (far g (.inl hg))) (fun g hg => Below.heap_setCell W' ⟨c, 0, none⟩ u g (far g (.inr hg))), h.o6, h.o7, h.far, h.cs⟩
/-- The end of a round. -/
theorem ImJ.next {w : World} {n N : Nat} {a : Option Addr} {m B : Nat} {b D : Int} {k : Nat} {v6 v7 u6 u7 : Value} {M : Nat → Prop} {W W1 W2 : World} {P : Int}
    (h : ImJ w n N a m B b D k v6 v7 M W) (hb : Below W.heap.size W W1) (hM : ∀ g, M g → B + 8 ≤ g ∧ g < W.heap.size) (hr : Rg10 (B + 1) (B + 3) (B + 4) v6 v7 W1 u6 u7 (re9 D (k + 1)) (mo9 (k + 1)) W2) (c6 : Blk1 W2 (B + 3) 24 u6) (c7 : Blk1 W2 (B + 4) 24 u7) (hP : P = pq9 (k + 1)) :
    Blk1 W2 (B + 5) 3 (.int .i64 (pq9 k)) ∧ (W2.heap[B + 5]? = W.heap[B + 5]?) ∧ ∃ M', KpY (B + 6) M M' W (W2.setCell ⟨B + 5, 0, none⟩ (.int .i64 P)) ∧ ImJ w n N a m B b D (k + 1) u6 u7 M' (W2.setCell ⟨B + 5, 0, none⟩ (.int .i64 P)) := by
  subst hP
  have s1 := hb.size
  have s2 := hr.size
  have low := h.lt
  have same : ∀ g, g < W.heap.size → v6.ownBlock ≠ some g → v7.ownBlock ≠ some g → g ≠ B + 3 → g ≠ B + 4 → W2.heap[g]? = W.heap[g]? := fun g h1 h2 h3 h4 h5 => (hr.blk g (by omega) h2 h3 h4 h5).trans (hb.block g h1)
  have n6 : ∀ g, (g = B ∨ (B + 5 ≤ g ∧ ¬ M g) ∨ g = w.heap.size) → v6.ownBlock ≠ some g := fun g hg e => by
    have h1 := h.o6 g e
    have h2 := (h.two.r1.lt g e).1
    rcases hg with hg | ⟨hg, hg2⟩ | hg
    · omega
    · rcases h1 with h1 | h1
      · omega
      · exact hg2 h1
    · omega
  have n7 : ∀ g, (g = B ∨ (B + 5 ≤ g ∧ ¬ M g) ∨ g = w.heap.size) → v7.ownBlock ≠ some g := fun g hg e => by
    have h1 := h.o7 g e
    have h2 := (h.two.r2.lt g e).1
    rcases hg with hg | ⟨hg, hg2⟩ | hg
    · omega
    · rcases h1 with h1 | h1
      · omega
      · exact hg2 h1
    · omega
  have nM : ∀ g, g < B + 8 → ¬ M g := fun g hg hm => by have := hM g hm; omega
  have e5 := same (B + 5) h.pr.lt (n6 _ (.inr (.inl ⟨by omega, nM _ (by omega)⟩))) (n7 _ (.inr (.inl ⟨by omega, nM _ (by omega)⟩))) (by omega) (by omega)
  have p5 : Blk1 W2 (B + 5) 3 (.int .i64 (pq9 k)) := e5.trans h.pr
  refine ⟨p5, e5, fun g => M g ∨ ((u6.ownBlock = some g ∨ u7.ownBlock = some g) ∧ W.heap.size ≤ g), ⟨?_, fun g h1 h2 h3 => ?_, fun g hg => ?_⟩, ?_⟩
  · simp [World.setCell]; omega
  · exact (Below.heap_setCell W2 ⟨B + 5, 0, none⟩ _ g (by show g ≠ B + 5; omega)).trans (same g h2 (n6 g (.inr (.inl ⟨by omega, h3⟩))) (n7 g (.inr (.inl ⟨by omega, h3⟩))) (by omega) (by omega))
  · have z : (W2.setCell ⟨B + 5, 0, none⟩ (.int .i64 (pq9 (k + 1)))).heap.size = W2.heap.size := by simp [World.setCell]
    rw [z]
    rcases hg with hg | ⟨hg | hg, h1⟩
    · exact ⟨.inl hg, by have := hM g hg; omega⟩
    · exact ⟨.inr h1, (hr.two.r1.lt g hg).2⟩
    · exact ⟨.inr h1, (hr.two.r2.lt g hg).2⟩
  · have a6 : ∀ g, u6.ownBlock = some g → g < B + 3 ∨ (M g ∨ ((u6.ownBlock = some g ∨ u7.ownBlock = some g) ∧ W.heap.size ≤ g)) := fun g hg => by
      rcases hr.o6 with e | ⟨g', e, h6⟩
      · exact (h.o6 g (e.symm.trans hg)).imp id .inl
      · rw [e] at hg; injection hg with hg; exact .inr (.inr ⟨.inl (by rw [e, hg]), by omega⟩)
    have a7 : ∀ g, u7.ownBlock = some g → g < B + 3 ∨ (M g ∨ ((u6.ownBlock = some g ∨ u7.ownBlock = some g) ∧ W.heap.size ≤ g)) := fun g hg => by
      rcases hr.o7 with e | ⟨g', e, h6⟩
      · exact (h.o7 g (e.symm.trans hg)).imp id .inl
      · rw [e] at hg; injection hg with hg; exact .inr (.inr ⟨.inr (by rw [e, hg]), by omega⟩)
    have p6 : ∀ g, u6.ownBlock = some g → g ≠ B + 5 := fun g hg e => by
      have h5 := h.pr.lt
      rcases a6 g hg with h1 | h1 | h1
      · omega
      · have := hM g h1; omega
      · omega
    have p7 : ∀ g, u7.ownBlock = some g → g ≠ B + 5 := fun g hg e => by
      have h5 := h.pr.lt
      rcases a7 g hg with h1 | h1 | h1
      · omega
      · have := hM g h1; omega
      · omega
    have b0 : Blk1 W2 B 3 (.int .i64 b) := (same B h.bnd.lt (n6 _ (.inl rfl)) (n7 _ (.inl rfl)) (by omega) (by omega)).trans h.bnd
    have m0 : Blk3 W2 w.heap.size 34 (.int .i64 n) (.int .i64 n) (.slice a N m) := (same _ h.mat.lt (n6 _ (.inr (.inr rfl))) (n7 _ (.inr (.inr rfl))) (by omega) (by omega)).trans h.mat
    refine ⟨b0.far (by show B ≠ B + 5; omega) _, c6.far (by show B + 3 ≠ B + 5; omega) _, c7.far (by show B + 4 ≠ B + 5; omega) _, p5.set0 _, m0.far (by show w.heap.size ≠ B + 5; omega) _, ?_, hr.two.move (fun g hg => Below.heap_setCell W2 ⟨B + 5, 0, none⟩ _ g (p6 g hg)) (fun g hg => Below.heap_setCell W2 ⟨B + 5, 0, none⟩ _ g (p7 g hg)), a6, a7, h.lt⟩
    have bw : Below w.heap.size w W1 := h.bel.trans (hb.mono h.bel.size)
    refine Below.setCell ⟨hr.os.trans bw.os, hr.tape.trans bw.tape, hr.output.trans bw.output, Nat.le_trans bw.size hr.size, fun g hg => ?_⟩ (by show w.heap.size ≤ B + 5; omega) _
    exact (hr.blk g (by have := bw.size; omega) (fun e => by have := (h.two.r1.lt g e).1; omega) (fun e => by have := (h.two.r2.lt g e).1; omega) (by omega) (by omega)).trans (bw.block g hg)
end Go.Proofs.Ytgemkfcapkfdbaa
end

section
/-
  Chapter 8, in the program: the iterator over primes, for loops whose bodies keep blocks of their own.
-/
namespace Go.Proofs.Ytgemkfcapkfdbaa
set_option maxRecDepth 100000
open Go.RowKit Go.Shelf

attribute [local go_sem] Oper.semAt_some

/-- The iterator's worlds, ahead of the test of m. -/
structure ItSY (J : List PrmQ → (Nat → Prop) → World → Prop) (B m b : Nat) (q : Option Addr) (qc : Nat) (pre : List PrmQ) (M : Nat → Prop) (wr : World) : Prop where
  own : OwnQ B wr (.slice q (prmTo m).length qc) (prmTo m)
  box : Blk1 wr b 3 (.int .i64 m)
  ge : B ≤ b
  ne : (Value.slice q (prmTo m).length qc).ownBlock ≠ some b
  pre_ : prmV pre = prmTo m
  j : J pre M wr
  sz : B ≤ wr.heap.size
  far : ¬ M b ∧ ∀ k, (Value.slice q (prmTo m).length qc).ownBlock = some k → ¬ M k
theorem ItSY.kept {J : List PrmQ → (Nat → Prop) → World → Prop} {B m b : Nat} {q : Option Addr} {qc : Nat} {pre : List PrmQ} {M M' : Nat → Prop} {wr w' : World} (h : ItSY J B m b q qc pre M wr) (hk : KpY B M M' wr w') :
    OwnQ B w' (.slice q (prmTo m).length qc) (prmTo m) ∧ Blk1 w' b 3 (.int .i64 m) ∧ B ≤ w'.heap.size ∧ ¬ M' b ∧ ∀ k, (Value.slice q (prmTo m).length qc).ownBlock = some k → ¬ M' k :=
  ⟨h.own.move fun k e => hk.block k (h.own.le e) (h.own.lt e) (h.far.2 k e), hk.at_ h.ge h.far.1 h.box, Nat.le_trans h.sz hk.size, fun hm => (hk.own b hm).1.elim h.far.1 (fun h1 => by have := h.box.lt; omega), fun k e hm => (hk.own k hm).1.elim (h.far.2 k e) (fun h1 => by have := h.own.lt e; omega)⟩
/-- The end of a round: a new box for the next number. -/
theorem ItSY.next {J : List PrmQ → (Nat → Prop) → World → Prop} {B m : Nat} {v : Value} {q : Option Addr} {qc : Nat} {pre : List PrmQ} {M : Nat → Prop} {wr : World} (hab : AbY B J) (hbd : ∀ s M W1, J s M W1 → ∀ k, M k → k < W1.heap.size) (hv : v = .slice q (prmTo (m + 1)).length qc) (ho : OwnQ B wr v (prmTo (m + 1))) (hp : prmV pre = prmTo (m + 1)) (hj : J pre M wr) (hs : B ≤ wr.heap.size) (hf : ∀ k, v.ownBlock = some k → ¬ M k) (z : Int) (hz : z = ((m + 1 : Nat) : Int)) :
    ItSY J B (m + 1) wr.heap.size q qc pre M (wr.alloc (.cells #[.int .i64 z] 3)) := by
  subst hv hz
  exact ⟨ho.move fun k e => Below.heap_alloc wr _ k (ho.lt e), Blk1.at_ _ _ rfl, hs, fun e => by have := ho.lt e; omega, hp, hab.old hj _, by simp; omega, fun hm => by have := hbd _ _ _ hj _ hm; omega, hf⟩
set_option maxHeartbeats 4000000 in
theorem seqPrimesY (n : Nat) (hn : 1 ≤ n) : SeqY Fence.wide n Try.prog 84 (fun x : PrmQ => #[Value.int .i64 (x.1 : Int)]) (fun ys => prmV ys = prmTo 10001) (fun pre => ∃ (ini : List PrmQ) (x : PrmQ), pre = ini ++ [x] ∧ prmV ini = prmTo x.1) (fun pre x => prmV pre = prmTo x.1) := by
  intro l J Jx W hJ hBd hY h0
  have AJ := Lib.hid hJ
  have BJ := Lib.hid hBd
  have YY := Lib.hid hY
  clear hJ hBd hY
  have o0 : OwnQ W.heap.size (W.alloc (.cells #[] 3)) (.slice (some ⟨W.heap.size, 0, none⟩) 0 0) [] := OwnQ.none_ (Nat.le_refl _) ⟨Nat.zero_le _, [], rfl, heap_alloc_new W _⟩
  have S0 : Hid (ItSY J W.heap.size 2 (W.heap.size + 1) (some ⟨W.heap.size, 0, none⟩) 0 [] (fun _ => False) ((W.alloc (.cells #[] 3)).alloc (.cells #[.int .i64 2] 3))) := by
    refine ⟨?_, Blk1.at_ _ _ (by simp), by omega, by rw [prmTo_two]; simp [Value.ownBlock], by rw [prmTo_two]; rfl, AJ.out.old (AJ.out.old h0 _) _, by simp; omega, fun h => h, fun _ _ h => h⟩
    rw [prmTo_two]
    exact o0.move fun k e => Below.heap_alloc _ _ k (o0.lt e)
  clear o0
  refine callsIn_of_wp Try.func84 rfl trivial ?_ rfl
  simp only [Try.ntmps84, List.size_toArray, List.length_cons, List.length_nil, Nat.reduceAdd, Nat.reduceSub, Array.replicate_succ, Array.replicate_zero, List.push_toArray, List.append_toArray, List.nil_append, List.cons_append]
  gi_wp2
  gi_loopw [2, 3] (fun v2 v3 wr => ∃ (m b : Nat) (q : Option Addr) (qc : Nat) (pre : List PrmQ) (M : Nat → Prop), v2 = .slice q (prmTo m).length qc ∧ v3 = .pointer (some ⟨b, 0, none⟩) ∧ 2 ≤ m ∧ m ≤ 10001 ∧ ItSY J W.heap.size m b q qc pre M wr) (fun _ v3 wr => leftX wr v3)
  case atStart => exact ⟨2, _, _, _, [], fun _ => False, by rw [prmTo_two]; rfl, rfl, by omega, by omega, S0.out⟩
  case round =>
    clear S0 h0
    obtain ⟨m, b, q, qc, pre, M, rfl, rfl, hm1, hm2, hS⟩ := hrel
    have S := Lib.hid hS
    have hc := hS.box.cell0
    have hLX := Lib.hid (leftX_at hc)
    have hL := prmTo_length m
    clear hS
    by_cases hlt : m ≤ 10000
    · have hcon := Lib.hid (iContains m b qc (prmTo m).length q (prmTo m) wr (S.out.own.own (by omega)).rdq rfl hc (by omega) (fun k hk => prmTo_two_le hk) (by omega) (!prmB (m : Int)) (prm_test hm1 hlt))
      have NX : Hid (∀ (v : Value) (q' : Option Addr) (qc' : Nat) (pre' : List PrmQ) (M' : Nat → Prop) (w' : World), v = .slice q' (prmTo (m + 1)).length qc' → OwnQ W.heap.size w' v (prmTo (m + 1)) → prmV pre' = prmTo (m + 1) → J pre' M' w' → W.heap.size ≤ w'.heap.size → (∀ k, v.ownBlock = some k → ¬ M' k) → ∀ z : Int, z = ((m + 1 : Nat) : Int) → ItSY J W.heap.size (m + 1) w'.heap.size q' qc' pre' M' (w'.alloc (.cells #[.int .i64 z] 3))) := fun v q' qc' pre' M' w' hv ho hp hj hs hf z hz => ItSY.next AJ.out BJ.out hv ho hp hj hs hf z hz
      have LM : Hid (10001 - (m + 1) < 10001 - m) := by show _ < _; omega
      rcases Bool.eq_false_or_eq_true (prmB (m : Int)) with hp | hp
      · have PS : Hid (prmTo (m + 1) = prmTo m ++ [(m : Int)]) := by show _ = _; rw [prmTo_succ, if_pos hp]
        have PP : Hid (m < 10001 ∧ prmB (m : Int) = true) := ⟨by omega, hp⟩
        rw [hp] at hcon
        clear hp
        obtain ⟨fn, tmps, assign, body, hy, hR⟩ := YY.out pre ⟨m, PP.out⟩ M wr S.out.j S.out.pre_
        dsimp only at hy
        gi_wp2_with (refine ⟨trivial, ?_⟩; gi_at_call 85; refine (callsIn_wide.2 hcon.out).mono ?_; rintro e w' ⟨rfl, rfl⟩)
        refine hR.mono ?_
        rintro e W3 (⟨rfl, M3, hJ3, hk3⟩ | ⟨rfl, M3, hJx3⟩)
        · obtain ⟨o3, b3, s3, f3⟩ := S.out.kept hk3
          have F3 := Lib.hid f3
          have D3 := Lib.hid (fun k => BJ.out _ _ _ hJ3 k)
          have O3 := Lib.hid o3
          have N3 := Lib.hid S.out.ne
          have B3 := Lib.hid b3
          have J3 := Lib.hid hJ3
          have hc3 := b3.cell0
          have PV : Hid (prmV (pre ++ [⟨m, PP.out⟩]) = prmTo (m + 1)) := by
            show _ = _
            rw [prmV_snoc, S.out.pre_, PS.out]
          clear hk3 o3 b3 f3 hJ3 hR hy
          obtain ⟨fi, hfi, hz0, hz1, hz2⟩ := facts_int
          have HO : Hid ((W3.alloc (.cells #[.int .i64 m] 3)).ownsRow W.heap.size 3 1 (.slice q (prmTo m).length qc) (prmTo m).length ((prmTo m).map (Value.int .i64))) := by
            have h1 := O3.out.keep ((Below.refl _ _).alloc (Nat.le_refl _) (.cells #[.int .i64 m] 3))
            unfold OwnQ at h1
            exact h1
          gi_wp2_with (gi_at_builtin; refine wpListIn_append_own_at _ rfl _ _ 24 rfl W.heap.size 3 fi (.int .i64 0) 1 8 underlying_ints hfi hz0 hz1 hz2 rfl (by decide) _ _ _ rfl HO.out ⟨W3.heap.size, 0, none⟩ 1 1 [.int .i64 m] ?hx ?hl ?hnews ?h1 ?h63 ?hbytes ?hbase ?hnext)
          case hx => rfl
          case hl => rfl
          case hnews => exact cell_one_new _ _ _
          case h1 => intro v hv; simp at hv; subst hv; rfl
          case h63 => unfold maxLen; omega
          case hbytes => omega
          case hbase => simp; omega
          case hnext =>
            rintro v' w7 ho hg7 - hor7
            have O7 : OwnQ W.heap.size w7 v' (prmTo (m + 1)) := by
              unfold OwnQ
              rw [PS.out, List.map_append, List.length_append]
              exact ho
            have b7 : Blk1 w7 b 3 (.int .i64 m) := (hg7.block b (by have := B3.out.lt; simp; omega) (fun e => N3.out e.symm)).trans ((Below.heap_alloc _ _ b B3.out.lt).trans B3.out)
            have s7 := hg7.size
            simp at s7
            have j7 : J (pre ++ [⟨m, PP.out⟩]) M3 w7 := AJ.out _ _ _ _ _ (AJ.out.old J3.out _) hg7 (fun r e => ⟨O3.out.le e, F3.out.2 r e⟩)
            have f7 : ∀ k, v'.ownBlock = some k → ¬ M3 k := fun k hk hm => by
              have := D3.out k hm
              rcases hor7 with e | e
              · exact F3.out.2 k (e.symm.trans hk) hm
              · rw [e] at hk
                injection hk with hk
                omega
            obtain ⟨q', qc', hv'⟩ := O7.form
            have hc7 := b7.cell0
            have N7 := Lib.hid (NX.out v' q' qc' _ M3 w7 hv' O7 PV.out j7 (by omega) f7)
            subst hv'
            clear O7 ho hg7 b7 j7 f7 hor7
            have ez : (m : Int) + 1 = ((m + 1 : Nat) : Int) := by omega
            have N8 := Lib.hid (N7.out ((m : Int) + 1) ez)
            clear ez
            gi_wp2
            go_roundw
            case rel => exact ⟨m + 1, _, q', qc', _, _, rfl, rfl, by omega, by omega, N8.out⟩
            case measure =>
              rw [hLX.out, leftX_at N8.out.box.cell0]
              exact LM.out
        · gi_wp2
          refine bodyPost_ret (results_none rfl _ _ _) rfl ?_
          exact ⟨⟨_, rfl⟩, .inr ⟨_, _, ⟨pre, ⟨m, PP.out⟩, rfl, S.out.pre_⟩, hJx3⟩⟩
      · have PS : Hid (prmTo (m + 1) = prmTo m) := by show _ = _; rw [prmTo_succ, if_neg (by rw [hp]; decide)]
        rw [hp] at hcon
        clear hp
        gi_wp2_with (refine ⟨trivial, ?_⟩; gi_at_call 85; refine (callsIn_wide.2 hcon.out).mono ?_; rintro e w' ⟨rfl, rfl⟩)
        have ez : (m : Int) + 1 = ((m + 1 : Nat) : Int) := by omega
        have N8 := Lib.hid (NX.out (.slice q (prmTo m).length qc) q qc pre M wr (by rw [PS.out]) (by rw [PS.out]; exact S.out.own) (by rw [PS.out]; exact S.out.pre_) S.out.j S.out.sz S.out.far.2 ((m : Int) + 1) ez)
        clear ez
        go_roundw
        case rel => exact ⟨m + 1, _, q, qc, pre, M, by rw [PS.out], rfl, by omega, by omega, N8.out⟩
        case measure =>
          rw [hLX.out, leftX_at N8.out.box.cell0]
          exact LM.out
    · obtain rfl : m = 10001 := by omega
      gi_wp2
      go_end0
      exact ⟨⟨_, rfl⟩, .inl ⟨pre, M, S.out.pre_, S.out.j⟩⟩
end Go.Proofs.Ytgemkfcapkfdbaa
end

section
/-
  A region that draws its order and stores, at its end, into cells that it loads: a condition on the world is shown again behind each operation but those that come after all loads. No function of the program is named.
-/
namespace Go.Proofs.Ytgemkfcapkfdbaa

theorem two_only {p : Nat → Prop} (a b : Nat) (ha : p a) (hb : p b) : ∀ j, (j == a || j == b) = true → p j := fun j hj => by
  rw [Bool.or_eq_true, beq_iff_eq, beq_iff_eq] at hj
  rcases hj with rfl | rfl
  · exact ha
  · exact hb
section
variable {P : Program} {ops : Array Oper} {Q : Exit → Act → World → Prop} {md : Region.Mode} {S : World → Prop} {T : Nat → Bool}

/-- Operation j waits for i, at once or by others. -/
def anc (md : Region.Mode) (ops : Array Oper) (i : Nat) : Nat → Nat → Bool
  | 0, _ => false
  | f + 1, j => match ops[j]? with
    | some o => o.after.any fun e => Region.binds md e && (e.on == i || anc md ops i f e.on)
    | none => false
/-- What has come up has come up behind all that it waits for. -/
def closedB (md : Region.Mode) (ops : Array Oper) (listed : Array Bool) : Bool :=
  (List.range ops.size).all fun j => match ops[j]? with
    | some o => !(listed.getD j false) || o.after.all fun e => !(Region.binds md e) || listed.getD e.on false
    | none => true
def Closed (md : Region.Mode) (ops : Array Oper) (listed : Array Bool) : Prop := ∀ (j : Nat) (o : Oper), ops[j]? = some o → listed.getD j false = true → ∀ e ∈ o.after, Region.binds md e = true → listed.getD e.on false = true
theorem closed_of {listed : Array Bool} (h : closedB md ops listed = true) : Closed md ops listed := fun j o ho hl e he hb => by
  unfold closedB at h
  rw [List.all_eq_true] at h
  have hj : j < ops.size := by
    rcases Nat.lt_or_ge j ops.size with h1 | h1
    · exact h1
    · rw [Array.getElem?_eq_none h1] at ho; cases ho
  have h1 := h j (List.mem_range.mpr hj)
  rw [ho] at h1
  dsimp only at h1
  rw [hl] at h1
  simp only [Bool.not_true, Bool.false_or] at h1
  rw [Array.all_eq_true_iff_forall_mem] at h1
  have h2 := h1 e he
  rw [hb] at h2
  simpa using h2
theorem Closed.set {listed : Array Bool} {i : Nat} (h : Closed md ops listed) (hr : i ∈ Region.ready md ops listed) : Closed md ops (listed.setIfInBounds i true) := fun j o ho hl e he hb => by
  by_cases hji : i = j
  · subst hji
    obtain ⟨-, o', ho', hall⟩ := mem_ready.1 hr
    rw [ho] at ho'
    cases ho'
    exact getD_set_true (hall e he hb)
  · rw [getD_set_ne false hji] at hl
    exact getD_set_true (h j o ho hl e he hb)
theorem anc_unlisted {listed : Array Bool} {i : Nat} (h : Closed md ops listed) (hi : listed.getD i false = false) : ∀ (f j : Nat), anc md ops i f j = true → listed.getD j false = false
  | 0, j, ha => by cases ha
  | f + 1, j, ha => by
    unfold anc at ha
    cases ho : ops[j]? with
    | none => rw [ho] at ha; cases ha
    | some o =>
      rw [ho] at ha
      dsimp only at ha
      rw [Array.any_eq_true'] at ha
      obtain ⟨e, he, hb⟩ := ha
      rw [Bool.and_eq_true, Bool.or_eq_true] at hb
      cases hl : listed.getD j false with
      | false => rfl
      | true =>
        have h1 := h j o ho hl e he hb.1
        rcases hb.2 with h2 | h2
        · have e2 : e.on = i := by simpa using h2
          rw [e2, hi] at h1
          cases h1
        · rw [anc_unlisted h hi f e.on h2] at h1
          cases h1
theorem anc_not_ready {listed : Array Bool} {i j f : Nat} (h : Closed md ops listed) (hi : listed.getD i false = false) (ha : anc md ops i f j = true) : j ∉ Region.ready md ops listed := fun hr => by
  have h1 := h.set hr
  obtain ⟨-, o, ho, hall⟩ := mem_ready.1 hr
  cases f with
  | zero => cases ha
  | succ f =>
    unfold anc at ha
    rw [ho] at ha
    dsimp only at ha
    rw [Array.any_eq_true'] at ha
    obtain ⟨e, he, hb⟩ := ha
    rw [Bool.and_eq_true, Bool.or_eq_true] at hb
    have h2 := hall e he hb.1
    rcases hb.2 with h3 | h3
    · have e2 : e.on = i := by simpa using h3
      rw [e2, hi] at h2
      cases h2
    · rw [anc_unlisted h hi f e.on h3] at h2
      cases h2
/-- Whatever order is picked from here on, and S holds behind every operation but those of T. -/
def wpAnyT (P : Program) (md : Region.Mode) (ops : Array Oper) (Q : Exit → Act → World → Prop) (S : World → Prop) (T : Nat → Bool) : Nat → Array Bool → Act → World → Prop
  | 0, listed, a, w => Region.ready md ops listed = [] ∧ Q .normal a w
  | fuel + 1, listed, a, w =>
    (Region.ready md ops listed = [] → Q .normal a w) ∧
    ∀ i ∈ Region.ready md ops listed, wpOp P ops Q i (fun a' w' => (T i = false → S w') ∧ wpAnyT P md ops Q S T fuel (listed.setIfInBounds i true) a' w') a w
theorem wpAny_of_T : ∀ (fuel : Nat) (listed : Array Bool) (a : Act) (w : World), wpAnyT P md ops Q S T fuel listed a w → wpAny P md ops Q fuel listed a w
  | 0, _, _, _, h => h
  | fuel + 1, _, _, _, h => ⟨h.1, fun i hi => wpOp_mono (fun a' w' h' => wpAny_of_T fuel _ a' w' h'.2) (h.2 i hi)⟩
theorem getD_swap {listed : Array Bool} {i : Nat} (h : listed.getD i true = false) : listed.getD i false = false := by
  rcases Nat.lt_or_ge i listed.size with h' | h'
  · simp [h'] at h ⊢; exact h
  · simp [Array.getElem?_eq_none h'] at h
theorem wpAnyT_first {i : Nat} {oi : Oper} {v : Value} (hi : ops[i]? = some oi) (hsel : ∀ (j : Nat) (o : Oper) cs b, ops[j]? = some o → o.op ≠ .select cs b)
    (hQ : ∀ c a w, Q (.panic c) (a.put oi.dst v) w → Q (.panic c) a w) (hT : ∀ j, T j = true → anc md ops i ops.size j = true) :
    ∀ (fuel : Nat) (listed : Array Bool) (a : Act) (w : World), Closed md ops listed →
      (∀ j oj, ops[j]? = some oj → j ≠ i → listed.getD j true = false → (∀ e ∈ oj.after, Region.binds md e = true → e.on ≠ i) → oi.apart ops oj = true) →
      i ∈ Region.ready md ops listed → YieldsIf P ops S oi v a → S w →
      wpAnyT P md ops Q S T fuel (listed.setIfInBounds i true) (a.put oi.dst v) w → wpAnyT P md ops Q S T (fuel + 1) listed a w := by
  intro fuel
  induction fuel with
  | zero =>
    intro listed a w _ _ hr hy hS H
    refine ⟨fun h => (by rw [h] at hr; cases hr), fun j hj => ?_⟩
    by_cases hji : j = i
    · subst hji; exact hy.wpOp hi hS ⟨fun _ => hS, H⟩
    · have := ready_mono hj hji
      rw [H.1] at this
      cases this
  | succ fuel ih =>
    intro listed a w hcl hfree hr hy hS H
    refine ⟨fun h => (by rw [h] at hr; cases hr), fun j hj => ?_⟩
    by_cases hji : j = i
    · subst hji; exact hy.wpOp hi hS ⟨fun _ => hS, H⟩
    · have h1 := H.2 j (ready_mono hj hji)
      have hli := getD_swap (mem_ready.1 hr).1
      have hTj : T j = false := by
        cases hb : T j with
        | false => rfl
        | true => exact absurd hj (anc_not_ready hcl hli (hT j hb))
      obtain ⟨hjun, oj, hoj, hall⟩ := mem_ready.1 hj
      have hnot : ∀ e ∈ oj.after, Region.binds md e = true → e.on ≠ i := fun e he hb heq => by
        have h1 := hall e he hb
        rw [heq, hli] at h1
        cases h1
      have h2 := wpOp_putIf hoj (hfree j oj hoj hji hjun hnot) (fun cs b => hsel i oi cs b hi) (fun cs b => hsel j oj cs b hoj) hQ hy h1
      have hfree' : ∀ k ok, ops[k]? = some ok → k ≠ i → (listed.setIfInBounds j true).getD k true = false →
          (∀ e ∈ ok.after, Region.binds md e = true → e.on ≠ i) → oi.apart ops ok = true := fun k ok hk hki hun hno => by
        refine hfree k ok hk hki ?_ hno
        by_cases hjk : j = k
        · subst hjk; exact hjun
        · rw [getD_set_ne true hjk] at hun; exact hun
      refine wpOp_mono (fun a' w' h3 => ⟨h3.2.1, ih (listed.setIfInBounds j true) a' w' (hcl.set hj) hfree' (ready_mono hr (Ne.symm hji)) h3.1 (h3.2.1 hTj) ?_⟩) h2
      rw [Array.setIfInBounds_comm _ _ hji]
      exact h3.2.2
/-- Take number i first. -/
theorem wpAnyT_take {i : Nat} {oi : Oper} {v : Value} {fuel : Nat} {listed : Array Bool} {a : Act} {w : World} (hi : ops[i]? = some oi)
    (hs : Region.noSelect ops = true) (hf : Region.free md ops listed i = true) (hr : (Region.ready md ops listed).contains i = true) (hcl : closedB md ops listed = true)
    (hT : ∀ j, T j = true → anc md ops i ops.size j = true)
    (hQ : ∀ c a w, Q (.panic c) (a.put oi.dst v) w → Q (.panic c) a w) (hy : YieldsIf P ops S oi v a) (hS : S w)
    (h : wpAnyT P md ops Q S T fuel (listed.setIfInBounds i true) (a.put oi.dst v) w) : wpAnyT P md ops Q S T (fuel + 1) listed a w :=
  wpAnyT_first hi (Region.noSelect_spec hs) hQ hT fuel listed a w (closed_of hcl) (Region.free_spec hi hf) (by simpa using hr) hy hS h
theorem wpAnyT_done {listed : Array Bool} {a : Act} {w : World} (hr : Region.ready md ops listed = []) (h : Q .normal a w) :
    ∀ fuel, wpAnyT P md ops Q S T fuel listed a w
  | 0 => ⟨hr, h⟩
  | _ + 1 => ⟨fun _ => h, by rw [hr]; simp⟩
/-- Each of the operations rs comes up next. -/
def AllReadyT (P : Program) (md : Region.Mode) (ops : Array Oper) (Q : Exit → Act → World → Prop) (S : World → Prop) (T : Nat → Bool) (fuel : Nat) (listed : Array Bool) (a : Act) (w : World) (rs : List Nat) : Prop :=
  ∀ i ∈ rs, wpOp P ops Q i (fun a' w' => (T i = false → S w') ∧ wpAnyT P md ops Q S T fuel (listed.setIfInBounds i true) a' w') a w
theorem AllReadyT.nil {fuel : Nat} {listed : Array Bool} {a : Act} {w : World} : AllReadyT P md ops Q S T fuel listed a w [] := fun _ h => by cases h
theorem AllReadyT.cons {fuel : Nat} {listed : Array Bool} {a : Act} {w : World} {i : Nat} {o : Oper} {rs : List Nat} (ho : ops[i]? = some o)
    (h : ∀ K' : Act → World → Prop, Shut (∀ a w, (T i = false → S w) → wpAnyT P md ops Q S T fuel (listed.setIfInBounds i true) a w → K' a w) → if Region.wanted o (yielded ops a.tmps) = true then Oper.wp P o a w K' Q else K' (a.put o.dst undef) w)
    (hs : AllReadyT P md ops Q S T fuel listed a w rs) : AllReadyT P md ops Q S T fuel listed a w (i :: rs) := fun j hj => by
  rcases List.mem_cons.1 hj with rfl | hj
  · exact wpOp_step ho (fun K' hK => h K' (fun a w hS hW => hK a w ⟨hS, hW⟩))
  · exact hs j hj
theorem wpAnyT_ready {rs : List Nat} {fuel : Nat} {listed : Array Bool} {a : Act} {w : World} (hr : Region.ready md ops listed = rs) (hne : rs ≠ [])
    (h : AllReadyT P md ops Q S T fuel listed a w rs) : wpAnyT P md ops Q S T (fuel + 1) listed a w := ⟨fun h0 => absurd (hr ▸ h0) hne, hr ▸ h⟩
end
end Go.Proofs.Ytgemkfcapkfdbaa
end

section
/-
  A region that draws its order within a round of a range over a function: as outside of it. No function of the program is named.
-/
namespace Go.Proofs.Ytgemkfcapkfdbaa

def notDefer (o : Oper) : Bool := match o.op with
  | .defer _ => false
  | _ => true
theorem wpOpIn_of_op {l n : Nat} {P : Program} {ops : Array Oper} {Q : Exit → Act → World → Prop} (hq : ¬ LetsOut Q) (hd : ∀ (i : Nat) (o : Oper), ops[i]? = some o → notDefer o = true) {i : Nat} {K K' : Act → World → Prop} {a : Act} {w : World} (hK : ∀ a w, K a w → K' a w) (h : wpOp P ops Q i K a w) : wpOpIn (Fence.wide.inRound l) n P ops Q i K' a w := by
  unfold wpOp at h
  unfold wpOpIn
  cases ho : ops[i]? with
  | none => rw [ho] at h; exact hK _ _ h
  | some o =>
    rw [ho] at h
    dsimp only at h ⊢
    have hp : ∀ c, o.op ≠ .defer c := fun c e => by
      have := hd i o ho
      unfold notDefer at this
      rw [e] at this
      cases this
    by_cases hw : Region.wanted o (yielded ops a.tmps) = true
    · rw [if_pos hw] at h ⊢
      rcases h with h | ⟨-, h⟩
      · refine ⟨fun _ _ => trivial, ?_⟩
        rw [Oper.semAt_eq _ _ _ hp]
        unfold Oper.wp at h
        generalize (execOp a.eval o).run P w = r at h ⊢
        cases r with
        | ok x w' =>
          cases x with
          | value v => exact hK _ _ h
          | skip => exact hK _ _ h
          | defer d => exact hK _ _ h
          | enter f args =>
            refine ⟨fun hh => Bool.noConfusion (show false = true from hh), ?_⟩
            have h1 : CallsIn Fence.wide (n - 1) P f args w' _ := callsIn_wide.2 h
            exact CallsIn.mono (F := Fence.wide.inRound l) h1 (fun e w'' he => by
              cases e with
              | returned v => exact hK _ _ he
              | panicked c => exact he
              | outgrown => exact he)
          | row r args =>
            refine ⟨fun hh => Bool.noConfusion (show false = true from hh), fun c cs _ => ?_⟩
            obtain ⟨v, w'', r1, s⟩ := h c cs
            exact ⟨v, w'', hK _ _ r1, stepsIn_wide.2 s⟩
          | _ => exact h.elim
        | halt x w' => cases x <;> exact h
      · exact absurd h hq
    · rw [if_neg hw] at h ⊢
      exact ⟨fun _ _ => trivial, hK _ _ h⟩
theorem wpAnyIn_of_any {l n : Nat} {P : Program} {ops : Array Oper} {Q : Exit → Act → World → Prop} {md : Region.Mode} (hq : ¬ LetsOut Q) (hd : ∀ (i : Nat) (o : Oper), ops[i]? = some o → notDefer o = true) :
    ∀ (fuel : Nat) (listed : Array Bool) (a : Act) (w : World), wpAny P md ops Q fuel listed a w → wpAnyIn (Fence.wide.inRound l) n P md ops Q fuel listed a w
  | 0, _, _, _, h => h
  | fuel + 1, _, _, _, h => ⟨h.1, fun i hi => wpOpIn_of_op hq hd (fun a w => wpAnyIn_of_any hq hd fuel _ a w) (h.2 i hi)⟩
/-- The law for the walk: what holds behind the region is told by Post. -/
theorem wpIn_region_round {l n : Nat} {P : Program} {id : Nat} {ops : Array Oper} {Q : Exit → Act → World → Prop} {a : Act} {w : World} {S : World → Prop} (Post : Act → World → Prop) (hm : P.follows .mixedOrders = true) (hd : ops.toList.all notDefer = true) (hS : S w.drew)
    (h : S w.drew → wpAnyH P .any ops (fun e a w => e = .normal ∧ Post a w) S ops.size (Array.replicate ops.size false) a w.drew) (hQ : ∀ a' w', Post a' w' → Q .normal a' w') : (Code.region id ops true).wpIn (Fence.wide.inRound l) n P Q a w := by
  refine wpIn_mono (Q := fun e a w => e = .normal ∧ Post a w) (wpIn_region_any hm (wpAnyIn_of_any ?_ ?_ _ _ _ _ (wpAny_of_held _ _ _ _ (h hS)))) ?_
  · rintro ⟨a, w, e, -⟩
    cases e
  · intro i o ho
    rw [List.all_eq_true] at hd
    exact hd o (by rw [Array.getElem?_eq_some_iff] at ho; obtain ⟨hi, e⟩ := ho; rw [← e]; exact Array.getElem_mem_toList hi)
  · rintro e a' w' ⟨rfl, h'⟩
    exact hQ a' w' h'
/-- .. where S is not shown behind the operations of T. -/
theorem wpIn_region_roundT {l n : Nat} {P : Program} {id : Nat} {ops : Array Oper} {Q : Exit → Act → World → Prop} {a : Act} {w : World} {S : World → Prop} {T : Nat → Bool} (Post : Act → World → Prop) (hm : P.follows .mixedOrders = true) (hd : ops.toList.all notDefer = true)
    (h : wpAnyT P .any ops (fun e a w => e = .normal ∧ Post a w) S T ops.size (Array.replicate ops.size false) a w.drew) (hQ : ∀ a' w', Post a' w' → Q .normal a' w') : (Code.region id ops true).wpIn (Fence.wide.inRound l) n P Q a w := by
  refine wpIn_mono (Q := fun e a w => e = .normal ∧ Post a w) (wpIn_region_any hm (wpAnyIn_of_any ?_ ?_ _ _ _ _ (wpAny_of_T _ _ _ _ h))) ?_
  · rintro ⟨a, w, e, -⟩
    cases e
  · intro i o ho
    rw [List.all_eq_true] at hd
    exact hd o (by rw [Array.getElem?_eq_some_iff] at ho; obtain ⟨hi, e⟩ := ho; rw [← e]; exact Array.getElem_mem_toList hi)
  · rintro e a' w' ⟨rfl, h'⟩
    exact hQ a' w' h'
end Go.Proofs.Ytgemkfcapkfdbaa
end

section
/-
  Chapter 3, in the program: a row that shares its memory with the matrix.
-/
namespace Go.Proofs.Ytgemkfcapkfdbaa
set_option maxRecDepth 100000
open Go.RowKit

/-- The cells of a row. -/
def rwL (c : Nat) (v : Nat → Int) : List Int := (List.range c).map v
theorem rwL_length (c : Nat) (v : Nat → Int) : (rwL c v).length = c := by simp [rwL]
theorem rwL_at {c : Nat} {v : Nat → Int} {j : Nat} (hj : j < c) : (rwL c v).getD j 0 = v j := by simp [rwL, List.getD, hj]
theorem rwL_congr {c : Nat} {u v : Nat → Int} (h : ∀ j, j < c → u j = v j) : rwL c u = rwL c v := List.map_congr_left fun j hj => h j (List.mem_range.mp hj)
/-- What rowIn gives: a slice q' of the room behind cell D of what q begins. -/
def RowAt (q : Option Addr) (D c : Nat) (w : World) (e : Ending) (w' : World) : Prop :=
  ∃ (q' : Option Addr) (m' : Nat), e = .returned (.slice q' c m') ∧ c ≤ m' ∧ (∀ g o : Nat, q = some ⟨g, o, none⟩ → 0 < c → q' = some ⟨g, o + D, none⟩) ∧ (q = none → q' = none) ∧ Below w.heap.size w w'
/-- A row of what is read. -/
theorem Rd.row {w : World} {q q' : Option Addr} {xs : List Int} {r c i : Nat} (h : Rd w q xs) (hx : xs.length = r * c) (hi : i < r) (hq : ∀ g o : Nat, q = some ⟨g, o, none⟩ → 0 < c → q' = some ⟨g, o + i * c, none⟩) : Rd w q' (rwL c (mxC c xs i)) := fun j hj => by
  rw [rwL_length] at hj
  obtain ⟨b, o, ha, hc⟩ := h (i * c + j) (by rw [hx]; exact idx_lt hi hj)
  refine ⟨b, o + i * c, hq b o ha (by omega), ?_⟩
  rw [rwL_at hj, Nat.add_assoc]
  exact hc
set_option maxHeartbeats 1000000 in
theorem iRowIn (r c i D N cap : Nat) (q : Option Addr) (w : World) (hq : Spot q) (hD : i * c = D) (hN : D + c ≤ N) (hc : N ≤ cap) (hn : q = none → cap = 0) (h1 : N ≤ 600) (hi : i ≤ 600) :
    Calls Try.prog 83 #[.agg #[.int .i64 r, .int .i64 c, .slice q N cap], .int .i64 i] w (RowAt q D c w) := by
  have u1 : (i : Int) * (c : Int) = (D : Int) := by rw [← hD]; exact (Int.natCast_mul _ _).symm
  have u2 : ((i : Int) + 1) * (c : Int) = ((D + c : Nat) : Int) := by rw [Int.add_mul, Int.one_mul, u1]; rfl
  have v1 : IntKind.i64.wrap ((i : Int) * (c : Int)) = (D : Int) := by rw [u1]; exact IntWalk.i64_in _ (by omega)
  have v2 : IntKind.i64.wrap ((i : Int) + 1) = (i : Int) + 1 := IntWalk.i64_in _ (by omega)
  have v3 : IntKind.i64.wrap (((i : Int) + 1) * (c : Int)) = ((D + c : Nat) : Int) := by rw [u2]; exact IntWalk.i64_in _ (by omega)
  have Z : Hid (c = 0 → D = 0) := fun h => by rw [← hD, h, Nat.mul_zero]
  have Dm : D + c ≤ cap := by omega
  have K0 : Hid (Blk3 (w.alloc (.cells #[.int .i64 r, .int .i64 c, .slice q N cap] 34)) w.heap.size 34 (.int .i64 r) (.int .i64 c) (.slice q N cap)) := Blk3.at_ _ _ _ _ rfl
  have B : Hid (Below w.heap.size w (w.alloc (.cells #[.int .i64 r, .int .i64 c, .slice q N cap] 34))) := (Below.refl _ _).alloc (Nat.le_refl _) _
  clear hD u1 u2
  rcases hq with rfl | ⟨g, o, rfl⟩
  · obtain rfl : cap = 0 := hn rfl
    obtain rfl : c = 0 := by omega
    obtain rfl : D = 0 := by omega
    obtain rfl : N = 0 := by omega
    go_enter Try.func83, Try.ntmps83
    go_wp2_with fail
    exact bodyPost_ret (v := .slice none 0 0) (by simp [results, Try.results83, go_sem]) rfl ⟨none, 0, rfl, Nat.le_refl _, (fun g o h => by cases h), (fun _ => rfl), B.out⟩
  · rcases Nat.lt_or_ge D cap with hlt | hge
    · go_enter Try.func83, Try.ntmps83
      go_wp2_with fail
      rw [show D + c - D = c by omega]
      exact bodyPost_ret (v := .slice (some ⟨g, o + D, none⟩) c (cap - D)) (by simp [results, Try.results83, go_sem]) rfl ⟨_, _, rfl, by omega, (fun g' o' h _ => by injection h with h; injection h with h1 h2; rw [h1, h2]), (fun h => by cases h), B.out⟩
    · obtain rfl : c = 0 := by omega
      obtain rfl : D = 0 := Z.out rfl
      obtain rfl : cap = 0 := by omega
      obtain rfl : N = 0 := by omega
      go_enter Try.func83, Try.ntmps83
      go_wp2_with fail
      exact bodyPost_ret (v := .slice (some ⟨g, o, none⟩) 0 0) (by simp [results, Try.results83, go_sem]) rfl ⟨_, _, rfl, Nat.le_refl _, (fun g' o' h h0 => by omega), (fun h => by cases h), B.out⟩
end Go.Proofs.Ytgemkfcapkfdbaa
end

section
/-
  Plain mathematics of chapter 7: telling an echelon form. Nothing of a program is used.
-/
namespace Go.Proofs.Ytgemkfcapkfdbaa

/-- The first column of a row that is not 0 (k columns are left from j on); where there is none, their end. -/
def leadF (v : Nat → Int) : Nat → Nat → Nat
  | 0, j => j
  | k + 1, j => if v j = 0 then leadF v k (j + 1) else j
def leadC (c : Nat) (v : Nat → Int) : Nat := leadF v c 0
theorem leadF_eq {v : Nat → Int} : ∀ {k j q : Nat}, j ≤ q → q ≤ j + k → (∀ i, j ≤ i → i < q → v i = 0) → (q < j + k → v q ≠ 0) → leadF v k j = q := by
  intro k
  induction k with
  | zero => intro j q h1 h2 _ _; show j = q; omega
  | succ k ih =>
    intro j q h1 h2 hz hn
    show (if v j = 0 then leadF v k (j + 1) else j) = q
    rcases Nat.lt_or_ge j q with h | h
    · rw [if_pos (hz j (Nat.le_refl _) h)]
      exact ih (by omega) (by omega) (fun i h3 h4 => hz i (by omega) h4) (fun h3 => hn (by omega))
    · obtain rfl : j = q := by omega
      rw [if_neg (hn (by omega))]
theorem leadF_says {v : Nat → Int} : ∀ {k j : Nat}, j ≤ leadF v k j ∧ leadF v k j ≤ j + k ∧ (∀ i, j ≤ i → i < leadF v k j → v i = 0) ∧ (leadF v k j < j + k → v (leadF v k j) ≠ 0) := by
  intro k
  induction k with
  | zero => intro j; exact ⟨Nat.le_refl _, Nat.le_refl _, fun i h1 h2 => absurd h2 (by show ¬ i < j; omega), fun h => absurd h (by show ¬ j < j + 0; omega)⟩
  | succ k ih =>
    intro j
    by_cases h : v j = 0
    · have e : leadF v (k + 1) j = leadF v k (j + 1) := if_pos h
      rw [e]
      obtain ⟨h1, h2, h3, h4⟩ := ih (j := j + 1)
      refine ⟨by omega, by omega, fun i h5 h6 => ?_, fun h5 => h4 (by omega)⟩
      rcases Nat.lt_or_ge j i with h7 | h7
      · exact h3 i h7 h6
      · obtain rfl : i = j := by omega
        exact h
    · have e : leadF v (k + 1) j = j := if_neg h
      rw [e]
      exact ⟨Nat.le_refl _, by omega, fun i h1 h2 => by omega, fun _ => h⟩
theorem leadC_says (c : Nat) (v : Nat → Int) : leadC c v ≤ c ∧ (∀ i, i < leadC c v → v i = 0) ∧ (leadC c v < c → v (leadC c v) ≠ 0) := by
  obtain ⟨-, h2, h3, h4⟩ := leadF_says (v := v) (k := c) (j := 0)
  exact ⟨by show leadF v c 0 ≤ c; omega, fun i hi => h3 i (Nat.zero_le _) hi, fun h => h4 (by show leadF v c 0 < 0 + c; have : leadF v c 0 < c := h; omega)⟩
/-- What is wrong with row i, whose pivot is in column p, behind a row whose pivot is in column last. -/
def rowBad (c : Nat) (xs : List Int) (i : Nat) (last : Int) : Prop := leadC c (mxC c xs i) < c ∧ (last = c ∨ (leadC c (mxC c xs i) : Int) ≤ last ∨ mxC c xs i (leadC c (mxC c xs i)) < 0 ∨ gcdN c (mxC c xs i) ≠ 1)
def colBad (r c : Nat) (xs : List Int) (i : Nat) : Prop := leadC c (mxC c xs i) < c ∧ ∃ k, k < r ∧ k ≠ i ∧ mxC c xs k (leadC c (mxC c xs i)) ≠ 0
/-- k rows from row i on are those of an echelon form. -/
def EchB (r c : Nat) (xs : List Int) : Nat → Nat → Int → Prop
  | 0, _, _ => True
  | k + 1, i, last => ¬ rowBad c xs i last ∧ ¬ colBad r c xs i ∧ EchB r c xs k (i + 1) (leadC c (mxC c xs i))
theorem Ech.lead_at {r c t : Nat} {xs : List Int} {p : Nat → Nat} (h : Ech r c (mxC c xs) p t) {i : Nat} (hi : i < t) : leadC c (mxC c xs i) = p i :=
  leadF_eq (Nat.zero_le _) (by have := h.col i hi; omega) (fun j _ hj => h.left i j hi hj) (fun _ => by have := h.pos i hi; omega)
theorem Ech.lead_no {r c t : Nat} {xs : List Int} {p : Nat → Nat} (h : Ech r c (mxC c xs) p t) {i : Nat} (hi : t ≤ i) (hir : i < r) : leadC c (mxC c xs i) = c :=
  leadF_eq (Nat.zero_le _) (by omega) (fun j _ hj => h.rest i j hi hir hj) (fun h => by omega)
theorem Ech.echB {r c t : Nat} {xs : List Int} {p : Nat → Nat} (h : Ech r c (mxC c xs) p t) (hn : ∀ i, i < r → Norm c (mxC c xs i)) : ∀ (k i : Nat) (last : Int), i + k = r → (i < t → last < p i ∧ last ≠ c) → EchB r c xs k i last := by
  intro k
  induction k with
  | zero => intro i last _ _; trivial
  | succ k ih =>
    intro i last hik hl
    have hir : i < r := by omega
    rcases Nat.lt_or_ge i t with hit | hit
    · obtain ⟨h1, h2⟩ := hl hit
      have e := h.lead_at hit
      have hc := h.col i hit
      have hp := h.pos i hit
      refine ⟨?_, ?_, ?_⟩
      · rintro ⟨-, hb⟩
        rw [e] at hb
        rcases hb with h3 | h3 | h3 | h3
        · exact h2 h3
        · omega
        · omega
        · exact h3 ((hn i hir).1.resolve_left fun h4 => by have := gcdN_none h4 _ hc; omega)
      · rintro ⟨-, k', h3, h4, h5⟩
        rw [e] at h5
        exact h5 (h.only i k' hit h3 h4)
      · rw [e]
        refine ih (i + 1) _ (by omega) fun h3 => ?_
        have := h.inc i (i + 1) (by omega) h3
        omega
    · have e := h.lead_no hit hir
      refine ⟨fun hb => ?_, fun hb => ?_, ih (i + 1) _ (by omega) fun h3 => by omega⟩
      · have := hb.1; omega
      · have := hb.1; omega
/-- What is told to be an echelon form is one. -/
theorem EchB.ech {r c : Nat} {xs : List Int} : ∀ (k i : Nat) (last : Int), i + k = r → EchB r c xs k i last →
    (last = c → ∀ q j, i ≤ q → q < r → j < c → mxC c xs q j = 0) ∧ (∀ q, i ≤ q → q < r → leadC c (mxC c xs q) < c → last ≠ c ∧ last < leadC c (mxC c xs q)) ∧ (∀ q s, i ≤ q → q < s → s < r → leadC c (mxC c xs s) < c → leadC c (mxC c xs q) < leadC c (mxC c xs s)) ∧ (∀ q, i ≤ q → q < r → Norm c (mxC c xs q)) ∧ ∀ q s, i ≤ q → q < r → leadC c (mxC c xs q) < c → s < r → s ≠ q → mxC c xs s (leadC c (mxC c xs q)) = 0 := by
  intro k
  induction k with
  | zero => intro i last hik _; exact ⟨fun _ q j h1 h2 => by omega, fun q h1 h2 => by omega, fun q s h1 h2 h3 => by omega, fun q h1 h2 => by omega, fun q s h1 h2 => by omega⟩
  | succ k ih =>
    intro i last hik ⟨hrow, hcol, hrest⟩
    obtain ⟨g1, g2, g3, g4, g5⟩ := ih (i + 1) _ (by omega) hrest
    obtain ⟨l1, l2, l3⟩ := leadC_says c (mxC c xs i)
    have own : leadC c (mxC c xs i) < c → last ≠ c ∧ last < leadC c (mxC c xs i) ∧ 0 < mxC c xs i (leadC c (mxC c xs i)) ∧ gcdN c (mxC c xs i) = 1 := fun h => by
      have h0 := l3 h
      refine ⟨fun e => hrow ⟨h, .inl e⟩, ?_, ?_, ?_⟩
      · exact Int.not_le.mp fun e => hrow ⟨h, .inr (.inl e)⟩
      · have : ¬ mxC c xs i (leadC c (mxC c xs i)) < 0 := fun e => hrow ⟨h, .inr (.inr (.inl e))⟩
        omega
      · exact Classical.byContradiction fun e => hrow ⟨h, .inr (.inr (.inr e))⟩
    have full : leadC c (mxC c xs i) = c → ∀ q, i + 1 ≤ q → q < r → ¬ leadC c (mxC c xs q) < c := fun e q h1 h2 h3 => (g2 q h1 h2 h3).1 (by rw [e])
    refine ⟨fun e q j h1 h2 h3 => ?_, fun q h1 h2 h3 => ?_, fun q s h1 h2 h3 h4 => ?_, fun q h1 h2 => ?_, fun q s h1 h2 h3 h4 h5 => ?_⟩
    · have hi : leadC c (mxC c xs i) = c := by
        rcases Nat.lt_or_ge (leadC c (mxC c xs i)) c with h4 | h4
        · exact absurd e (own h4).1
        · omega
      rcases Nat.lt_or_ge i q with h4 | h4
      · exact g1 (by rw [hi]) q j h4 h2 h3
      · obtain rfl : q = i := by omega
        exact l2 j (by omega)
    · rcases Nat.lt_or_ge i q with h4 | h4
      · have h5 := g2 q h4 h2 h3
        have h6 : leadC c (mxC c xs i) < c := by
          rcases Nat.lt_or_ge (leadC c (mxC c xs i)) c with h7 | h7
          · exact h7
          · exact absurd h3 (full (by omega) q h4 h2)
        have h7 := own h6
        exact ⟨h7.1, by omega⟩
      · obtain rfl : q = i := by omega
        exact ⟨(own h3).1, (own h3).2.1⟩
    · rcases Nat.lt_or_ge i q with h5 | h5
      · exact g3 q s h5 h2 h3 h4
      · obtain rfl : q = i := by omega
        have := (g2 s h2 h3 h4).2
        omega
    · rcases Nat.lt_or_ge i q with h5 | h5
      · exact g4 q h5 h2
      · obtain rfl : q = i := by omega
        rcases Nat.lt_or_ge (leadC c (mxC c xs q)) c with h6 | h6
        · obtain ⟨-, -, h7, h8⟩ := own h6
          refine ⟨.inr h8, .inr ?_⟩
          rw [sgnN_first h6 l2 (by omega), if_neg (by omega)]
        · have hz : ∀ j, j < c → mxC c xs q j = 0 := fun j hj => l2 j (by omega)
          exact ⟨.inl (gcdN_all hz), .inl (sgnN_all hz)⟩
    · rcases Nat.lt_or_ge i q with h6 | h6
      · exact g5 q s h6 h2 h3 h4 h5
      · obtain rfl : q = i := by omega
        exact Classical.byContradiction fun h7 => hcol ⟨h3, s, h4, h5, h7⟩
/-- How many of the first rows are not zeros. -/
def topN (c : Nat) (xs : List Int) : Nat → Nat → Nat
  | 0, i => i
  | k + 1, i => if leadC c (mxC c xs i) < c then topN c xs k (i + 1) else i
theorem topN_says {c : Nat} {xs : List Int} : ∀ {k i : Nat}, i ≤ topN c xs k i ∧ topN c xs k i ≤ i + k ∧ (∀ q, i ≤ q → q < topN c xs k i → leadC c (mxC c xs q) < c) ∧ (topN c xs k i < i + k → ¬ leadC c (mxC c xs (topN c xs k i)) < c) := by
  intro k
  induction k with
  | zero => intro i; exact ⟨Nat.le_refl _, Nat.le_refl _, fun q h1 h2 => absurd h2 (by show ¬ q < i; omega), fun h => absurd h (by show ¬ i < i + 0; omega)⟩
  | succ k ih =>
    intro i
    by_cases h : leadC c (mxC c xs i) < c
    · have e : topN c xs (k + 1) i = topN c xs k (i + 1) := if_pos h
      rw [e]
      obtain ⟨h1, h2, h3, h4⟩ := ih (i := i + 1)
      refine ⟨by omega, by omega, fun q h5 h6 => ?_, fun h5 => h4 (by omega)⟩
      rcases Nat.lt_or_ge i q with h7 | h7
      · exact h3 q h7 h6
      · obtain rfl : q = i := by omega
        exact h
    · have e : topN c xs (k + 1) i = i := if_neg h
      rw [e]
      exact ⟨Nat.le_refl _, by omega, fun q h1 h2 => by omega, fun _ => h⟩
theorem EchB.all {r c : Nat} {xs : List Int} (h : EchB r c xs r 0 (-1)) : Ech r c (mxC c xs) (fun i => leadC c (mxC c xs i)) (topN c xs r 0) ∧ ∀ i, i < r → Norm c (mxC c xs i) := by
  obtain ⟨-, -, g3, g4, g5⟩ := EchB.ech r 0 (-1) (by omega) h
  obtain ⟨-, t2, t3, t4⟩ := topN_says (c := c) (xs := xs) (k := r) (i := 0)
  have lead0 : ∀ i j, j < leadC c (mxC c xs i) → mxC c xs i j = 0 := fun i j hj => (leadC_says c (mxC c xs i)).2.1 j hj
  refine ⟨⟨by omega, fun k hk => t3 k (Nat.zero_le _) hk, fun k l hkl hl => g3 k l (Nat.zero_le _) hkl (by omega) (t3 l (Nat.zero_le _) hl), fun k hk => ?_, fun k i hk hi hne => g5 k i (Nat.zero_le _) (by omega) (t3 k (Nat.zero_le _) hk) hi hne, fun k j hk hj => lead0 k j hj, fun i j hi hir hj => ?_, fun k hk => ?_⟩, fun i hi => g4 i (Nat.zero_le _) hi⟩
  · have h1 := t3 k (Nat.zero_le _) hk
    exact (g4 k (Nat.zero_le _) (by omega)).pos h1 (fun j hj => lead0 k j hj) ((leadC_says c (mxC c xs k)).2.2 h1)
  · have ht := t4 (by omega)
    rcases Nat.lt_or_ge (topN c xs r 0) i with h1 | h1
    · refine lead0 i j ?_
      rcases Nat.lt_or_ge (leadC c (mxC c xs i)) c with h2 | h2
      · have := g3 _ i (Nat.zero_le _) h1 hir h2
        omega
      · omega
    · obtain rfl : i = topN c xs r 0 := by omega
      exact lead0 _ j (by omega)
  · have h1 := t3 k (Nat.zero_le _) hk
    exact (g4 k (Nat.zero_le _) (by omega)).prim h1 ((leadC_says c (mxC c xs k)).2.2 h1)
/-- Just the echelon forms stay as they are. -/
theorem EchB_iff {r c : Nat} {xs : List Int} (hx : xs.length = r * c) (hn : nums xs = true) : EchB r c xs r 0 (-1) ↔ ∃ pv, echM r c xs = some (xs, pv) := by
  constructor
  · intro h
    obtain ⟨he, hm⟩ := EchB.all h
    refine ⟨(List.range (topN c xs r 0)).map fun i => leadC c (mxC c xs i), ?_⟩
    unfold echM
    rw [prTo_fix hx hm]
    exact echC_fix he c 0 0 (by omega) (Nat.zero_le _) (fun i hi => by omega) (fun _ => Nat.zero_le _)
  · rintro ⟨pv, h⟩
    obtain ⟨he, -, -, -, -, hm⟩ := echM_says hx hn h
    exact he.echB hm r 0 (-1) (by omega) fun _ => ⟨by omega, by omega⟩
end Go.Proofs.Ytgemkfcapkfdbaa
end
