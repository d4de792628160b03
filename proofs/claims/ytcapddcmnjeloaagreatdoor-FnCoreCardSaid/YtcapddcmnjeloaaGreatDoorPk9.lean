/-
  Texts of this seat, joined: ZAImgM · ZAImgP · ZATwoL · ZAImgR · ZARgR · ZAPdI · ZAMcI · ZAChiI · ZABnI
-/
import Derived.Maps.AppendAt
import Derived.Test.YtcapddcmnjeloaaGreatDoorProg
import Derived.OrdersIn
import Derived.OrdersHeld
import Derived.RangeFuncLeaves
import Derived.StillTailTactics
import Derived.BigQuiet
import Derived.Deep.QuietTactic
import Derived.Test.YtcapddcmnjeloaaGreatDoorPk1
import Derived.Test.YtcapddcmnjeloaaGreatDoorPk2
import Derived.Test.YtcapddcmnjeloaaGreatDoorPk3
import Derived.Test.YtcapddcmnjeloaaGreatDoorPk4
import Derived.Test.YtcapddcmnjeloaaGreatDoorPk5
import Derived.Test.YtcapddcmnjeloaaGreatDoorPk6
import Derived.Test.YtcapddcmnjeloaaGreatDoorPk7
import Derived.Test.YtcapddcmnjeloaaGreatDoorPk8

section
/-
  Plain mathematics of chapter 9: the primes that DeterminantByImages takes, and what it joins. Nothing of a program is used.
-/
namespace Go.Proofs.YtcapddcmnjeloaaGreatDoor
open Go.RowKit
theorem dtM_sq {n : Nat} {xs : List Int} {p : Int} (hs : isSq n n xs = true) (hp : prmB p = true) : dtM n n p xs = (det n (mxL n xs) % p, true) := by
  obtain ⟨m, hm, -, h6, hl, -⟩ := isSq_says hs
  obtain rfl : n = m := by omega
  have hi : isMat n n xs = true := by
    unfold isSq at hs
    rw [Bool.and_eq_true, Bool.and_eq_true] at hs
    exact hs.1.1
  obtain ⟨R, C, N, hR, hC, hN, -, -, hx, -, -, -, -, -, e3⟩ := rkM_yes (r := n) (c := n) (p := p) (xs := xs) (by rw [hi, hp]; rfl)
  obtain rfl : n = R := by omega
  obtain rfl : n = C := by omega
  rw [if_pos rfl, (elM_det (prmB_says hp).1 hl).2] at e3
  exact e3
theorem pr9_prime : ∀ k, prmB (pr9 k) = true
  | 0 => by decide +kernel
  | 1 => by decide +kernel
  | 2 => by decide +kernel
  | 3 => by decide +kernel
  | _ + 4 => by show prmB 113 = true; decide +kernel
theorem pp9_num : ∀ k, 1 ≤ pp9 k ∧ pp9 k ≤ 121330189
  | 0 => by decide
  | 1 => by decide
  | 2 => by decide
  | 3 => by decide
  | _ + 4 => (by decide : (1 : Int) ≤ 121330189 ∧ (121330189 : Int) ≤ 121330189)
theorem pr9_num : ∀ k, 101 ≤ pr9 k ∧ pr9 k ≤ 113
  | 0 => by decide
  | 1 => by decide
  | 2 => by decide
  | 3 => by decide
  | _ + 4 => (by decide : (101 : Int) ≤ 113 ∧ (113 : Int) ≤ 113)
def mo9 (k : Nat) : List Int := (List.range k).map pr9
def re9 (D : Int) (k : Nat) : List Int := (List.range k).map fun i => D % pr9 i
theorem mo9_length (k : Nat) : (mo9 k).length = k := by simp [mo9]
theorem re9_length (D : Int) (k : Nat) : (re9 D k).length = k := by simp [re9]
theorem mo9_snoc (k : Nat) : mo9 (k + 1) = mo9 k ++ [pr9 k] := by unfold mo9; rw [List.range_succ, List.map_append]; rfl
theorem re9_snoc (D : Int) (k : Nat) : re9 D (k + 1) = re9 D k ++ [D % pr9 k] := by unfold re9; rw [List.range_succ, List.map_append]; rfl
theorem mo9_at {k i : Nat} (h : i < k) : atL (mo9 k) i = pr9 i := by simp [atL, mo9, List.getD, h]
theorem re9_at {D : Int} {k i : Nat} (h : i < k) : atL (re9 D k) i = D % pr9 i := by simp [atL, re9, List.getD, h]
theorem mo9_ok {k : Nat} (h : k ≤ 4) : modB (mo9 k) = true := by
  rcases (show k = 0 ∨ k = 1 ∨ k = 2 ∨ k = 3 ∨ k = 4 by omega) with rfl | rfl | rfl | rfl | rfl <;> decide +kernel
theorem re9_num (D : Int) (k : Nat) : nums (re9 D k) = true := nums_true fun j hj => by
  rw [re9_length] at hj
  have e : (re9 D k).getD j 0 = D % pr9 j := re9_at hj
  rw [e]
  have := pr9_num j
  have h0 : 0 ≤ D % pr9 j := Int.emod_nonneg _ (by omega)
  have h1 : D % pr9 j < pr9 j := Int.emod_lt_of_pos _ (by omega)
  exact ⟨by omega, by omega⟩
theorem chi9 {D : Int} {k : Nat} (h : k ≤ 4) : ∃ x, ChiP (fun i => D % pr9 i) pr9 k x ∧ chiX (re9 D k) (mo9 k) = (x, pp9 k, true) := by
  obtain ⟨x, hx⟩ := chi_ex (rs := fun i => D % pr9 i) (pr9_modu h)
  refine ⟨x, hx, ?_⟩
  have eP : prodI (atL (mo9 k)) (mo9 k).length = pp9 k := by
    rw [mo9_length, ← pp9_prod h]
    exact prodI_congr fun i hi => mo9_at hi
  rw [← eP]
  refine chiX_yes (mo9_ok h) (by rw [re9_length, mo9_length]) (re9_num D k) ?_
  obtain ⟨⟨x0, x1⟩, hc⟩ := hx
  refine ⟨⟨x0, by rw [eP, ← pp9_prod h]; exact x1⟩, fun i hi => ?_⟩
  rw [mo9_length] at hi
  rw [mo9_at hi, re9_at hi]
  exact hc i hi
theorem im9_yes {n : Nat} {xs : List Int} {k : Nat} {b : Int} (hk : k ≤ 4) (h : bndX n n xs = (b, true)) (hb : 2 * b < pp9 k) :
    ∃ x, chiX (re9 (det n (mxL n xs)) k) (mo9 k) = (x, pp9 k, true) ∧ symX x (pp9 k) = imX n n xs ∧ (imX n n xs).2 = true ∧ (0 ≤ x ∧ x ≤ 121330189) := by
  obtain ⟨x, hx, e⟩ := chi9 (D := det n (mxL n xs)) hk
  have p1 := pp9_num k
  obtain ⟨x0, x1⟩ := hx.1
  rw [pp9_prod hk] at x1
  have ei := imX_yes hk (by rw [h]) (by rw [h]; exact hb) hx
  refine ⟨x, e, ?_, by rw [ei], x0, by omega⟩
  rw [ei]
  exact symX_yes ⟨⟨by omega, by omega⟩, by omega, by omega⟩
theorem im9_no {n : Nat} {xs : List Int} {b : Int} (h : bndX n n xs = (b, true)) (hb : 121330189 ≤ 2 * b) : imX n n xs = (0, false) := imX_no (.inr (by rw [h]; exact hb))
theorem imX_sq {r c : Int} {xs : List Int} (h : isSq r c xs = false) : bndX r c xs = (0, false) ∧ imX r c xs = (0, false) := by
  have := bndX_sq h
  exact ⟨this, imX_no (.inl (by rw [this]))⟩
theorem bnd_case {n : Nat} {xs : List Int} (h : isSq n n xs = true) : (bndX n n xs = (0, false) ∧ imX n n xs = (0, false)) ∨ ∃ b, bndX n n xs = (b, true) ∧ 0 ≤ b ∧ b ≤ 400000000 := by
  cases hb : bndTo n xs n with
  | none =>
    have := bndX_no h hb
    exact .inl ⟨this, imX_no (.inl (by rw [this]))⟩
  | some P => exact .inr ⟨P, bndX_yes h hb, (bndTo_says hb).1, (bndTo_says hb).2.1⟩
end Go.Proofs.YtcapddcmnjeloaaGreatDoor
end

section
/-
  Plain mathematics of chapter 9: the primes as the program's loop takes them. Nothing of the program is used but the list of the primes.
-/
namespace Go.Proofs.YtcapddcmnjeloaaGreatDoor
def big9 (L : List Int) : List Int := L.filter fun p => decide (101 ≤ p)
theorem big9_snoc_small {L : List Int} {x : Int} (h : x < 101) : big9 (L ++ [x]) = big9 L := by
  unfold big9
  rw [List.filter_append]
  simp
  omega
theorem big9_snoc {L : List Int} {x : Int} (h : 101 ≤ x) : big9 (L ++ [x]) = big9 L ++ [x] := by
  unfold big9
  rw [List.filter_append]
  simp [h]
theorem big9_mem {q : Nat} {r : Int} : r ∈ big9 (prmTo q) ↔ ∃ n : Nat, r = n ∧ n < q ∧ prmB (n : Int) = true ∧ 101 ≤ n := by
  unfold big9
  rw [List.mem_filter, prmTo_mem]
  constructor
  · rintro ⟨⟨n, rfl, h1, h2⟩, h3⟩
    exact ⟨n, rfl, h1, h2, by have := of_decide_eq_true h3; omega⟩
  · rintro ⟨n, rfl, h1, h2, h3⟩
    exact ⟨⟨n, rfl, h1, h2⟩, decide_eq_true (by omega)⟩
theorem mo9_mem {k : Nat} {r : Int} : r ∈ mo9 k ↔ ∃ i, i < k ∧ r = pr9 i := by
  unfold mo9
  rw [List.mem_map]
  constructor
  · rintro ⟨i, h1, rfl⟩
    exact ⟨i, List.mem_range.mp h1, rfl⟩
  · rintro ⟨i, h1, rfl⟩
    exact ⟨i, List.mem_range.mpr h1, rfl⟩
theorem pr9_lt : ∀ {i k : Nat}, i < k → k ≤ 4 → pr9 i < pr9 k := by
  intro i k h1 h2
  rcases (show (i = 0 ∧ k = 1) ∨ (i = 0 ∧ k = 2) ∨ (i = 0 ∧ k = 3) ∨ (i = 0 ∧ k = 4) ∨ (i = 1 ∧ k = 2) ∨ (i = 1 ∧ k = 3) ∨ (i = 1 ∧ k = 4) ∨ (i = 2 ∧ k = 3) ∨ (i = 2 ∧ k = 4) ∨ (i = 3 ∧ k = 4) by omega) with ⟨rfl, rfl⟩ | ⟨rfl, rfl⟩ | ⟨rfl, rfl⟩ | ⟨rfl, rfl⟩ | ⟨rfl, rfl⟩ | ⟨rfl, rfl⟩ | ⟨rfl, rfl⟩ | ⟨rfl, rfl⟩ | ⟨rfl, rfl⟩ | ⟨rfl, rfl⟩ <;> decide
theorem nx9 {k q : Nat} (hk : k ≤ 4) (hq : prmB (q : Int) = true) (h1 : 101 ≤ q) (hf : big9 (prmTo q) = mo9 k) : (q : Int) = pr9 k := by
  have b1 := pr9_num k
  have up : (q : Int) ≤ pr9 k := by
    refine Int.not_lt.mp fun hlt => ?_
    obtain ⟨n, hn⟩ := Int.eq_ofNat_of_zero_le (show 0 ≤ pr9 k by omega)
    have hm : pr9 k ∈ big9 (prmTo q) := big9_mem.mpr ⟨n, hn, by omega, by rw [← hn]; exact pr9_prime k, by omega⟩
    rw [hf] at hm
    obtain ⟨i, hi, e⟩ := mo9_mem.mp hm
    have := pr9_lt hi hk
    omega
  have far : ∀ i, i < k → (q : Int) ≠ pr9 i := fun i hi e => by
    have hm : pr9 i ∈ big9 (prmTo q) := by rw [hf]; exact mo9_mem.mpr ⟨i, hi, rfl⟩
    obtain ⟨n, hn, h2, -, -⟩ := big9_mem.mp hm
    omega
  have g := pr9_gap q h1 (by omega) hq
  have e0 : pr9 0 = 101 := rfl
  have e1 : pr9 1 = 103 := rfl
  have e2 : pr9 2 = 107 := rfl
  have e3 : pr9 3 = 109 := rfl
  have e4 : pr9 4 = 113 := rfl
  rcases (show k = 0 ∨ k = 1 ∨ k = 2 ∨ k = 3 ∨ k = 4 by omega) with rfl | rfl | rfl | rfl | rfl
  · omega
  · have := far 0 (by omega)
    omega
  · have := far 0 (by omega)
    have := far 1 (by omega)
    omega
  · have := far 0 (by omega)
    have := far 1 (by omega)
    have := far 2 (by omega)
    omega
  · have := far 0 (by omega)
    have := far 1 (by omega)
    have := far 2 (by omega)
    have := far 3 (by omega)
    omega
theorem last9 {k : Nat} (hf : big9 (prmTo 10001) = mo9 k) : False := by
  have hm : (127 : Int) ∈ big9 (prmTo 10001) := big9_mem.mpr ⟨127, rfl, by decide, by decide +kernel, by decide⟩
  rw [hf] at hm
  obtain ⟨i, -, e⟩ := mo9_mem.mp hm
  have := pr9_num i
  omega
def pq9 (k : Nat) : Int := if k ≤ 4 then pp9 k else 13710311357
theorem pq9_low {k : Nat} (h : k ≤ 4) : pq9 k = pp9 k := if_pos h
theorem pq9_num (k : Nat) : 1 ≤ pq9 k ∧ pq9 k ≤ 13710311357 := by
  unfold pq9
  have := pp9_num k
  split <;> omega
theorem pq9_big {k : Nat} {b : Int} (hb : b ≤ 400000000) (h : pq9 k ≤ 2 * b) : k ≤ 4 := by
  unfold pq9 at h
  split at h <;> omega
theorem pq9_step {k : Nat} (h : k ≤ 4) : pq9 k * pr9 k = pq9 (k + 1) := by
  rcases (show k = 0 ∨ k = 1 ∨ k = 2 ∨ k = 3 ∨ k = 4 by omega) with rfl | rfl | rfl | rfl | rfl <;> decide
theorem pq9_four {b : Int} {k : Nat} (hk : k = 4) (h : pq9 k ≤ 2 * b) : 121330189 ≤ 2 * b := by
  subst hk
  have e : pq9 4 = 121330189 := rfl
  omega
theorem chi9_five (D : Int) : chiX (re9 D 5) (mo9 5) = (0, 0, false) := chiX_no (.inl (by decide +kernel))
end Go.Proofs.YtcapddcmnjeloaaGreatDoor
end

section
/-
  Two lists of ints that appends go on with, in different blocks.
-/
namespace Go.Proofs.YtcapddcmnjeloaaGreatDoor
open Go.RowKit
theorem grown_below {w w' : World} (h : Below w.heap.size w w') : w.grownBy w' none := ⟨h.os, h.tape, h.output, h.size, fun k hk _ => h.block k hk⟩
theorem not_none (v : Value) : v.ownBlock = none ∨ v.ownBlock ≠ none := by cases v.ownBlock <;> simp
theorem rowL_form {w : World} {base n : Nat} {e : TypeId} {size : Nat} {v : Value} {xs : List Value} (h : w.ownsRow base e size v n xs) : ∃ a c, v = .slice a n c := by
  obtain ⟨h1, ⟨h2, h3⟩ | ⟨g, cap, cur, e, -⟩⟩ := h
  · exact ⟨_, _, by rw [h2, h3]⟩
  · exact ⟨_, _, e⟩
structure TwoL (B : Nat) (w : World) (v1 v2 : Value) (l1 l2 : List Int) : Prop where
  r1 : w.ownsRow B 3 1 v1 l1.length (l1.map (Value.int .i64))
  r2 : w.ownsRow B 3 1 v2 l2.length (l2.map (Value.int .i64))
  ne : ∀ b, v1.ownBlock = some b → v2.ownBlock ≠ some b
theorem TwoL.swap {B : Nat} {w : World} {v1 v2 : Value} {l1 l2 : List Int} (h : TwoL B w v1 v2 l1 l2) : TwoL B w v2 v1 l2 l1 := ⟨h.r2, h.r1, fun b h1 h2 => h.ne b h2 h1⟩
theorem TwoL.grown {B : Nat} {w w' : World} {v1 v2 : Value} {l1 l2 : List Int} {row : Option Nat} (h : TwoL B w v1 v2 l1 l2) (hg : w.grownBy w' row) (hr : ∀ k, row = some k → k < B) : TwoL B w' v1 v2 l1 l2 := by
  have far : ∀ {v : Value} {l : List Int}, w.ownsRow B 3 1 v l.length (l.map (Value.int .i64)) → v.ownBlock = none ∨ v.ownBlock ≠ row := fun {v l} ho => by
    cases hv : v.ownBlock with
    | none => exact .inl rfl
    | some b =>
      refine .inr fun e => ?_
      have := hr b e.symm
      have := (ho.lt b hv).1
      omega
  exact ⟨h.r1.kept hg (far h.r1), h.r2.kept hg (far h.r2), h.ne⟩
theorem TwoL.keep {B : Nat} {w w' : World} {v1 v2 : Value} {l1 l2 : List Int} (h : TwoL B w v1 v2 l1 l2) (hb : Below w.heap.size w w') : TwoL B w' v1 v2 l1 l2 := h.grown (grown_below hb) (fun k hk => by cases hk)
theorem TwoL.alloc {B : Nat} {w : World} {v1 v2 : Value} {l1 l2 : List Int} (h : TwoL B w v1 v2 l1 l2) (o : Obj) : TwoL B (w.alloc o) v1 v2 l1 l2 := ⟨h.r1.alloc o, h.r2.alloc o, h.ne⟩
theorem TwoL.app1 {B : Nat} {w w' : World} {v1 v1' v2 : Value} {l1 l2 : List Int} {x : Int} (h : TwoL B w v1 v2 l1 l2) (ho : w'.ownsRow B 3 1 v1' (l1.length + 1) (l1.map (Value.int .i64) ++ [.int .i64 x])) (hg : w.grownBy w' v1.ownBlock) (hor : v1'.ownBlock = v1.ownBlock ∨ v1'.ownBlock = some w.heap.size) : TwoL B w' v1' v2 (l1 ++ [x]) l2 := by
  refine ⟨?_, h.r2.kept hg ?_, fun b hb hb2 => ?_⟩
  · rw [List.map_append, List.length_append]; exact ho
  · cases e : v1.ownBlock with
    | none => exact not_none v2
    | some b => exact .inr (h.ne b e)
  · rcases hor with e | e
    · exact h.ne b (e.symm.trans hb) hb2
    · have := (h.r2.lt b hb2).2
      rw [e] at hb
      injection hb with hb
      omega
theorem TwoL.start (w : World) {B : Nat} (hB : B ≤ w.heap.size) : TwoL B ((w.alloc (.cells #[] 3)).alloc (.cells #[] 3)) (.slice (some ⟨w.heap.size, 0, none⟩) 0 0) (.slice (some ⟨w.heap.size + 1, 0, none⟩) 0 0) [] [] := by
  refine ⟨⟨rfl, .inr ⟨w.heap.size, 0, #[], rfl, hB, ?_, Nat.le_refl _, by decide, rfl, rfl⟩⟩, ⟨rfl, .inr ⟨w.heap.size + 1, 0, #[], rfl, by omega, ?_, Nat.le_refl _, by decide, rfl, rfl⟩⟩, fun b h h' => ?_⟩
  · exact (heap_alloc_old _ _ (by simp)).trans (heap_alloc_new w _)
  · have hn := heap_alloc_new (w.alloc (.cells #[] 3)) (.cells #[] 3)
    rw [show (w.alloc (.cells #[] 3)).heap.size = w.heap.size + 1 by simp] at hn
    exact hn
  · simp only [Value.ownBlock] at h h'
    injection h with h
    injection h' with h'
    omega
end Go.Proofs.YtcapddcmnjeloaaGreatDoor
end

section
/-
  Chapter 9, in the program: what DeterminantByImages' loop knows of memory.
-/
namespace Go.Proofs.YtcapddcmnjeloaaGreatDoor
open Go.RowKit
theorem row_move {w w' : World} {B n : Nat} {v : Value} {xs : List Value} (h : w.ownsRow B 3 1 v n xs) (hb : ∀ k, v.ownBlock = some k → w'.heap[k]? = w.heap[k]?) : w'.ownsRow B 3 1 v n xs := by
  obtain ⟨h1, ⟨h2, h3⟩ | ⟨g, cap, cur, rfl, hB, hg, rest⟩⟩ := h
  · exact ⟨h1, .inl ⟨h2, h3⟩⟩
  · exact ⟨h1, .inr ⟨g, cap, cur, rfl, hB, (hb g rfl).trans hg, rest⟩⟩
theorem TwoL.move {B : Nat} {w w' : World} {v1 v2 : Value} {l1 l2 : List Int} (h : TwoL B w v1 v2 l1 l2) (h1 : ∀ k, v1.ownBlock = some k → w'.heap[k]? = w.heap[k]?) (h2 : ∀ k, v2.ownBlock = some k → w'.heap[k]? = w.heap[k]?) : TwoL B w' v1 v2 l1 l2 := ⟨row_move h.r1 h1, row_move h.r2 h2, h.ne⟩
structure ImJ (w : World) (n N : Nat) (a : Option Addr) (m B : Nat) (b D : Int) (k : Nat) (v6 v7 : Value) (M : Nat → Prop) (W : World) : Prop where
  bnd : Blk1 W B 3 (.int .i64 b)
  im : Blk1 W (B + 3) 24 v6
  mo : Blk1 W (B + 4) 24 v7
  pr : Blk1 W (B + 5) 3 (.int .i64 (pq9 k))
  mat : Blk3 W w.heap.size 26 (.int .i64 n) (.int .i64 n) (.slice a N m)
  bel : Below w.heap.size w W
  two : TwoL (B + 1) W v6 v7 (re9 D k) (mo9 k)
  o6 : ∀ g, v6.ownBlock = some g → g < B + 3 ∨ M g
  o7 : ∀ g, v7.ownBlock = some g → g < B + 3 ∨ M g
  lt : w.heap.size < B
theorem ImJ.ab {w : World} {n N : Nat} {a : Option Addr} {m B : Nat} {b D : Int} {k : Nat} {v6 v7 : Value} {M : Nat → Prop} {W W' : World} {row : Option Nat} (h : ImJ w n N a m B b D k v6 v7 M W) (hg : W.grownBy W' row) (hr : ∀ r, row = some r → B + 6 ≤ r ∧ ¬ M r) : ImJ w n N a m B b D k v6 v7 M W' := by
  have keep : ∀ g, g < W.heap.size → g < B + 6 ∨ M g → W'.heap[g]? = W.heap[g]? := fun g hl h1 => hg.block g hl (fun e => by
    obtain ⟨r1, r2⟩ := hr g e.symm
    rcases h1 with h1 | h1
    · omega
    · exact r2 h1)
  have low := h.lt
  refine ⟨(keep _ h.bnd.lt (.inl (by omega))).trans h.bnd, (keep _ h.im.lt (.inl (by omega))).trans h.im, (keep _ h.mo.lt (.inl (by omega))).trans h.mo, (keep _ h.pr.lt (.inl (by omega))).trans h.pr, (keep _ h.mat.lt (.inl (by omega))).trans h.mat, ?_, h.two.move (fun g hg' => keep g (h.two.r1.lt g hg').2 ((h.o6 g hg').imp (fun h1 => by omega) id)) (fun g hg' => keep g (h.two.r2.lt g hg').2 ((h.o7 g hg').imp (fun h1 => by omega) id)), h.o6, h.o7, h.lt⟩
  exact h.bel.grown hg h.bel.size (fun r e => by have := hr r e; omega)
structure Rg10 (E c6 c7 : Nat) (v6 v7 : Value) (W : World) (u6 u7 : Value) (l6 l7 : List Int) (W' : World) : Prop where
  os : W'.os = W.os
  tape : W'.tape = W.tape
  output : W'.output = W.output
  size : W.heap.size ≤ W'.heap.size
  blk : ∀ g, g < W.heap.size → v6.ownBlock ≠ some g → v7.ownBlock ≠ some g → g ≠ c6 → g ≠ c7 → W'.heap[g]? = W.heap[g]?
  two : TwoL E W' u6 u7 l6 l7
  o6 : u6.ownBlock = v6.ownBlock ∨ ∃ g, u6.ownBlock = some g ∧ W.heap.size ≤ g
  o7 : u7.ownBlock = v7.ownBlock ∨ ∃ g, u7.ownBlock = some g ∧ W.heap.size ≤ g
  far : ∀ g, v6.ownBlock = some g ∨ v7.ownBlock = some g → g ≠ c6 ∧ g ≠ c7
  cs : c6 < W.heap.size ∧ c7 < W.heap.size
theorem Rg10.start {E c6 c7 : Nat} {v6 v7 : Value} {W : World} {l6 l7 : List Int} (h : TwoL E W v6 v7 l6 l7) (hf : ∀ g, v6.ownBlock = some g ∨ v7.ownBlock = some g → g ≠ c6 ∧ g ≠ c7) (hc : c6 < W.heap.size ∧ c7 < W.heap.size) : Rg10 E c6 c7 v6 v7 W v6 v7 l6 l7 W.drew :=
  ⟨rfl, rfl, rfl, Nat.le_refl _, fun _ _ _ _ _ _ => rfl, ⟨h.r1, h.r2, h.ne⟩, .inl rfl, .inl rfl, hf, hc⟩
theorem Rg10.alloc {E c6 c7 : Nat} {v6 v7 u6 u7 : Value} {W W' : World} {l6 l7 : List Int} (h : Rg10 E c6 c7 v6 v7 W u6 u7 l6 l7 W') (o : Obj) : Rg10 E c6 c7 v6 v7 W u6 u7 l6 l7 (W'.alloc o) :=
  ⟨h.os, h.tape, h.output, by have := h.size; simp; omega, fun g h1 h2 h3 h4 h5 => (Below.heap_alloc _ _ g (by have := h.size; omega)).trans (h.blk g h1 h2 h3 h4 h5), h.two.alloc o, h.o6, h.o7, h.far, h.cs⟩
theorem Rg10.app6 {E c6 c7 : Nat} {v6 v7 u6 u7 u6' : Value} {W W' W2 : World} {l6 l7 : List Int} {x : Int} (h : Rg10 E c6 c7 v6 v7 W u6 u7 l6 l7 W') (ho : W2.ownsRow E 3 1 u6' (l6.length + 1) (l6.map (Value.int .i64) ++ [.int .i64 x])) (hg : W'.grownBy W2 u6.ownBlock) (hor : u6'.ownBlock = u6.ownBlock ∨ u6'.ownBlock = some W'.heap.size) : Rg10 E c6 c7 v6 v7 W u6' u7 (l6 ++ [x]) l7 W2 := by
  have sz := h.size
  refine ⟨hg.os.trans h.os, hg.tape.trans h.tape, hg.output.trans h.output, Nat.le_trans h.size hg.size, fun g h1 h2 h3 h4 h5 => (hg.block g (by omega) (fun e => ?_)).trans (h.blk g h1 h2 h3 h4 h5), h.two.app1 ho hg hor, ?_, h.o7, h.far, h.cs⟩
  · rcases h.o6 with e2 | ⟨g', e2, h6⟩
    · exact h2 (e2.symm.trans e.symm)
    · rw [e2] at e
      injection e with e
      omega
  · rcases hor with e | e
    · rw [e]; exact h.o6
    · exact .inr ⟨_, e, sz⟩
theorem Rg10.app7 {E c6 c7 : Nat} {v6 v7 u6 u7 u7' : Value} {W W' W2 : World} {l6 l7 : List Int} {x : Int} (h : Rg10 E c6 c7 v6 v7 W u6 u7 l6 l7 W') (ho : W2.ownsRow E 3 1 u7' (l7.length + 1) (l7.map (Value.int .i64) ++ [.int .i64 x])) (hg : W'.grownBy W2 u7.ownBlock) (hor : u7'.ownBlock = u7.ownBlock ∨ u7'.ownBlock = some W'.heap.size) : Rg10 E c6 c7 v6 v7 W u6 u7' l6 (l7 ++ [x]) W2 := by
  have sz := h.size
  refine ⟨hg.os.trans h.os, hg.tape.trans h.tape, hg.output.trans h.output, Nat.le_trans h.size hg.size, fun g h1 h2 h3 h4 h5 => (hg.block g (by omega) (fun e => ?_)).trans (h.blk g h1 h2 h3 h4 h5), (h.two.swap.app1 ho hg hor).swap, h.o6, ?_, h.far, h.cs⟩
  · rcases h.o7 with e2 | ⟨g', e2, h6⟩
    · exact h3 (e2.symm.trans e.symm)
    · rw [e2] at e
      injection e with e
      omega
  · rcases hor with e | e
    · rw [e]; exact h.o7
    · exact .inr ⟨_, e, sz⟩
theorem Rg10.apart {E c6 c7 : Nat} {v6 v7 u6 u7 : Value} {W W' : World} {l6 l7 : List Int} (h : Rg10 E c6 c7 v6 v7 W u6 u7 l6 l7 W') {g : Nat} (hg : u6.ownBlock = some g ∨ u7.ownBlock = some g) : g ≠ c6 ∧ g ≠ c7 := by
  obtain ⟨s1, s2⟩ := h.cs
  rcases hg with hg | hg
  · rcases h.o6 with e | ⟨g', e, h6⟩
    · exact h.far g (.inl (e.symm.trans hg))
    · rw [e] at hg; injection hg with hg; omega
  · rcases h.o7 with e | ⟨g', e, h6⟩
    · exact h.far g (.inr (e.symm.trans hg))
    · rw [e] at hg; injection hg with hg; omega
theorem Rg10.box {E c6 c7 : Nat} {v6 v7 u6 u7 : Value} {W W' : World} {l6 l7 : List Int} (h : Rg10 E c6 c7 v6 v7 W u6 u7 l6 l7 W') {c : Nat} (hc : c = c6 ∨ c = c7) (u : Value) : Rg10 E c6 c7 v6 v7 W u6 u7 l6 l7 (W'.setCell ⟨c, 0, none⟩ u) := by
  have far : ∀ g, u6.ownBlock = some g ∨ u7.ownBlock = some g → g ≠ c := fun g hg => by have := h.apart hg; omega
  refine ⟨h.os, h.tape, h.output, by simpa [World.setCell] using h.size, fun g h1 h2 h3 h4 h5 => (Below.heap_setCell W' ⟨c, 0, none⟩ u g (by show g ≠ c; omega)).trans (h.blk g h1 h2 h3 h4 h5), h.two.move (fun g hg => Below.heap_setCell W' ⟨c, 0, none⟩ u g (far g (.inl hg))) (fun g hg => Below.heap_setCell W' ⟨c, 0, none⟩ u g (far g (.inr hg))), h.o6, h.o7, h.far, h.cs⟩
theorem ImJ.next {w : World} {n N : Nat} {a : Option Addr} {m B : Nat} {b D : Int} {k : Nat} {v6 v7 u6 u7 : Value} {M : Nat → Prop} {W W1 W2 : World} {P : Int}
    (h : ImJ w n N a m B b D k v6 v7 M W) (hb : Below W.heap.size W W1) (hM : ∀ g, M g → B + 8 ≤ g ∧ g < W.heap.size) (hr : Rg10 (B + 1) (B + 3) (B + 4) v6 v7 W1 u6 u7 (re9 D (k + 1)) (mo9 (k + 1)) W2) (c6 : Blk1 W2 (B + 3) 24 u6) (c7 : Blk1 W2 (B + 4) 24 u7) (hP : P = pq9 (k + 1)) :
    Blk1 W2 (B + 5) 3 (.int .i64 (pq9 k)) ∧ (W2.heap[B + 5]? = W.heap[B + 5]?) ∧ ∃ M', KpY (B + 6) M M' W (W2.setCell ⟨B + 5, 0, none⟩ (.int .i64 P)) ∧ ImJ w n N a m B b D (k + 1) u6 u7 M' (W2.setCell ⟨B + 5, 0, none⟩ (.int .i64 P)) := by
  subst hP
  have s1 := hb.size
  have s2 := hr.size
  have low := h.lt
  have same : ∀ g, g < W.heap.size → v6.ownBlock ≠ some g → v7.ownBlock ≠ some g → g ≠ B + 3 → g ≠ B + 4 → W2.heap[g]? = W.heap[g]? := fun g h1 h2 h3 h4 h5 => (hr.blk g (by omega) h2 h3 h4 h5).trans (hb.block g h1)
  have n6 : ∀ g, (g = B ∨ (B + 5 ≤ g ∧ ¬ M g) ∨ g = w.heap.size) → v6.ownBlock ≠ some g := fun g hg e => by
    have h1 := h.o6 g e
    have h2 := (h.two.r1.lt g e).1
    rcases hg with hg | ⟨hg, hg2⟩ | hg
    · omega
    · rcases h1 with h1 | h1
      · omega
      · exact hg2 h1
    · omega
  have n7 : ∀ g, (g = B ∨ (B + 5 ≤ g ∧ ¬ M g) ∨ g = w.heap.size) → v7.ownBlock ≠ some g := fun g hg e => by
    have h1 := h.o7 g e
    have h2 := (h.two.r2.lt g e).1
    rcases hg with hg | ⟨hg, hg2⟩ | hg
    · omega
    · rcases h1 with h1 | h1
      · omega
      · exact hg2 h1
    · omega
  have nM : ∀ g, g < B + 8 → ¬ M g := fun g hg hm => by have := hM g hm; omega
  have e5 := same (B + 5) h.pr.lt (n6 _ (.inr (.inl ⟨by omega, nM _ (by omega)⟩))) (n7 _ (.inr (.inl ⟨by omega, nM _ (by omega)⟩))) (by omega) (by omega)
  have p5 : Blk1 W2 (B + 5) 3 (.int .i64 (pq9 k)) := e5.trans h.pr
  refine ⟨p5, e5, fun g => M g ∨ ((u6.ownBlock = some g ∨ u7.ownBlock = some g) ∧ W.heap.size ≤ g), ⟨?_, fun g h1 h2 h3 => ?_, fun g hg => ?_⟩, ?_⟩
  · simp [World.setCell]; omega
  · exact (Below.heap_setCell W2 ⟨B + 5, 0, none⟩ _ g (by show g ≠ B + 5; omega)).trans (same g h2 (n6 g (.inr (.inl ⟨by omega, h3⟩))) (n7 g (.inr (.inl ⟨by omega, h3⟩))) (by omega) (by omega))
  · have z : (W2.setCell ⟨B + 5, 0, none⟩ (.int .i64 (pq9 (k + 1)))).heap.size = W2.heap.size := by simp [World.setCell]
    rw [z]
    rcases hg with hg | ⟨hg | hg, h1⟩
    · exact ⟨.inl hg, by have := hM g hg; omega⟩
    · exact ⟨.inr h1, (hr.two.r1.lt g hg).2⟩
    · exact ⟨.inr h1, (hr.two.r2.lt g hg).2⟩
  · have a6 : ∀ g, u6.ownBlock = some g → g < B + 3 ∨ (M g ∨ ((u6.ownBlock = some g ∨ u7.ownBlock = some g) ∧ W.heap.size ≤ g)) := fun g hg => by
      rcases hr.o6 with e | ⟨g', e, h6⟩
      · exact (h.o6 g (e.symm.trans hg)).imp id .inl
      · rw [e] at hg; injection hg with hg; exact .inr (.inr ⟨.inl (by rw [e, hg]), by omega⟩)
    have a7 : ∀ g, u7.ownBlock = some g → g < B + 3 ∨ (M g ∨ ((u6.ownBlock = some g ∨ u7.ownBlock = some g) ∧ W.heap.size ≤ g)) := fun g hg => by
      rcases hr.o7 with e | ⟨g', e, h6⟩
      · exact (h.o7 g (e.symm.trans hg)).imp id .inl
      · rw [e] at hg; injection hg with hg; exact .inr (.inr ⟨.inr (by rw [e, hg]), by omega⟩)
    have p6 : ∀ g, u6.ownBlock = some g → g ≠ B + 5 := fun g hg e => by
      have h5 := h.pr.lt
      rcases a6 g hg with h1 | h1 | h1
      · omega
      · have := hM g h1; omega
      · omega
    have p7 : ∀ g, u7.ownBlock = some g → g ≠ B + 5 := fun g hg e => by
      have h5 := h.pr.lt
      rcases a7 g hg with h1 | h1 | h1
      · omega
      · have := hM g h1; omega
      · omega
    have b0 : Blk1 W2 B 3 (.int .i64 b) := (same B h.bnd.lt (n6 _ (.inl rfl)) (n7 _ (.inl rfl)) (by omega) (by omega)).trans h.bnd
    have m0 : Blk3 W2 w.heap.size 26 (.int .i64 n) (.int .i64 n) (.slice a N m) := (same _ h.mat.lt (n6 _ (.inr (.inr rfl))) (n7 _ (.inr (.inr rfl))) (by omega) (by omega)).trans h.mat
    refine ⟨b0.far (by show B ≠ B + 5; omega) _, c6.far (by show B + 3 ≠ B + 5; omega) _, c7.far (by show B + 4 ≠ B + 5; omega) _, p5.set0 _, m0.far (by show w.heap.size ≠ B + 5; omega) _, ?_, hr.two.move (fun g hg => Below.heap_setCell W2 ⟨B + 5, 0, none⟩ _ g (p6 g hg)) (fun g hg => Below.heap_setCell W2 ⟨B + 5, 0, none⟩ _ g (p7 g hg)), a6, a7, h.lt⟩
    have bw : Below w.heap.size w W1 := h.bel.trans (hb.mono h.bel.size)
    refine Below.setCell ⟨hr.os.trans bw.os, hr.tape.trans bw.tape, hr.output.trans bw.output, Nat.le_trans bw.size hr.size, fun g hg => ?_⟩ (by show w.heap.size ≤ B + 5; omega) _
    exact (hr.blk g (by have := bw.size; omega) (fun e => by have := (h.two.r1.lt g e).1; omega) (fun e => by have := (h.two.r2.lt g e).1; omega) (by omega) (by omega)).trans (bw.block g hg)
end Go.Proofs.YtcapddcmnjeloaaGreatDoor
end

section
/-
  A region that draws its order within a round of a range over a function: as outside of it. No function of the program is named.
-/
namespace Go.Proofs.YtcapddcmnjeloaaGreatDoor
def notDefer (o : Oper) : Bool := match o.op with
  | .defer _ => false
  | _ => true
theorem wpOpIn_of_op {l n : Nat} {P : Program} {ops : Array Oper} {Q : Exit → Act → World → Prop} (hq : ¬ LetsOut Q) (hd : ∀ (i : Nat) (o : Oper), ops[i]? = some o → notDefer o = true) {i : Nat} {K K' : Act → World → Prop} {a : Act} {w : World} (hK : ∀ a w, K a w → K' a w) (h : wpOp P ops Q i K a w) : wpOpIn (Fence.wide.inRound l) n P ops Q i K' a w := by
  unfold wpOp at h
  unfold wpOpIn
  cases ho : ops[i]? with
  | none => rw [ho] at h; exact hK _ _ h
  | some o =>
    rw [ho] at h
    dsimp only at h ⊢
    have hp : ∀ c, o.op ≠ .defer c := fun c e => by
      have := hd i o ho
      unfold notDefer at this
      rw [e] at this
      cases this
    by_cases hw : Region.wanted o (yielded ops a.tmps) = true
    · rw [if_pos hw] at h ⊢
      rcases h with h | ⟨-, h⟩
      · refine ⟨fun _ _ => trivial, ?_⟩
        rw [Oper.semAt_eq _ _ _ hp]
        unfold Oper.wp at h
        generalize (execOp a.eval o).run P w = r at h ⊢
        cases r with
        | ok x w' =>
          cases x with
          | value v => exact hK _ _ h
          | skip => exact hK _ _ h
          | defer d => exact hK _ _ h
          | enter f args =>
            refine ⟨fun hh => Bool.noConfusion (show false = true from hh), ?_⟩
            have h1 : CallsIn Fence.wide (n - 1) P f args w' _ := callsIn_wide.2 h
            exact CallsIn.mono (F := Fence.wide.inRound l) h1 (fun e w'' he => by
              cases e with
              | returned v => exact hK _ _ he
              | panicked c => exact he
              | outgrown => exact he)
          | row r args =>
            refine ⟨fun hh => Bool.noConfusion (show false = true from hh), fun c cs _ => ?_⟩
            obtain ⟨v, w'', r1, s⟩ := h c cs
            exact ⟨v, w'', hK _ _ r1, stepsIn_wide.2 s⟩
          | _ => exact h.elim
        | halt x w' => cases x <;> exact h
      · exact absurd h hq
    · rw [if_neg hw] at h ⊢
      exact ⟨fun _ _ => trivial, hK _ _ h⟩
theorem wpAnyIn_of_any {l n : Nat} {P : Program} {ops : Array Oper} {Q : Exit → Act → World → Prop} {md : Region.Mode} (hq : ¬ LetsOut Q) (hd : ∀ (i : Nat) (o : Oper), ops[i]? = some o → notDefer o = true) :
    ∀ (fuel : Nat) (listed : Array Bool) (a : Act) (w : World), wpAny P md ops Q fuel listed a w → wpAnyIn (Fence.wide.inRound l) n P md ops Q fuel listed a w
  | 0, _, _, _, h => h
  | fuel + 1, _, _, _, h => ⟨h.1, fun i hi => wpOpIn_of_op hq hd (fun a w => wpAnyIn_of_any hq hd fuel _ a w) (h.2 i hi)⟩
theorem wpIn_region_roundT {l n : Nat} {P : Program} {id : Nat} {ops : Array Oper} {Q : Exit → Act → World → Prop} {a : Act} {w : World} {S : World → Prop} {T : Nat → Bool} (Post : Act → World → Prop) (hm : P.follows .mixedOrders = true) (hd : ops.toList.all notDefer = true)
    (h : wpAnyT P .any ops (fun e a w => e = .normal ∧ Post a w) S T ops.size (Array.replicate ops.size false) a w.drew) (hQ : ∀ a' w', Post a' w' → Q .normal a' w') : (Code.region id ops true).wpIn (Fence.wide.inRound l) n P Q a w := by
  refine wpIn_mono (Q := fun e a w => e = .normal ∧ Post a w) (wpIn_region_any hm (wpAnyIn_of_any ?_ ?_ _ _ _ _ (wpAny_of_T _ _ _ _ h))) ?_
  · rintro ⟨a, w, e, -⟩
    cases e
  · intro i o ho
    rw [List.all_eq_true] at hd
    exact hd o (by rw [Array.getElem?_eq_some_iff] at ho; obtain ⟨hi, e⟩ := ho; rw [← e]; exact Array.getElem_mem_toList hi)
  · rintro e a' w' ⟨rfl, h'⟩
    exact hQ a' w' h'
end Go.Proofs.YtcapddcmnjeloaaGreatDoor
end

section
/-
  Chapter 9, in the program: productOf, AreModuli, SymmetricOf.
-/
namespace Go.Proofs.YtcapddcmnjeloaaGreatDoor
set_option maxRecDepth 100000
open Go.RowKit
def pdTo (xs : List Int) : Nat → Option Int
  | 0 => some 1
  | i + 1 => match pdTo xs i with
    | none => none
    | some P => if NumP (xs.getD i 0) ∧ NumP (P * xs.getD i 0) then some (P * xs.getD i 0) else none
def pdX (xs : List Int) : Int × Bool := match pdTo xs xs.length with | some P => (P, true) | none => (0, false)
theorem pdTo_none {xs : List Int} {i : Nat} (h : pdTo xs i = none) : ∀ j, i ≤ j → pdTo xs j = none
  | 0, hj => by obtain rfl : i = 0 := by omega
                exact h
  | j + 1, hj => by
    rcases Nat.lt_or_ge i (j + 1) with h1 | h1
    · show (match pdTo xs j with | none => none | some P => _) = none
      rw [pdTo_none h j (by omega)]
    · obtain rfl : i = j + 1 := by omega
      exact h
theorem pdTo_yes {xs : List Int} {i : Nat} {P x : Int} (h : pdTo xs i = some P) (hx : xs.getD i 0 = x) (h1 : NumP x) (h2 : NumP (P * x)) : pdTo xs (i + 1) = some (P * x) := by
  show (match pdTo xs i with | none => none | some P => if NumP (xs.getD i 0) ∧ NumP (P * xs.getD i 0) then some (P * xs.getD i 0) else none) = _
  rw [h, hx]
  exact if_pos ⟨h1, h2⟩
theorem pdTo_no {xs : List Int} {i : Nat} {P x : Int} (h : pdTo xs i = some P) (hx : xs.getD i 0 = x) (h1 : ¬ (NumP x ∧ NumP (P * x))) : pdTo xs (i + 1) = none := by
  show (match pdTo xs i with | none => none | some P => if NumP (xs.getD i 0) ∧ NumP (P * xs.getD i 0) then some (P * xs.getD i 0) else none) = _
  rw [h, hx]
  exact if_neg h1
theorem pdX_no {xs : List Int} {i : Nat} (hi : i ≤ xs.length) (h : pdTo xs i = none) : pdX xs = (0, false) := by
  unfold pdX; rw [pdTo_none h _ hi]
theorem pdX_yes {xs : List Int} {P : Int} (h : pdTo xs xs.length = some P) : pdX xs = (P, true) := by
  unfold pdX; rw [h]
theorem pdTo_says {xs : List Int} : ∀ {i : Nat} {P : Int}, pdTo xs i = some P → NumP P ∧ prodI (atL xs) i = P ∧ ∀ k, k < i → NumP (xs.getD k 0) ∧ NumP (prodI (atL xs) (k + 1))
  | 0, P, h => by
    cases h
    exact ⟨⟨by decide, by decide⟩, rfl, fun k hk => absurd hk (by omega)⟩
  | i + 1, P, h => by
    cases hb : pdTo xs i with
    | none => rw [pdTo_none hb (i + 1) (by omega)] at h; cases h
    | some Q =>
      obtain ⟨q0, q1, q2⟩ := pdTo_says hb
      by_cases h1 : NumP (xs.getD i 0) ∧ NumP (Q * xs.getD i 0)
      · rw [pdTo_yes hb rfl h1.1 h1.2] at h
        cases h
        have e : prodI (atL xs) (i + 1) = Q * xs.getD i 0 := by show prodI (atL xs) i * atL xs i = _; rw [q1]; rfl
        refine ⟨h1.2, e, fun k hk => ?_⟩
        rcases Nat.lt_or_ge k i with h2 | h2
        · exact q2 k h2
        · obtain rfl : k = i := by omega
          exact ⟨h1.1, by rw [e]; exact h1.2⟩
      · rw [pdTo_no hb rfl h1] at h; cases h
set_option maxHeartbeats 1000000 in
theorem iProd (a : Option Addr) (m : Nat) (xs : List Int) (w : World) (h : Rd w a xs) (hn : xs.length ≤ 16777216) :
    Calls Tryz.prog 102 #[.slice a xs.length m] w fun e w' => e = .returned (.tuple #[.int .i64 (pdX xs).1, .bool (pdX xs).2]) ∧ w = w' := by
  have YS : Hid (∀ (i : Nat) (P x : Int), pdTo xs i = some P → xs.getD i 0 = x → NumP x → NumP (P * x) → pdTo xs (i + 1) = some (P * x)) := fun i P x h1 h2 h3 h4 => pdTo_yes h1 h2 h3 h4
  have NO : Hid (∀ (i : Nat) (P x : Int), i < xs.length → pdTo xs i = some P → xs.getD i 0 = x → ¬ (NumP x ∧ NumP (P * x)) → pdX xs = (0, false)) := fun i P x h1 h2 h3 h4 => pdX_no (i := i + 1) h1 (pdTo_no h2 h3 h4)
  have DN : Hid (∀ P, pdTo xs xs.length = some P → pdX xs = (P, true)) := fun P h => pdX_yes h
  have SA : Hid (∀ i P, pdTo xs i = some P → NumP P) := fun i P h => (pdTo_says h).1
  have Z : Hid (pdTo xs 0 = some 1) := rfl
  have RD := Lib.hid h
  obtain ⟨N, hN⟩ : ∃ N, xs.length = N := ⟨_, rfl⟩
  rw [hN] at NO DN hn ⊢
  have XN := Lib.hid hN
  generalize pdX xs = RES at NO DN ⊢
  clear h hN
  go_enter Tryz.func102, Tryz.ntmps102
  go_wp2_with fail
  go_loopw [4, 9] (fun v4 v9 wr => ∃ (i : Nat) (P : Int), v4 = .int .i64 P ∧ v9 = .int .i64 i ∧ i ≤ N ∧ pdTo xs i = some P ∧ wr = w) (fun _ v9 _ => N - (intOf v9).toNat)
  case atStart => exact ⟨0, 1, rfl, rfl, by omega, Z.out, rfl⟩
  case round =>
    obtain ⟨i, P, rfl, rfl, hi, hp, rfl⟩ := hrel
    have HP := Lib.hid hp
    obtain ⟨P0, P1⟩ := SA.out i P hp
    clear hp
    by_cases hlt : i < N
    · obtain ⟨b, o, rfl, hcell⟩ := RD.out i (by rw [XN.out]; exact hlt)
      obtain ⟨x, hx⟩ : ∃ x, xs.getD i 0 = x := ⟨_, rfl⟩
      rw [hx] at hcell
      have X := Lib.hid hx
      clear hx
      by_cases hr : -400000000 ≤ x ∧ x ≤ 400000000
      · obtain ⟨c0, c1⟩ := mul_num P x ⟨P0, P1⟩ hr
        obtain ⟨Q, hQ⟩ : ∃ Q, P * x = Q := ⟨_, rfl⟩
        rw [hQ] at c0 c1
        have d1 : IntKind.i64.wrap (P * x) = Q := by rw [hQ]; exact IntWalk.i64_in _ (by omega)
        have HQ := Lib.hid hQ
        clear hQ
        by_cases hq : -400000000 ≤ Q ∧ Q ≤ 400000000
        · have S := Lib.hid (YS.out i P x HP.out X.out hr (by rw [HQ.out]; exact hq))
          rw [HQ.out] at S
          go_wp2_with fail
          refine (iIsNum_t x _ hr.1 hr.2).mono ?_
          rintro e w' ⟨rfl, rfl⟩
          go_wp2_with fail
          refine (iIsNum_t Q _ hq.1 hq.2).mono ?_
          rintro e w' ⟨rfl, rfl⟩
          go_wp2_with fail
          go_roundw
          case rel => exact ⟨i + 1, Q, rfl, by go_num, by omega, S.out, by first | rfl | trivial⟩
          case measure => simp [intOf]; omega
        · have V := Lib.hid (NO.out i P x hlt HP.out X.out (by rw [HQ.out]; exact fun h => hq h.2))
          have hq' : Q < -400000000 ∨ 400000000 < Q := by omega
          clear hq
          go_wp2_with fail
          refine (iIsNum_t x _ hr.1 hr.2).mono ?_
          rintro e w' ⟨rfl, rfl⟩
          go_wp2_with fail
          refine (iIsNum_f Q _ hq').mono ?_
          rintro e w' ⟨rfl, rfl⟩
          go_wp2_with fail
          rw [V.out]
          exact bodyPost_ret (v := .tuple #[.int .i64 0, .bool false]) (by simp [results, Tryz.results102, go_sem]) rfl ⟨rfl, rfl⟩
      · have V := Lib.hid (NO.out i P x hlt HP.out X.out (fun h => hr h.1))
        have hr' : x < -400000000 ∨ 400000000 < x := by omega
        clear hr
        go_wp2_with fail
        refine (iIsNum_f x _ hr').mono ?_
        rintro e w' ⟨rfl, rfl⟩
        go_wp2_with fail
        rw [V.out]
        exact bodyPost_ret (v := .tuple #[.int .i64 0, .bool false]) (by simp [results, Tryz.results102, go_sem]) rfl ⟨rfl, rfl⟩
    · obtain rfl : i = N := by omega
      have V := Lib.hid (DN.out P HP.out)
      go_wp2_with fail
      rw [V.out]
      exact bodyPost_ret (v := .tuple #[.int .i64 P, .bool true]) (by simp [results, Tryz.results102, go_sem]) rfl ⟨rfl, rfl⟩
theorem modB_prod {l : List Int} (h : modB l = true) : pdX l = (prodI (atL l) l.length, true) := by
  obtain ⟨-, hmo, hr, hp⟩ := modB_says h
  have key : ∀ i, i ≤ l.length → pdTo l i = some (prodI (atL l) i) := by
    intro i
    induction i with
    | zero => intro _; rfl
    | succ i ih =>
      intro hi
      have h1 := hr i (by omega)
      have h2 := hp (i + 1) hi
      have h3 := (hmo.less hi).pos
      have e : prodI (atL l) (i + 1) = prodI (atL l) i * atL l i := rfl
      rw [e] at h2 h3 ⊢
      exact pdTo_yes (ih (by omega)) rfl ⟨by show -400000000 ≤ atL l i; omega, h1.2⟩ ⟨by show -400000000 ≤ prodI (atL l) i * atL l i; omega, h2⟩
  exact pdX_yes (key _ (Nat.le_refl _))
theorem modB_pair {l : List Int} (h : modB l = true) {i j : Nat} (hj : j < i) (hi : i < l.length) : (atL l j).gcd (atL l i) = 1 := by
  obtain ⟨-, hmo, -, -⟩ := modB_says h
  have h1 := (hmo i hi).2
  have h2 : atL l j ∣ prodI (atL l) i := prodI_dvd hj
  exact Nat.eq_one_of_dvd_one (by rw [← h1]; exact Int.gcd_dvd_gcd_of_dvd_left _ h2)
theorem prodI_cop {f : Nat → Int} {x : Int} : ∀ {i : Nat}, (∀ j, j < i → (f j).gcd x = 1) → (prodI f i).gcd x = 1
  | 0, _ => Int.one_gcd
  | i + 1, h => by
    show (prodI f i * f i).gcd x = 1
    have h1 := prodI_cop (i := i) fun j hj => h j (by omega)
    have h2 := h i (by omega)
    unfold Int.gcd at h1 h2 ⊢
    rw [Int.natAbs_mul]
    exact Nat.Coprime.mul_left h1 h2
theorem modB_of {l : List Int} (h8 : l.length ≤ 8) (hp : (pdX l).2 = true) (h2 : ∀ i, i < l.length → 2 ≤ atL l i) (hg : ∀ i j, j < i → i < l.length → (atL l j).gcd (atL l i) = 1) : modB l = true := by
  unfold pdX at hp
  cases hb : pdTo l l.length with
  | none => rw [hb] at hp; cases hp
  | some P =>
    obtain ⟨-, -, hs⟩ := pdTo_says hb
    exact modB_true h8 fun i hi => modOk_true ⟨h2 i hi, (hs i hi).1.2⟩ (prodI_cop fun j hj => hg i j hj hi) (hs i hi).2.2
theorem pdX_nums {l : List Int} (hp : (pdX l).2 = true) {i : Nat} (hi : i < l.length) : NumP (l.getD i 0) := by
  unfold pdX at hp
  cases hb : pdTo l l.length with
  | none => rw [hb] at hp; cases hp
  | some P => exact ((pdTo_says hb).2.2 i hi).1
set_option maxHeartbeats 2000000 in
theorem iModu (a : Option Addr) (m : Nat) (xs : List Int) (w : World) (h : Rd w a xs) (hn : xs.length ≤ 16777216) (hm : xs.length ≤ m) :
    Calls Tryz.prog 108 #[.slice a xs.length m] w fun e w' => e = .returned (.bool (modB xs)) ∧ ∃ n, w' = w.drewN n := by
  have LG : Hid (¬ xs.length ≤ 8 → modB xs = false) := modB_long
  have PR : Hid (Calls Tryz.prog 102 #[.slice a xs.length m] w fun e w' => e = .returned (.tuple #[.int .i64 (pdX xs).1, .bool (pdX xs).2]) ∧ w = w') := iProd a m xs w h hn
  have NP : Hid ((pdX xs).2 = false → modB xs = false) := fun h => by
    cases hb : modB xs with
    | false => rfl
    | true => rw [modB_prod hb] at h; cases h
  have LO : Hid (∀ (i : Nat) (x : Int), i < xs.length → xs.getD i 0 = x → x < 2 → modB xs = false) := fun i x h1 h2 h3 => modB_bad h1 (modOk_low (by show ¬ (2 ≤ xs.getD i 0 ∧ _); omega))
  have GC : Hid (∀ (i j : Nat) (x y : Int), j < i → i < xs.length → xs.getD j 0 = x → xs.getD i 0 = y → x.gcd y ≠ 1 → modB xs = false) := fun i j x y h1 h2 h3 h4 h5 => by
    cases hb : modB xs with
    | false => rfl
    | true => exact absurd (by rw [← h3, ← h4]; exact modB_pair hb h1 h2) h5
  have YS : Hid (xs.length ≤ 8 → (pdX xs).2 = true → (∀ i, i < xs.length → 2 ≤ xs.getD i 0) → (∀ i j, j < i → i < xs.length → (xs.getD j 0).gcd (xs.getD i 0) = 1) → modB xs = true) := fun h1 h2 h3 h4 => modB_of h1 h2 h3 h4
  have NU : Hid ((pdX xs).2 = true → ∀ (i : Nat) (x : Int), i < xs.length → xs.getD i 0 = x → NumP x) := fun h1 i x h2 h3 => by rw [← h3]; exact pdX_nums h1 h2
  have RD := Lib.hid h
  obtain ⟨N, hN⟩ : ∃ N, xs.length = N := ⟨_, rfl⟩
  rw [hN] at LG PR LO GC YS NU hn hm ⊢
  have XN := Lib.hid hN
  generalize pdX xs = PX at PR NP YS NU
  generalize modB xs = bb at LG NP LO GC YS ⊢
  obtain ⟨pv, pb⟩ := PX
  clear h hN
  by_cases h8 : N ≤ 8
  · go_enter Tryz.func108, Tryz.ntmps108
    go_wp2_with fail
    refine PR.out.mono ?_
    rintro e w1 ⟨rfl, rfl⟩
    cases pb with
    | false =>
      have V := Lib.hid (NP.out rfl)
      go_wp2_with fail
      go_ret
      exact ⟨by rw [V.out]; rfl, 0, rfl⟩
    | true =>
      go_wp2_with fail
      go_loopw [21] (fun v21 wr => ∃ i : Nat, v21 = .int .i64 i ∧ i ≤ N ∧ (∀ k, k < i → 2 ≤ xs.getD k 0 ∧ ∀ j, j < k → (xs.getD j 0).gcd (xs.getD k 0) = 1) ∧ ∃ n, wr = w.drewN n) (fun v21 _ => N - (intOf v21).toNat)
      case atStart => exact ⟨0, rfl, by omega, fun k hk => by omega, 0, rfl⟩
      case round =>
        obtain ⟨i, rfl, hi, hk, n, rfl⟩ := hrel
        have HK := Lib.hid hk
        clear hk
        by_cases hlt : i < N
        · obtain ⟨b, o, rfl, hcell⟩ := (RD.out.drewN n) i (by rw [XN.out]; exact hlt)
          obtain ⟨x, hx⟩ : ∃ x, xs.getD i 0 = x := ⟨_, rfl⟩
          rw [hx] at hcell
          have X := Lib.hid hx
          clear hx
          obtain ⟨x0, x1⟩ := NU.out (by first | rfl | trivial) i x hlt X.out
          by_cases h2 : x < 2
          · have V := Lib.hid (LO.out i x hlt X.out h2)
            go_wp2_with fail
            go_ret
            exact ⟨by rw [V.out]; rfl, n, rfl⟩
          · go_wp2_with fail
            go_loopw [32] (fun v32 wr => ∃ j : Nat, v32 = .int .i64 j ∧ j ≤ i ∧ (∀ k, k < j → (xs.getD k 0).gcd x = 1) ∧ ∃ n, wr = w.drewN n) (fun v32 _ => i - (intOf v32).toNat)
            case atStart => exact ⟨0, rfl, by omega, fun k hk => by omega, n, rfl⟩
            case round =>
              obtain ⟨j, rfl, hj, hg, n2, rfl⟩ := hrel
              have HG := Lib.hid hg
              clear hg hcell
              by_cases hlj : j < i
              · obtain ⟨b', o', e', hcell⟩ := (RD.out.drewN n2) j (by rw [XN.out]; omega)
                cases e'
                obtain ⟨y, hy⟩ : ∃ y, xs.getD j 0 = y := ⟨_, rfl⟩
                rw [hy] at hcell
                have Y := Lib.hid hy
                clear hy
                obtain ⟨y0, y1⟩ := NU.out (by first | rfl | trivial) j y (by omega) Y.out
                by_cases hg1 : y.gcd x = 1
                · have g1 : ((y.gcd x : Nat) : Int) = 1 := by rw [hg1]; rfl
                  go_wp2_with fail
                  refine (iGcd y x _ ⟨y0, y1⟩ ⟨x0, x1⟩).mono ?_
                  rintro e w' ⟨rfl, k, rfl⟩
                  rw [g1]
                  clear g1
                  go_wp2_with fail
                  go_roundw
                  case rel => exact ⟨j + 1, by go_num, by omega, fun k hk => by
                    rcases Nat.lt_or_ge k j with h1 | h1
                    · exact HG.out k h1
                    · obtain rfl : k = j := by omega
                      rw [Y.out]; exact hg1, n2 + k, rfl⟩
                  case measure => simp [intOf]; omega
                · have V := Lib.hid (GC.out i j y x hlj hlt Y.out X.out hg1)
                  have g0 : y.gcd x ≠ 0 := fun e => by
                    have := Int.gcd_eq_zero_iff.mp e
                    omega
                  have g1 : decide (((y.gcd x : Nat) : Int) > 1) = true := by simp; omega
                  go_wp2_with fail
                  refine (iGcd y x _ ⟨y0, y1⟩ ⟨x0, x1⟩).mono ?_
                  rintro e w' ⟨rfl, k, rfl⟩
                  generalize ((y.gcd x : Nat) : Int) = gg at g1 ⊢
                  clear g0 hg1
                  go_wp2_with fail
                  go_ret
                  exact ⟨by rw [V.out]; rfl, n2 + k, rfl⟩
              · obtain rfl : j = i := by omega
                go_wp2_with fail
                go_roundw
                case rel => exact ⟨j + 1, by go_num, by omega, fun k hk => by
                  rcases Nat.lt_or_ge k j with h1 | h1
                  · exact HK.out k h1
                  · obtain rfl : k = j := by omega
                    rw [X.out]; exact ⟨by omega, HG.out⟩, n2, by first | rfl | trivial⟩
                case measure => simp [intOf]; omega
        · obtain rfl : i = N := by omega
          have V := Lib.hid (YS.out h8 (by first | rfl | trivial) (fun k hk => (HK.out k hk).1) (fun k j h1 h2 => (HK.out k h2).2 j h1))
          go_wp2_with fail
          go_ret
          exact ⟨by rw [V.out]; rfl, n, rfl⟩
  · have V := Lib.hid (LG.out h8)
    have n0 : decide (((N : Nat) : Int) > 8) = true := by simp; omega
    go_enter Tryz.func108, Tryz.ntmps108
    go_wp2_with fail
    go_ret
    exact ⟨by rw [V.out]; rfl, 0, rfl⟩
theorem iSymm (x m : Int) (w : World) : Calls Tryz.prog 64 #[.int .i64 x, .int .i64 m] w fun e w' => e = .returned (.tuple #[.int .i64 (symX x m).1, .bool (symX x m).2]) ∧ ∃ n, w' = w.drewN n := by
  by_cases h1 : NumP x ∧ 1 ≤ m ∧ m ≤ 400000000
  · obtain ⟨⟨x0, x1⟩, m0, m1⟩ := h1
    obtain ⟨r, hr⟩ : ∃ r, x % m = r := ⟨_, rfl⟩
    have r0 : 0 ≤ r := by rw [← hr]; exact Int.emod_nonneg _ (by omega)
    have r1 : r < m := by rw [← hr]; exact Int.emod_lt_of_pos _ (by omega)
    have V := Lib.hid (symX_yes (x := x) (m := m) ⟨⟨x0, x1⟩, m0, m1⟩)
    have E : Hid (symM x m = if m < 2 * r then r - m else r) := by show _ = _; rw [← hr]; rfl
    have R := Lib.hid hr
    have d1 : IntKind.i64.wrap (2 * r) = 2 * r := IntWalk.i64_in _ (by omega)
    have d2 : IntKind.i64.wrap (r - m) = r - m := IntWalk.i64_in _ (by omega)
    clear hr
    go_enter Tryz.func64, Tryz.ntmps64
    go_wp2_with fail
    refine (iDiv x m _ x0 x1 (by omega) (by omega) (by omega)).mono ?_
    rintro e w' ⟨rfl, n, rfl⟩
    rw [R.out]
    by_cases h3 : m < 2 * r
    · go_wp2_with fail
      rw [V.out, E.out, if_pos h3]
      exact bodyPost_ret (v := .tuple #[.int .i64 (r - m), .bool true]) (by simp [results, Tryz.results64, go_sem]) rfl ⟨rfl, n, rfl⟩
    · go_wp2_with fail
      rw [V.out, E.out, if_neg (by omega)]
      exact bodyPost_ret (v := .tuple #[.int .i64 r, .bool true]) (by simp [results, Tryz.results64, go_sem]) rfl ⟨rfl, n, rfl⟩
  · have V := Lib.hid (symX_no h1)
    by_cases h2 : (-400000000 ≤ x ∧ x ≤ 400000000) ∧ (-400000000 ≤ m ∧ m ≤ 400000000) ∧ m ≠ 0
    · obtain ⟨⟨x0, x1⟩, ⟨m0, m1⟩, mz⟩ := h2
      have n0 : decide (m < 1) = true := by simp; unfold NumP at h1; omega
      have mz' : m ≠ 0 := mz
      generalize x % m = r
      clear h1
      go_enter Tryz.func64, Tryz.ntmps64
      go_wp2_with fail
      refine (iDiv x m _ x0 x1 m0 m1 mz').mono ?_
      rintro e w' ⟨rfl, n, rfl⟩
      clear mz mz'
      go_wp2_with fail
      rw [V.out]
      exact bodyPost_ret (v := .tuple #[.int .i64 0, .bool false]) (by simp [results, Tryz.results64, go_sem]) rfl ⟨rfl, n, rfl⟩
    · clear h1
      go_enter Tryz.func64, Tryz.ntmps64
      go_wp2_with fail
      refine (iDiv_f x m _ h2).mono ?_
      rintro e w' ⟨rfl, rfl⟩
      clear h2
      go_wp2_with fail
      rw [V.out]
      exact bodyPost_ret (v := .tuple #[.int .i64 0, .bool false]) (by simp [results, Tryz.results64, go_sem]) rfl ⟨rfl, 0, rfl⟩
end Go.Proofs.YtcapddcmnjeloaaGreatDoor
end

section
/-
  Chapter 9, in the program: residue classes and what meets in them.
-/
namespace Go.Proofs.YtcapddcmnjeloaaGreatDoor
set_option maxRecDepth 100000
open Go.RowKit
theorem chi_meet {rs ms : List Int} {i : Nat} {x : Int} (hm : modB ms = true) (hi : i < ms.length) (h : ChiP (atL rs) (atL ms) i x) :
    ∃ p r P u z T : Int, ms.getD i 0 = p ∧ rs.getD i 0 = r ∧ prodI (atL ms) i = P ∧ (2 ≤ p ∧ p ≤ 400000000) ∧ (1 ≤ P ∧ P ≤ 400000000) ∧ (0 ≤ x ∧ x ≤ 400000000) ∧ egAns P p = (1, u, z) ∧ (-400000000 ≤ u ∧ u ≤ 400000000) ∧ (r - x) * u % p = T ∧ (0 ≤ T * P ∧ T * P ≤ 400000000) ∧ (0 ≤ x + T * P ∧ x + T * P ≤ 400000000) ∧ (1 ≤ P * p ∧ P * p ≤ 400000000) ∧ ChiP (atL rs) (atL ms) (i + 1) (x + T * P) ∧ prodI (atL ms) (i + 1) = P * p := by
  obtain ⟨-, hmo, hr, hp⟩ := modB_says hm
  obtain ⟨p2, p4⟩ := hr i hi
  have P1 := (hmo.less (Nat.le_of_lt hi)).pos
  have P4 := hp i (by omega)
  have Q4 := hp (i + 1) hi
  have eQ : prodI (atL ms) (i + 1) = prodI (atL ms) i * atL ms i := rfl
  obtain ⟨x0, x1⟩ := h.1
  obtain ⟨u, z, e, huz, b1, b2, -, -⟩ := egAns_is (prodI (atL ms) i) (atL ms i) ⟨by omega, by omega⟩ ⟨by omega, by omega⟩
  have hg : ((prodI (atL ms) i).gcd (atL ms i) : Int) = 1 := by rw [(hmo i hi).2]; rfl
  have st := h.step (u := u) (by omega) P1 ⟨-z, by rw [hg] at huz; rw [Int.mul_neg]; omega⟩
  obtain ⟨t0, t1⟩ := chT_can (x := x) (r := atL rs i) (p := atL ms i) (u := u) (by omega)
  have m0 : 0 ≤ prodI (atL ms) i * chT x (atL rs i) (atL ms i) u := Int.mul_nonneg (by omega) t0
  have s1 := st.1.2
  have q1 : 0 < prodI (atL ms) i * atL ms i := Int.mul_pos P1 (by omega)
  rw [hg] at e
  have eT : (atL rs i - x) * u % atL ms i = chT x (atL rs i) (atL ms i) u := Int.mul_emod _ _ _
  rw [Int.mul_comm] at m0
  rw [Int.mul_comm (prodI (atL ms) i) (chT x (atL rs i) (atL ms i) u)] at st s1
  exact ⟨atL ms i, atL rs i, prodI (atL ms) i, u, z, chT x (atL rs i) (atL ms i) u, rfl, rfl, rfl, ⟨p2, p4⟩, ⟨by omega, P4⟩, ⟨x0, by omega⟩, e, ⟨b1, b2⟩, eT, ⟨m0, by omega⟩, ⟨by omega, by omega⟩, ⟨by omega, by omega⟩, st, rfl⟩
set_option maxHeartbeats 2000000 in
theorem iMeet (x P r p u z T : Int) (w : World) (hx : 0 ≤ x ∧ x ≤ 400000000) (hP : 1 ≤ P ∧ P ≤ 400000000) (hr : -400000000 ≤ r ∧ r ≤ 400000000) (hp : 2 ≤ p ∧ p ≤ 400000000) (he : egAns P p = (1, u, z)) (hu : -400000000 ≤ u ∧ u ≤ 400000000) (hT : (r - x) * u % p = T) (h1 : 0 ≤ T * P ∧ T * P ≤ 400000000) (h2 : 0 ≤ x + T * P ∧ x + T * P ≤ 400000000) (h3 : 1 ≤ P * p ∧ P * p ≤ 400000000) :
    Calls Tryz.prog 154 #[.agg #[.int .i64 x, .int .i64 P], .agg #[.int .i64 r, .int .i64 p]] w (Gives (.agg #[.int .i64 (x + T * P), .int .i64 (P * p)]) w) := by
  obtain ⟨x0, x1⟩ := hx
  obtain ⟨P0, P1⟩ := hP
  obtain ⟨r0, r1⟩ := hr
  obtain ⟨p0, p1⟩ := hp
  obtain ⟨u0, u1⟩ := hu
  have HX : Hid (egVal (egAns P p) = .tuple #[.int .i64 1, .int .i64 u, .int .i64 z, .bool true]) := by show _ = _; rw [he]; rfl
  obtain ⟨A, hA⟩ : ∃ A, r - x = A := ⟨_, rfl⟩
  have d1 : IntKind.i64.wrap (r - x) = A := by rw [hA]; exact IntWalk.i64_in _ (by omega)
  have bA : (-800000000 ≤ A ∧ A ≤ 800000000) := by omega
  obtain ⟨C, hC⟩ : ∃ C, A * u = C := ⟨_, rfl⟩
  have bC : -320000000000000000 ≤ C ∧ C ≤ 320000000000000000 := by
    have h1 : (A * u).natAbs = A.natAbs * u.natAbs := Int.natAbs_mul _ _
    have h2 : A.natAbs * u.natAbs ≤ 800000000 * 400000000 := Nat.mul_le_mul (by omega) (by omega)
    omega
  have d2 : IntKind.i64.wrap (A * u) = C := by rw [hC]; exact IntWalk.i64_in _ (by omega)
  rw [hA, hC] at hT
  obtain ⟨t1, t2⟩ := (⟨by have := Int.tmod_lt_of_pos (-C) (show 0 < p by omega); rw [Int.neg_tmod] at this; omega, Int.tmod_lt_of_pos C (by omega)⟩ : -p < C.tmod p ∧ C.tmod p < p)
  have HU := Lib.hid (tdiv_up C p (by omega))
  have HD := Lib.hid (tdiv_down C p (by omega))
  obtain ⟨T0, hT0⟩ : ∃ T0, C.tmod p = T0 := ⟨_, rfl⟩
  rw [hT0] at t1 t2 HU HD
  have HT := Lib.hid hT
  obtain ⟨M, hM⟩ : ∃ M, T * P = M := ⟨_, rfl⟩
  rw [hM] at h1 h2 ⊢
  have d4 : IntKind.i64.wrap (T * P) = M := by rw [hM]; exact IntWalk.i64_in _ (by omega)
  obtain ⟨E, hE⟩ : ∃ E, x + M = E := ⟨_, rfl⟩
  rw [hE] at h2 ⊢
  have d5 : IntKind.i64.wrap (x + M) = E := by rw [hE]; exact IntWalk.i64_in _ (by omega)
  obtain ⟨F, hF⟩ : ∃ F, P * p = F := ⟨_, rfl⟩
  rw [hF] at h3 ⊢
  have d6 : IntKind.i64.wrap (P * p) = F := by rw [hF]; exact IntWalk.i64_in _ (by omega)
  have n0 : (p == 0) = false := by simp; omega
  clear hA hC hT hM hE hF he bA
  go_enter Tryz.func154, Tryz.ntmps154
  go_upto_region 1 with fail
  have K2 : Hid (Blk2 (((w.alloc (.cells #[.int .i64 x, .int .i64 P] 123)).alloc (.cells #[.int .i64 r, .int .i64 p] 123)).alloc (.cells #[.int .i64 0, .int .i64 0] 123)) w.heap.size 123 (.int .i64 x) (.int .i64 P)) := ((Blk2.at_ _ _ _ rfl).old _).old _
  have K3 : Hid (Blk2 (((w.alloc (.cells #[.int .i64 x, .int .i64 P] 123)).alloc (.cells #[.int .i64 r, .int .i64 p] 123)).alloc (.cells #[.int .i64 0, .int .i64 0] 123)) (w.heap.size + 1) 123 (.int .i64 r) (.int .i64 p)) := (Blk2.at_ _ _ _ (by simp)).old _
  have K4 : Hid (Blk2 (((w.alloc (.cells #[.int .i64 x, .int .i64 P] 123)).alloc (.cells #[.int .i64 r, .int .i64 p] 123)).alloc (.cells #[.int .i64 0, .int .i64 0] 123)) (w.heap.size + 2) 123 (.int .i64 0) (.int .i64 0)) := Blk2.at_ _ _ _ (by simp)
  have B : Hid (Below w.heap.size w (((w.alloc (.cells #[.int .i64 x, .int .i64 P] 123)).alloc (.cells #[.int .i64 r, .int .i64 p] 123)).alloc (.cells #[.int .i64 0, .int .i64 0] 123))) := (((Below.refl _ _).alloc (Nat.le_refl _) _).alloc (by simp) _).alloc (by simp; omega) _
  generalize (((w.alloc (.cells #[.int .i64 x, .int .i64 P] 123)).alloc (.cells #[.int .i64 r, .int .i64 p] 123)).alloc (.cells #[.int .i64 0, .int .i64 0] 123)) = W at K2 K3 K4 B ⊢
  obtain ⟨a0, a1, -, -⟩ := K2.out.all
  obtain ⟨c0, c1, -, -⟩ := K3.out.all
  go_wp2_with fail
  refine (iExt P p _ ⟨by omega, P1⟩ ⟨by omega, p1⟩).mono ?_
  rintro e w1 ⟨rfl, hb⟩
  rw [HX.out]
  have l2 := K2.out.lt
  have l3 := K3.out.lt
  have l4 := K4.out.lt
  have K2 := Lib.hid (K2.out.keep hb K2.out.lt)
  have K3 := Lib.hid (K3.out.keep hb K3.out.lt)
  have K4 := Lib.hid (K4.out.keep hb K4.out.lt)
  have B := Lib.hid (B.out.trans (hb.mono B.out.size))
  clear hb a0 a1 c0 c1 HX
  obtain ⟨a0, a1, -, -⟩ := K2.out.all
  obtain ⟨c0, c1, -, -⟩ := K3.out.all
  obtain ⟨f0, f1, f2, f3⟩ := K4.out.all
  by_cases hneg : T0 < 0
  · have eT : T0 + p = T := (HD.out hneg).2.symm.trans HT.out
    have d3 : IntKind.i64.wrap (T0 + p) = T := by rw [eT]; exact IntWalk.i64_in _ (by omega)
    clear eT
    go_wp2_with fail
    obtain ⟨E0, E1, -, -⟩ := ((K4.out.set0 (.int .i64 E)).set1 (.int .i64 F)).all
    exact bodyPost_ret (v := .agg #[.int .i64 E, .int .i64 F]) (by simp [results, Tryz.results154, go_sem, E0, E1]) rfl ⟨rfl, (B.out.setCell (by simp; omega) _).setCell (by simp; omega) _⟩
  · have eT : T0 = T := (HU.out (by omega)).2.symm.trans HT.out
    subst eT
    go_wp2_with fail
    obtain ⟨E0, E1, -, -⟩ := ((K4.out.set0 (.int .i64 E)).set1 (.int .i64 F)).all
    exact bodyPost_ret (v := .agg #[.int .i64 E, .int .i64 F]) (by simp [results, Tryz.results154, go_sem, E0, E1]) rfl ⟨rfl, (B.out.setCell (by simp; omega) _).setCell (by simp; omega) _⟩
def flat2 (rs ms : List Int) (n : Nat) : List Value := (List.range n).flatMap fun q => [.int .i64 (rs.getD q 0), .int .i64 (ms.getD q 0)]
theorem flat2_succ (rs ms : List Int) (n : Nat) : flat2 rs ms (n + 1) = flat2 rs ms n ++ [.int .i64 (rs.getD n 0), .int .i64 (ms.getD n 0)] := by unfold flat2; rw [List.range_succ, List.flatMap_append]; rfl
theorem flat2_length (rs ms : List Int) : ∀ n, (flat2 rs ms n).length = n * 2
  | 0 => rfl
  | n + 1 => by rw [flat2_succ, List.length_append, flat2_length rs ms n]; simp; omega
theorem flat2_at (rs ms : List Int) : ∀ {n q : Nat}, q < n → (flat2 rs ms n)[q * 2]? = some (.int .i64 (rs.getD q 0)) ∧ (flat2 rs ms n)[q * 2 + 1]? = some (.int .i64 (ms.getD q 0))
  | 0, q, h => by omega
  | n + 1, q, h => by
    have hl := flat2_length rs ms n
    rw [flat2_succ]
    rcases Nat.lt_or_ge q n with h1 | h1
    · obtain ⟨a, b⟩ := flat2_at rs ms h1
      rw [List.getElem?_append_left (by omega), List.getElem?_append_left (by omega)]
      exact ⟨a, b⟩
    · obtain rfl : q = n := by omega
      rw [List.getElem?_append_right (by omega), List.getElem?_append_right (by omega), hl]
      constructor
      · rw [Nat.sub_self]; rfl
      · rw [show q * 2 + 1 - q * 2 = 1 by omega]; rfl
def RdC (w : World) (a : Option Addr) (rs ms : List Int) (n : Nat) : Prop :=
  ∀ q : Nat, q < n → ∃ b o : Nat, a = some ⟨b, o, none⟩ ∧ b < w.heap.size ∧ w.cell? ⟨b, o + q * 2, none⟩ = some (.int .i64 (rs.getD q 0)) ∧ w.cell? ⟨b, o + q * 2 + 1, none⟩ = some (.int .i64 (ms.getD q 0))
theorem RdC.below {w w' : World} {a : Option Addr} {rs ms : List Int} {n : Nat} (h : RdC w a rs ms n) (hb : Below w.heap.size w w') : RdC w' a rs ms n := fun q hq => by
  obtain ⟨b, o, e, hl, h0, h1⟩ := h q hq
  have c : ∀ x : Nat, w'.cell? ⟨b, x, none⟩ = w.cell? ⟨b, x, none⟩ := fun x => (bcell hb).1 b x hl
  exact ⟨b, o, e, Nat.lt_of_lt_of_le hl hb.size, by rw [c]; exact h0, by rw [c]; exact h1⟩
theorem RdC.of_row {w : World} {B n m c : Nat} {a : Option Addr} {rs ms : List Int} (h : w.ownsRow B 123 2 (.slice a m c) n (flat2 rs ms n)) : RdC w a rs ms n := fun q hq => by
  obtain ⟨-, ⟨-, h2⟩ | ⟨g, cap, cur, e, -, hg, -, -, -, ht⟩⟩ := h
  · omega
  · injection e with e1
    subst e1
    obtain ⟨f0, f1⟩ := flat2_at rs ms hq
    rw [← ht] at f0 f1
    rw [List.getElem?_take] at f0 f1
    have i0 : (q * 2 < n * 2) := by omega
    have i1 : (q * 2 + 1 < n * 2) := by omega
    rw [if_pos i0] at f0
    rw [if_pos i1] at f1
    refine ⟨g, 0, rfl, lt_of_block hg, ?_, ?_⟩
    · simp only [World.cell?, hg, Nat.zero_add]
      simpa using f0
    · simp only [World.cell?, hg, Nat.zero_add]
      simpa using f1
theorem info_cls : (Tryz.prog.info? 123).map (fun i => (i.zero, i.size, i.bytes)) = some (some (.agg #[.int .i64 0, .int .i64 0]), 2, 16) := by kernel_rfl
theorem underlying_cls : Tryz.prog.underlying 121 = some (.slice 123) := by kernel_rfl
theorem facts_cls : ∃ i, Tryz.prog.info? 123 = some i ∧ i.zero = some (.agg #[.int .i64 0, .int .i64 0]) ∧ i.size = 2 ∧ i.bytes = 16 := by
  have h := info_cls
  cases hi : Tryz.prog.info? 123 with
  | none => rw [hi] at h; simp at h
  | some i => rw [hi] at h; simp only [Option.map_some, Option.some.injEq, Prod.mk.injEq] at h; exact ⟨i, rfl, h.1, h.2.1, h.2.2⟩
theorem cells2_new (w : World) (t : TypeId) (p q : Value) : ∀ j u, [p, q][j]? = some u → (w.alloc (.cells #[p, q] t)).cell? ((⟨w.heap.size, 0, none⟩ : Addr).add j) = some u := by
  intro j u hu
  obtain ⟨c0, c1, -, -⟩ := (Blk2.at_ t p q (rfl : w.heap.size = w.heap.size)).all
  match j, hu with
  | 0, h => simp only [List.getElem?_cons_zero, Option.some.injEq] at h; subst h; exact c0
  | 1, h => simp only [List.getElem?_cons_succ, List.getElem?_cons_zero, Option.some.injEq] at h; subst h; exact c1
  | j + 2, h => simp at h
set_option maxHeartbeats 2000000 in
theorem iMeetAll (a : Option Addr) (m : Nat) (rs ms : List Int) (w : World) (h : RdC w a rs ms ms.length) (hm : modB ms = true) (hr : ∀ k, k < ms.length → NumP (rs.getD k 0)) (hn : ms.length ≤ 16777216) :
    Calls Tryz.prog 109 #[.slice a ms.length m] w (fun e w' => ∃ x, e = .returned (.agg #[.int .i64 x, .int .i64 (prodI (atL ms) ms.length)]) ∧ ChiP (atL rs) (atL ms) ms.length x ∧ Below w.heap.size w w') := by
  have ST : Hid (∀ (i : Nat) (x : Int), i < ms.length → ChiP (atL rs) (atL ms) i x → _) := fun i x h2 h3 => chi_meet hm h2 h3
  have NU : Hid (∀ k, k < ms.length → NumP (rs.getD k 0)) := hr
  have Z := Lib.hid (ChiP.zero (atL rs) (atL ms))
  have RD := Lib.hid h
  have PZ : Hid (prodI (atL ms) 0 = 1) := rfl
  obtain ⟨N, hN⟩ : ∃ N, ms.length = N := ⟨_, rfl⟩
  rw [hN] at ST NU RD hn ⊢
  clear h hm hr hN
  go_enter Tryz.func109, Tryz.ntmps109
  go_wp2_with fail
  have ST0 : Hid (Blk2 ((w.alloc (.cells #[.int .i64 0, .int .i64 0] 123)).alloc (.cells #[.int .i64 0, .int .i64 1] 123)) w.heap.size 123 (.int .i64 0) (.int .i64 0) ∧ Blk2 ((w.alloc (.cells #[.int .i64 0, .int .i64 0] 123)).alloc (.cells #[.int .i64 0, .int .i64 1] 123)) (w.heap.size + 1) 123 (.int .i64 0) (.int .i64 1) ∧ Below w.heap.size w ((w.alloc (.cells #[.int .i64 0, .int .i64 0] 123)).alloc (.cells #[.int .i64 0, .int .i64 1] 123))) :=
    ⟨(Blk2.at_ _ _ _ rfl).old _, Blk2.at_ _ _ _ (by simp), ((Below.refl _ _).alloc (Nat.le_refl _) _).alloc (by simp) _⟩
  go_loopw [9] (fun v9 wr => ∃ (i : Nat) (x P : Int), v9 = .int .i64 i ∧ i ≤ N ∧ ChiP (atL rs) (atL ms) i x ∧ prodI (atL ms) i = P ∧ Blk2 wr w.heap.size 123 (.int .i64 0) (.int .i64 0) ∧ Blk2 wr (w.heap.size + 1) 123 (.int .i64 x) (.int .i64 P) ∧ Below w.heap.size w wr) (fun v9 _ => N - (intOf v9).toNat)
  case atStart => exact ⟨0, 0, 1, rfl, by omega, Z.out, PZ.out, ST0.out⟩
  case round =>
    clear ST0
    obtain ⟨i, x, P, rfl, hi, hx, hP, k2, k3, hb⟩ := hrel
    have X := Lib.hid hx
    have HP := Lib.hid hP
    have K2 := Lib.hid k2
    have K3 := Lib.hid k3
    have B := Lib.hid hb
    have s1 := hb.size
    have lt3 := k3.lt
    clear hx hP k2 k3 hb
    by_cases hlt : i < N
    · obtain ⟨p, r, P', u, z, T, ep, er, eP, hp, hP0, hx0, eg, hu, eT, h1, h2, h3, st, eQ⟩ := ST.out i x hlt X.out
      obtain rfl : P = P' := HP.out.symm.trans eP
      obtain ⟨b, o, rfl, lb, c0, c1⟩ := (RD.out.below B.out) i hlt
      rw [er] at c0
      rw [ep] at c1
      have ME : Hid (∀ w', Calls Tryz.prog 154 #[.agg #[.int .i64 x, .int .i64 P], .agg #[.int .i64 r, .int .i64 p]] w' (Gives (.agg #[.int .i64 (x + T * P), .int .i64 (P * p)]) w')) := fun w' => iMeet x P r p u z T w' hx0 hP0 (by rw [← er]; exact NU.out i hlt) hp eg hu eT h1 h2 h3
      have SS := Lib.hid st
      have EQ := Lib.hid eQ
      generalize x + T * P = E at ME SS
      generalize P * p = F at ME EQ
      clear ep er eP hp hP0 hx0 eg hu eT h1 h2 h3 st eQ
      obtain ⟨y0, y1, -, -⟩ := K3.out.all
      go_wp2_with fail
      refine (ME.out _).mono ?_
      rintro e w2 ⟨rfl, hb2⟩
      have K2 := Lib.hid ((K2.out.old (.cells #[.int .i64 r, .int .i64 p] 123)).keep hb2 (by simp; omega))
      have K3 := Lib.hid ((K3.out.old (.cells #[.int .i64 r, .int .i64 p] 123)).keep hb2 (by simp; omega))
      have B := Lib.hid ((B.out.alloc B.out.size (.cells #[.int .i64 r, .int .i64 p] 123)).trans (hb2.mono (by simp; omega)))
      clear hb2 y0 y1 c0 c1
      obtain ⟨y0, y1, y2, y3⟩ := K3.out.all
      have K4 := Lib.hid ((K3.out.set0 (.int .i64 E)).set1 (.int .i64 F))
      have K5 := Lib.hid ((K2.out.far (a := ⟨w.heap.size + 1, 0, none⟩) (by simp) (.int .i64 E)).far (a := ⟨w.heap.size + 1, 1, none⟩) (by simp) (.int .i64 F))
      have B5 := Lib.hid ((B.out.setCell (show w.heap.size ≤ (⟨w.heap.size + 1, 0, none⟩ : Addr).block by simp) (.int .i64 E)).setCell (show w.heap.size ≤ (⟨w.heap.size + 1, 1, none⟩ : Addr).block by simp) (.int .i64 F))
      go_wp2_with fail
      go_roundw
      case rel => exact ⟨i + 1, E, F, by go_num, by omega, SS.out, EQ.out, K5.out, K4.out, B5.out⟩
      case measure => simp [intOf]; omega
    · obtain rfl : i = N := by omega
      obtain ⟨y0, y1, -, -⟩ := K3.out.all
      obtain ⟨z0, z1, z2, z3⟩ := K2.out.all
      go_wp2_with fail
      obtain ⟨E0, E1, -, -⟩ := ((K2.out.set0 (.int .i64 x)).set1 (.int .i64 P)).all
      exact bodyPost_ret (v := .agg #[.int .i64 x, .int .i64 P]) (by simp [results, Tryz.results109, go_sem, E0, E1]) rfl ⟨x, by rw [HP.out], X.out, (B.out.setCell (Nat.le_refl _) _).setCell (Nat.le_refl _) _⟩
end Go.Proofs.YtcapddcmnjeloaaGreatDoor
end

section
/-
  Chapter 9, in the program: ChineseOf.
-/
namespace Go.Proofs.YtcapddcmnjeloaaGreatDoor
set_option maxRecDepth 100000
open Go.RowKit
theorem chi_fin {rs ms : List Int} {x : Int} (h1 : modB ms = true) (h2 : rs.length = ms.length) (h3 : ∀ k, k < ms.length → NumP (rs.getD k 0)) (h : ChiP (atL rs) (atL ms) ms.length x) : chiX rs ms = (x, prodI (atL ms) ms.length, true) :=
  chiX_yes h1 h2 (nums_true (by rw [h2]; exact h3)) h
set_option maxHeartbeats 4000000 in
theorem iChin (a a' : Option Addr) (m m' : Nat) (rs ms : List Int) (w : World) (h : Rd w a rs) (h' : Rd w a' ms) (hn : rs.length ≤ 16777216) (hn' : ms.length ≤ 16777216) (hm' : ms.length ≤ m') :
    Calls Tryz.prog 63 #[.slice a rs.length m, .slice a' ms.length m'] w (Gives (.tuple #[.int .i64 (chiX rs ms).1, .int .i64 (chiX rs ms).2.1, .bool (chiX rs ms).2.2]) w) := by
  have MO : Hid (Calls Tryz.prog 108 #[.slice a' ms.length m'] w fun e w2 => e = .returned (.bool (modB ms)) ∧ ∃ n, w2 = w.drewN n) := iModu a' m' ms w h' hn' hm'
  have N1 : Hid (modB ms = false → chiX rs ms = (0, 0, false)) := fun h => chiX_no (.inl h)
  have N2 : Hid (rs.length ≠ ms.length → chiX rs ms = (0, 0, false)) := fun h => chiX_no (.inr (.inl h))
  have N3 : Hid (∀ i, i < rs.length → ¬ NumP (rs.getD i 0) → chiX rs ms = (0, 0, false)) := fun i h1 h2 => chiX_no (.inr (.inr (nums_false h1 h2)))
  have L8 : Hid (modB ms = true → ms.length ≤ 8) := fun h => (modB_says h).1
  have ME : Hid (∀ (q : Option Addr) (c B : Nat) (w' : World), modB ms = true → rs.length = ms.length → (∀ k, k < ms.length → NumP (rs.getD k 0)) → w'.ownsRow B 123 2 (.slice q ms.length c) ms.length (flat2 rs ms ms.length) → Calls Tryz.prog 109 #[.slice q ms.length c] w' (fun e w2 => ∃ x P : Int, e = .returned (.agg #[.int .i64 x, .int .i64 P]) ∧ chiX rs ms = (x, P, true) ∧ Below w'.heap.size w' w2)) := fun q c B w' h1 h2 h3 h4 => (iMeetAll q c rs ms w' (RdC.of_row h4) h1 h3 hn').mono fun e w2 ⟨x, e1, e2, e3⟩ => ⟨x, _, e1, chi_fin h1 h2 h3 e2, e3⟩
  have R1 := Lib.hid h
  have R2 := Lib.hid h'
  obtain ⟨L, hL⟩ : ∃ L, rs.length = L := ⟨_, rfl⟩
  obtain ⟨N, hN⟩ : ∃ N, ms.length = N := ⟨_, rfl⟩
  rw [hL] at N2 N3 ME hn ⊢
  rw [hN] at MO N2 L8 ME hn' hm' ⊢
  have XL := Lib.hid hL
  have XN := Lib.hid hN
  generalize chiX rs ms = RES at N1 N2 N3 ME ⊢
  clear h h' hL hN
  go_enter Tryz.func63, Tryz.ntmps63
  go_wp2_with fail
  refine MO.out.mono ?_
  rintro e w1 ⟨rfl, n0, rfl⟩
  obtain ⟨bm, hbm⟩ : ∃ b, modB ms = b := ⟨_, rfl⟩
  rw [hbm] at N1 L8 ME ⊢
  clear hbm MO
  cases bm with
  | false =>
    have V := Lib.hid (N1.out rfl)
    go_wp2_with fail
    rw [V.out]
    exact bodyPost_ret (v := .tuple #[.int .i64 0, .int .i64 0, .bool false]) (by simp [results, Tryz.results63, go_sem]) rfl ⟨rfl, below_drewN (Below.refl _ _) _⟩
  | true =>
    have L8' := L8.out rfl
    by_cases hLN : L = N
    · subst hLN
      obtain ⟨fi, hfi, hz0, hz1, hz2⟩ := facts_cls
      go_wp2_with fail
      have O0 : Hid (((w.drewN n0).alloc (.cells #[] 123)).ownsRow w.heap.size 123 2 (.slice (some ⟨w.heap.size, 0, none⟩) 0 0) 0 (flat2 rs ms 0)) := ⟨rfl, .inr ⟨w.heap.size, 0, #[], rfl, Nat.le_refl _, heap_alloc_new (w.drewN n0) _, Nat.le_refl _, by decide, rfl, rfl⟩⟩
      have B0 : Hid (Below w.heap.size w ((w.drewN n0).alloc (.cells #[] 123))) := (below_drewN (Below.refl _ _) n0).alloc (Nat.le_refl _) _
      go_loopw [7, 24] (fun v7 v24 wr => ∃ i : Nat, v24 = .int .i64 i ∧ i ≤ L ∧ wr.ownsRow w.heap.size 123 2 v7 i (flat2 rs ms i) ∧ (∀ k, k < i → NumP (rs.getD k 0)) ∧ Below w.heap.size w wr) (fun _ v24 _ => L - (intOf v24).toNat)
      case atStart => exact ⟨0, rfl, by omega, O0.out, fun k hk => by omega, B0.out⟩
      case round =>
        clear O0 B0
        obtain ⟨i, rfl, hi, ho, hk, hb⟩ := hrel
        obtain ⟨q7, c7, rfl⟩ := rowL_form ho
        have O := Lib.hid ho
        have HK := Lib.hid hk
        have B := Lib.hid hb
        have s1 := hb.size
        clear ho hk hb
        by_cases hlt : i < L
        · obtain ⟨b, o, rfl, hc1⟩ := (R1.out.below B.out) i (by rw [XL.out]; exact hlt)
          obtain ⟨b', o', rfl, hc2⟩ := (R2.out.below B.out) i (by rw [XN.out]; exact hlt)
          have FS : Hid (flat2 rs ms (i + 1) = flat2 rs ms i ++ [.int .i64 (rs.getD i 0), .int .i64 (ms.getD i 0)]) := flat2_succ rs ms i
          have NX := Lib.hid (N3.out i hlt)
          have HK2 : Hid (NumP (rs.getD i 0) → ∀ k, k < i + 1 → NumP (rs.getD k 0)) := fun hq k hk => by
            rcases Nat.lt_or_ge k i with h1 | h1
            · exact HK.out k h1
            · obtain rfl : k = i := by omega
              exact hq
          generalize rs.getD i 0 = r at hc1 FS NX HK2
          generalize ms.getD i 0 = p at hc2 FS
          by_cases hr : -400000000 ≤ r ∧ r ≤ 400000000
          · go_wp2_with fail
            refine (iIsNum_t r _ hr.1 hr.2).mono ?_
            rintro e w' ⟨rfl, rfl⟩
            have O2 := Lib.hid (O.out.alloc (.cells #[.int .i64 r, .int .i64 p] 123))
            have B2 := Lib.hid (B.out.alloc B.out.size (.cells #[.int .i64 r, .int .i64 p] 123))
            go_wp2_with (at_builtin; refine wpList_append_own_at _ rfl _ _ 121 rfl w.heap.size 123 fi (.agg #[.int .i64 0, .int .i64 0]) 2 16 underlying_cls hfi hz0 hz1 hz2 rfl (by decide) _ _ _ rfl O2.out ⟨wr.heap.size, 0, none⟩ 1 1 [.int .i64 r, .int .i64 p] ?hx ?hl ?hnews ?h1 ?h63 ?hbytes ?hbase ?hnext)
            case hx => rfl
            case hl => rfl
            case hnews => exact cells2_new _ _ _ _
            case h1 => intro v hv; simp only [List.mem_cons, List.not_mem_nil, or_false] at hv; rcases hv with rfl | rfl <;> rfl
            case h63 => unfold maxLen; omega
            case hbytes => omega
            case hbase => exact B2.out.size
            case hnext =>
              rintro v2 w2 ho2 hg2 - -
              obtain ⟨ua, uc, rfl⟩ := rowL_form ho2
              rw [← FS.out] at ho2
              have O3 := Lib.hid ho2
              have B3 := Lib.hid (B2.out.grown hg2 B2.out.size (fun k hk => ownB_ge2 O2.out hk))
              clear ho2 hg2
              go_wp2_with fail
              go_roundw
              case rel => exact ⟨i + 1, by go_num, by omega, O3.out, HK2.out hr, B3.out⟩
              case measure => simp [intOf]; omega
          · have V := Lib.hid (NX.out hr)
            have hr' : r < -400000000 ∨ 400000000 < r := by omega
            clear hr
            go_wp2_with fail
            refine (iIsNum_f r _ hr').mono ?_
            rintro e w' ⟨rfl, rfl⟩
            go_wp2_with fail
            rw [V.out]
            exact bodyPost_ret (v := .tuple #[.int .i64 0, .int .i64 0, .bool false]) (by simp [results, Tryz.results63, go_sem]) rfl ⟨rfl, B.out⟩
        · obtain rfl : i = L := by omega
          have MX := Lib.hid (ME.out q7 c7 w.heap.size wr (by first | rfl | trivial) (by first | rfl | trivial) HK.out O.out)
          go_wp2_with fail
          refine MX.out.mono ?_
          rintro e w2 ⟨x, P, rfl, eR, hb2⟩
          have V := Lib.hid eR
          have B2 := Lib.hid (B.out.trans (hb2.mono B.out.size))
          clear eR hb2
          go_wp2_with fail
          have K : Hid (Blk2 (w2.alloc (.cells #[.int .i64 x, .int .i64 P] 123)) w2.heap.size 123 (.int .i64 x) (.int .i64 P)) := Blk2.at_ _ _ _ rfl
          have B3 := Lib.hid (B2.out.alloc B2.out.size (.cells #[.int .i64 x, .int .i64 P] 123))
          generalize w2.alloc (.cells #[.int .i64 x, .int .i64 P] 123) = W at K B3 ⊢
          obtain ⟨y0, y1, -, -⟩ := K.out.all
          go_quiet (fail)
          go_wp2_with fail
          rw [V.out]
          exact bodyPost_ret (v := .tuple #[.int .i64 x, .int .i64 P, .bool true]) (by simp [results, Tryz.results63, go_sem]) rfl ⟨rfl, by first | exact below_drewN B3.out _ | exact B3.out⟩
    · have V := Lib.hid (N2.out hLN)
      have n1 : ((L : Int) != (N : Int)) = true := by simp; omega
      clear hLN
      go_wp2_with fail
      rw [V.out]
      exact bodyPost_ret (v := .tuple #[.int .i64 0, .int .i64 0, .bool false]) (by simp [results, Tryz.results63, go_sem]) rfl ⟨rfl, below_drewN (Below.refl _ _) _⟩
end Go.Proofs.YtcapddcmnjeloaaGreatDoor
end

section
/-
  Chapter 9, in the program: RowBound.
-/
namespace Go.Proofs.YtcapddcmnjeloaaGreatDoor
set_option maxRecDepth 100000
open Go.RowKit
def sumsTo (n : Nat) (xs : List Int) (k : Nat) : List Int := (List.range n).map fun i => rowA n xs i (min n (k - i * n))
theorem sumsTo_length (n : Nat) (xs : List Int) (k : Nat) : (sumsTo n xs k).length = n := by simp [sumsTo]
theorem sumsTo_at {n : Nat} {xs : List Int} {k i : Nat} (h : i < n) : (sumsTo n xs k).getD i 0 = rowA n xs i (min n (k - i * n)) := by simp [sumsTo, List.getD, h]
theorem sumsTo_zero (n : Nat) (xs : List Int) : sumsTo n xs 0 = List.replicate n 0 := by
  refine list_eq (n := n) (sumsTo_length _ _ _) (by simp) fun j hj => ?_
  rw [sumsTo_at hj, Nat.zero_sub, Nat.min_zero, rowA_zero]
  simp [List.getD, hj]
theorem sumsTo_step {n : Nat} {xs : List Int} {i j : Nat} (hi : i < n) (hj : j < n) : (sumsTo n xs (i * n + j)).set i ((sumsTo n xs (i * n + j)).getD i 0 + ((xs.getD (i * n + j) 0).natAbs : Int)) = sumsTo n xs (i * n + j + 1) := by
  refine list_eq (n := n) (by rw [List.length_set, sumsTo_length]) (sumsTo_length _ _ _) fun q hq => ?_
  rw [getD_set _ _ _ _ (by rw [sumsTo_length]; exact hi), sumsTo_at hq, sumsTo_at hq, sumsTo_at hi]
  by_cases e : q = i
  · rw [if_pos e, e, show i * n + j - i * n = j by omega, show i * n + j + 1 - i * n = j + 1 by omega, Nat.min_eq_right (by omega), Nat.min_eq_right (by omega), rowA_step]
  · rw [if_neg e]
    rcases Nat.lt_or_ge q i with h1 | h1
    · have h2 : (q + 1) * n ≤ i * n := Nat.mul_le_mul_right n h1
      rw [Nat.add_mul, Nat.one_mul] at h2
      rw [Nat.min_eq_left (by omega), Nat.min_eq_left (by omega)]
    · have h2 : (i + 1) * n ≤ q * n := Nat.mul_le_mul_right n (by omega)
      rw [Nat.add_mul, Nat.one_mul] at h2
      rw [show i * n + j - q * n = 0 by omega, show i * n + j + 1 - q * n = 0 by omega]
theorem sumsTo_all {n : Nat} {xs : List Int} {i : Nat} (hi : i < n) : (sumsTo n xs (n * n)).getD i 0 = rowA n xs i n := by
  rw [sumsTo_at hi]
  have h2 : (i + 1) * n ≤ n * n := Nat.mul_le_mul_right n hi
  rw [Nat.add_mul, Nat.one_mul] at h2
  rw [Nat.min_eq_left (by omega)]
theorem rowA_le {n : Nat} {xs : List Int} (hx : nums xs = true) (i : Nat) : ∀ j, rowA n xs i j ≤ 400000000 * j
  | 0 => by show (0 : Int) ≤ _; omega
  | j + 1 => by
    have h1 := rowA_le (n := n) hx i j
    have h2 : ((xs.getD (i * n + j) 0).natAbs : Int) ≤ 400000000 := by
      rcases Nat.lt_or_ge (i * n + j) xs.length with h | h
      · obtain ⟨a, b⟩ := nums_at hx h
        omega
      · simp [List.getD, h]
    rw [rowA_step]
    omega
theorem sumsTo_bd {n : Nat} {xs : List Int} (hx : nums xs = true) (h6 : n ≤ 6) {k i : Nat} (hi : i < n) : 0 ≤ (sumsTo n xs k).getD i 0 ∧ (sumsTo n xs k).getD i 0 ≤ 2400000000 := by
  rw [sumsTo_at hi]
  have := rowA_nonneg n xs i (min n (k - i * n))
  have := rowA_le (n := n) hx i (min n (k - i * n))
  omega
theorem pd_bnd {n : Nat} {xs : List Int} : ∀ i, i ≤ n → pdTo (sumsTo n xs (n * n)) i = bndTo n xs i
  | 0, _ => rfl
  | i + 1, hi => by
    have ih := pd_bnd (n := n) (xs := xs) i (by omega)
    have e := sumsTo_all (n := n) (xs := xs) (i := i) (by omega)
    have r0 := rowA_nonneg n xs i n
    cases hb : bndTo n xs i with
    | none =>
      rw [hb] at ih
      rw [bndTo_none hb (i + 1) (by omega), pdTo_none ih (i + 1) (by omega)]
    | some P =>
      rw [hb] at ih
      obtain ⟨p0, p1, -⟩ := bndTo_says hb
      have q0 : 0 ≤ P * rowA n xs i n := Int.mul_nonneg p0 r0
      by_cases h : rowA n xs i n ≤ 400000000 ∧ P * rowA n xs i n ≤ 400000000
      · rw [bndTo_yes hb h.1 h.2, pdTo_yes ih e ⟨by omega, h.1⟩ ⟨by omega, h.2⟩]
      · rw [bndTo_no hb (by omega), pdTo_no ih e (fun k => h ⟨k.1.2, k.2.2⟩)]
theorem pdX_bnd {n : Nat} {xs : List Int} (h : isSq n n xs = true) : pdX (sumsTo n xs (n * n)) = bndX n n xs := by
  have e := pd_bnd (n := n) (xs := xs) n (Nat.le_refl _)
  unfold pdX
  rw [sumsTo_length, e]
  cases hb : bndTo n xs n with
  | none => rw [bndX_no h hb]
  | some P => rw [bndX_yes h hb]
set_option maxHeartbeats 1000000 in
theorem iBoundStep (g m mc i : Nat) (j z : Int) (L : List Int) (w : World) (hI : Ints w g L) (hi : i < m) (hl : m = L.length) (hz : -400000000 ≤ z ∧ z ≤ 400000000) (hs : 0 ≤ L.getD i 0 ∧ L.getD i 0 ≤ 2400000000) :
    Calls Tryz.prog 101 #[.slice (some ⟨g, 0, none⟩) m mc, .int .i64 (i : Int), .int .i64 j, .int .i64 z] w
      (fun e w2 => e = .returned (.slice (some ⟨g, 0, none⟩) m mc) ∧ Ints w2 g (L.set i (L.getD i 0 + (z.natAbs : Int))) ∧ w.grownBy w2 (some g)) := by
  obtain ⟨z0, z1⟩ := hz
  obtain ⟨s0, s1⟩ := hs
  have hold := hI.cell (i := i) (by omega)
  have hfr := hI.free i
  have I := Lib.hid hI
  obtain ⟨s, hs⟩ : ∃ s, L.getD i 0 = s := ⟨_, rfl⟩
  rw [hs] at hold s0 s1 ⊢
  have v1 : IntKind.i64.wrap (-z) = -z := IntWalk.i64_in _ (by omega)
  have v2 : max z (-z) = (z.natAbs : Int) := by omega
  have v3 : IntKind.i64.wrap (s + (z.natAbs : Int)) = s + (z.natAbs : Int) := IntWalk.i64_in _ (by omega)
  clear hI hs
  go_enter Tryz.func101, Tryz.ntmps101
  go_wp2_with fail
  go_ret
  exact ⟨rfl, I.out.set _ _, grown_set_one (World.grownBy.refl _ _) rfl _⟩
theorem boundStepOf (n g : Nat) (xs : List Int) (h6 : n ≤ 6) (hl : xs.length = n * n) (hx : nums xs = true) (k : Nat) (w1 : World) (hk : k < n * n) (hI : Ints w1 g (sumsTo n xs k)) :
    Calls Tryz.prog 101 #[.slice (some ⟨g, 0, none⟩) n n, .int .i64 ((k : Int) / (n : Int)), .int .i64 ((k : Int) % (n : Int)), .int .i64 (xs.getD k 0)] w1
      (fun e w2 => e = .returned (.slice (some ⟨g, 0, none⟩) n n) ∧ Ints w2 g (sumsTo n xs (k + 1)) ∧ w1.grownBy w2 (some g)) := by
  have hn : 0 < n := by
    rcases Nat.eq_zero_or_pos n with e | e
    · rw [e] at hk; omega
    · exact e
  have e1 : k / n * n + k % n = k := by rw [Nat.mul_comm]; exact Nat.div_add_mod k n
  have hj : k % n < n := Nat.mod_lt k hn
  have hi : k / n < n := Nat.div_lt_of_lt_mul hk
  have st := sumsTo_step (xs := xs) hi hj
  rw [e1] at st
  rw [← Int.natCast_ediv]
  refine (iBoundStep g n n (k / n) _ (xs.getD k 0) _ w1 hI hi (sumsTo_length _ _ _).symm (nums_at hx (by omega)) (sumsTo_bd hx h6 hi)).mono ?_
  rintro e w2 ⟨h1, h2, h3⟩
  rw [st] at h2
  exact ⟨h1, h2, h3⟩
set_option maxHeartbeats 1000000 in
theorem iFoldSum (n N : Nat) (a : Option Addr) (cap : Nat) (zs : List Int) (g : Nat) (w : World) (hx : zs.length = N) (h : Rd w a zs) (hn : N = n * n) (h6 : n ≤ 6) (hnum : nums zs = true) (hg : Ints w g (sumsTo n zs 0)) (hz : ∀ b o : Nat, a = some ⟨b, o, none⟩ → 0 < N → b ≠ g) :
    Calls Tryz.prog 100 #[.agg #[.int .i64 n, .int .i64 n, .slice a N cap], .slice (some ⟨g, 0, none⟩) n n, .func (.func 101) #[] #[]] w
      (fun e w' => e = .returned (.slice (some ⟨g, 0, none⟩) n n) ∧ Ints w' g (sumsTo n zs N) ∧ w.grownBy w' (some g)) := by
  have H := Lib.hid h
  have hle : n * n ≤ 6 * 6 := Nat.mul_le_mul h6 h6
  have ST : Hid (∀ (k : Nat) (w1 : World), k < N → Ints w1 g (sumsTo n zs k) → Calls Tryz.prog 101 #[.slice (some ⟨g, 0, none⟩) n n, .int .i64 ((k : Int) / (n : Int)), .int .i64 ((k : Int) % (n : Int)), .int .i64 (zs.getD k 0)] w1
      (fun e w2 => e = .returned (.slice (some ⟨g, 0, none⟩) n n) ∧ Ints w2 g (sumsTo n zs (k + 1)) ∧ w1.grownBy w2 (some g))) := fun k w1 h1 h2 => boundStepOf n g zs h6 (hx.trans hn) hnum k w1 (by omega) h2
  have HZ := Lib.hid hz
  have HN := Lib.hid hx
  rw [← hn] at hle
  have HM := Lib.hid hn
  have gw : w.grownBy (w.alloc (.cells #[.int .i64 n, .int .i64 n, .slice a N cap] 26)) (some g) := World.grownBy_alloc w _ _
  have G0 := Lib.hid gw
  have I0 := Lib.hid (hg.old (.cells #[.int .i64 n, .int .i64 n, .slice a N cap] 26))
  have K0 : Hid (Blk3 (w.alloc (.cells #[.int .i64 n, .int .i64 n, .slice a N cap] 26)) w.heap.size 26 (.int .i64 n) (.int .i64 n) (.slice a N cap)) := Blk3.at_ _ _ _ _ rfl
  have lg := hg.lt
  clear h hz hx hn gw hg hnum
  go_enter Tryz.func100, Tryz.ntmps100
  go_wp2_with fail
  go_loopw [7, 8, 9, 14] (fun v _ _ i wr => ∃ k : Nat, i = .int .i64 k ∧ k ≤ N ∧ v = .slice (some ⟨g, 0, none⟩) n n ∧ Ints wr g (sumsTo n zs k) ∧ (w.alloc (.cells #[.int .i64 n, .int .i64 n, .slice a N cap] 26)).grownBy wr (some g)) (fun _ _ _ i _ => N - (intOf i).toNat)
  case atStart => exact ⟨0, rfl, by omega, rfl, I0.out, World.grownBy.refl _ _⟩
  case round =>
    obtain ⟨k, rfl, hk, rfl, hi, hgr⟩ := hrel
    have I := Lib.hid hi
    have G := Lib.hid hgr
    have GW := Lib.hid (G0.out.trans hgr)
    clear hi hgr
    have R0 := Lib.hid (K0.out.keepOne G.out (by omega))
    by_cases hlt : k < N
    · have hC0 : 0 < n := by
        rcases Nat.eq_zero_or_pos n with e | e
        · have := HM.out; rw [e, Nat.mul_zero] at this; omega
        · exact e
      have c0 : ((n : Int) == 0) = false := by simp; omega
      obtain ⟨b, o, rfl, hcell⟩ := H.out k (by rw [HN.out]; exact hlt)
      have u1 := World.block_lt_of_cell? w _ hcell
      have hb : b ≠ g := HZ.out b o rfl (by omega)
      have hcell := GW.out.cell hcell (by simpa using hb)
      have d1 : (k : Int) / (n : Int) = ((k / n : Nat) : Int) := (Int.natCast_ediv k n).symm
      have d2 : (k : Int) % (n : Int) = ((k % n : Nat) : Int) := (Int.natCast_emod k n).symm
      have d3 : k / n ≤ k := Nat.div_le_self k n
      have d4 : k % n ≤ k := Nat.mod_le k n
      have d5 : 0 ≤ (k : Int) / (n : Int) := by rw [d1]; exact Int.natCast_nonneg _
      have d6 : (k : Int) / (n : Int) ≤ 600 := by rw [d1]; exact Int.ofNat_le.mpr (show k / n ≤ 600 by omega)
      have c1 : ¬ n = 0 := by omega
      have w1 : IntKind.i64.wrap ((k : Int) / (n : Int)) = (k : Int) / (n : Int) := IntWalk.i64_in _ (by omega)
      have e2 : Int.tmod (k : Int) (n : Int) = (k : Int) % (n : Int) := Int.tmod_eq_emod_of_nonneg (by omega)
      have e3 : Int.tdiv (k : Int) (n : Int) = (k : Int) / (n : Int) := Int.tdiv_eq_ediv_of_nonneg (by omega)
      clear d1 d2
      obtain ⟨z, hz⟩ : ∃ z, zs.getD k 0 = z := ⟨_, rfl⟩
      rw [hz] at hcell
      have Z := Lib.hid hz
      clear hz u1
      obtain ⟨r0, r1, r2, -, -, -⟩ := R0.out.all
      go_wp2_with fail
      go_still_tail 11, (by kernel_rfl)
      go_wp2_with fail
      rw [← Z.out]
      refine (ST.out k _ hlt I.out.drew).mono ?_
      rintro e w2 ⟨rfl, hi2, hg2⟩
      have I2 := Lib.hid hi2
      have G2 := Lib.hid ((grown_drew_one G.out).trans hg2)
      clear hi2 hg2
      go_wp2_with fail
      go_roundw
      case rel => exact ⟨k + 1, by go_num, by omega, rfl, I2.out, G2.out⟩
      case measure => simp [intOf]; omega
    · obtain rfl : N = k := by omega
      go_wp2_with fail
      go_ret
      exact ⟨rfl, I.out, GW.out⟩
set_option maxHeartbeats 2000000 in
theorem iBnd (r c : Int) (a : Option Addr) (m : Nat) (xs : List Int) (w : World) (h : Rd w a xs) (hn : xs.length ≤ 16777216) :
    Calls Tryz.prog 60 #[.agg #[.int .i64 r, .int .i64 c, .slice a xs.length m]] w (Gives (.tuple #[.int .i64 (bndX r c xs).1, .bool (bndX r c xs).2]) w) := by
  have SQ : Hid (∀ w', Below w.heap.size w w' → Calls Tryz.prog 73 #[.agg #[.int .i64 r, .int .i64 c, .slice a xs.length m]] w' (Gives (.bool (isSq r c xs)) w')) := fun w' hb => iIsSq r c a m xs w' (h.below hb) hn
  have B0 : Hid (Below w.heap.size w (w.alloc (.cells #[.int .i64 r, .int .i64 c, .slice a xs.length m] 26))) := (Below.refl _ _).alloc (Nat.le_refl _) _
  have K0 : Hid (Blk3 (w.alloc (.cells #[.int .i64 r, .int .i64 c, .slice a xs.length m] 26)) w.heap.size 26 (.int .i64 r) (.int .i64 c) (.slice a xs.length m)) := Blk3.at_ _ _ _ _ rfl
  rcases Bool.eq_false_or_eq_true (isSq r c xs) with hs | hs
  · have HS := hs
    rw [hs] at SQ
    obtain ⟨n, rfl, rfl, h6, hl, hnum⟩ := isSq_says hs
    have PX := Lib.hid (pdX_bnd HS)
    have NX := Lib.hid hnum
    have H := Lib.hid h
    have HX := Lib.hid hl
    have hmk := makeInts n (by omega)
    obtain ⟨N, hN⟩ : ∃ N, n * n = N := ⟨_, rfl⟩
    have HN := Lib.hid hN
    rw [hl, hN] at SQ B0 K0 ⊢
    clear h hs HS hl hnum hN hn
    go_enter Tryz.func60, Tryz.ntmps60
    go_wp2_with fail
    refine (SQ.out _ B0.out).mono ?_
    rintro e w1 ⟨rfl, hb⟩
    have K1 := Lib.hid (K0.out.step hb)
    have B1 := Lib.hid (B0.out.trans (hb.mono (by simp)))
    clear hb K0 B0 SQ
    obtain ⟨p0, p1, p2, -, -, -⟩ := K1.out.all
    go_upto_region 3 with fail
    refine wp_region_held_drew (S := fun w' => Below w1.heap.size w1 w') (by kernel_rfl) (Below.refl _ _).drew (fun hH => ?_)
    refine wpAnyH_take (i := 0) (v := ?_) (by simp only [List.getElem?_toArray, List.getElem?_cons_zero]; rfl) (by kernel_rfl) (by kernel_rfl) (by kernel_rfl) (by exact fun _ _ _ h => h) (Or.inl ⟨by rfl, ?_⟩) hH ?_
    rotate_left
    · (intro wS hS; (try dsimp only at hS); obtain ⟨k1, k2, k3⟩ := seven K1.out hS; go_simp; try rfl)
    try simp only [Act.put, List.setIfInBounds_toArray, List.set_cons_zero, List.set_cons_succ]
    refine wpAnyH_take (i := 1) (v := ?_) (by simp only [List.getElem?_toArray, List.getElem?_cons_succ, List.getElem?_cons_zero]; rfl) (by kernel_rfl) (by kernel_rfl) (by kernel_rfl) (by exact fun _ _ _ h => h) (Or.inl ⟨by rfl, ?_⟩) hH ?_
    rotate_left
    · (intro wS hS; (try dsimp only at hS); obtain ⟨k1, k2, k3⟩ := seven K1.out hS; go_simp; try rfl)
    try simp only [Act.put, List.setIfInBounds_toArray, List.set_cons_zero, List.set_cons_succ]
    refine wpAnyH_take (i := 2) (v := ?_) (by simp only [List.getElem?_toArray, List.getElem?_cons_succ, List.getElem?_cons_zero]; rfl) (by kernel_rfl) (by kernel_rfl) (by kernel_rfl) (by exact fun _ _ _ h => h) (Or.inl ⟨by rfl, ?_⟩) hH ?_
    rotate_left
    · (intro wS hS; (try dsimp only at hS); obtain ⟨k1, k2, k3⟩ := seven K1.out hS; go_simp; try rfl)
    try simp only [Act.put, List.setIfInBounds_toArray, List.set_cons_zero, List.set_cons_succ]
    refine wpAnyH_ready (rs := [3]) (by kernel_rfl) (by simp) ?_
    refine AllReadyH.cons (by simp only [List.getElem?_toArray, List.getElem?_cons_succ, List.getElem?_cons_zero]; rfl) (fun K hK => ?_) AllReadyH.nil
    go_simp
    have I0 : Hid (Ints (w1.alloc (.cells (madeCells #[.int .i64 0] n) 3)) w1.heap.size (List.replicate n 0)) := Ints.made n rfl
    try dsimp only
    refine hK.out _ _ ?_ (fun hH2 => ?_)
    · exact hH.alloc hH.size _
    clear hK K
    have hO := hH
    clear hH
    have hH := hH2
    clear hH2
    try simp only [Act.put, List.setIfInBounds_toArray, List.set_cons_zero, List.set_cons_succ]
    refine wpAnyH_ready (rs := [4]) (by kernel_rfl) (by simp) ?_
    refine AllReadyH.cons (by simp only [List.getElem?_toArray, List.getElem?_cons_succ, List.getElem?_cons_zero]; rfl) (fun K hK => ?_) AllReadyH.nil
    go_simp
    refine (iFoldSum n N a m xs w1.heap.size _ (HX.out.trans HN.out) (H.out.below (B1.out.trans (hH.mono B1.out.size))) HN.out.symm h6 NX.out (by rw [sumsTo_zero]; first | exact I0.out | exact I0.out.drew) (far_of (H.out.below B1.out) (HX.out.trans HN.out))).mono ?_
    rintro e v1 ⟨rfl, hi, hg⟩
    have I2 := Lib.hid hi
    clear hi
    try dsimp only
    refine hK.out _ _ ?_ (fun hH2 => ?_)
    · exact hH.trans (below_of_one hg (Nat.le_refl _) hH.size)
    clear hK K
    have hO := hH
    clear hH
    have hH := hH2
    clear hH2
    try simp only [Act.put, List.setIfInBounds_toArray, List.set_cons_zero, List.set_cons_succ]
    refine wpAnyH_take (i := 5) (v := ?_) (by simp only [List.getElem?_toArray, List.getElem?_cons_succ, List.getElem?_cons_zero]; rfl) (by kernel_rfl) (by kernel_rfl) (by kernel_rfl) (by exact fun _ _ _ h => h) (Or.inl ⟨by rfl, ?_⟩) hH ?_
    rotate_left
    · (intro wS hS; clear hS; go_simp; try rfl)
    try simp only [Act.put, List.setIfInBounds_toArray, List.set_cons_zero, List.set_cons_succ]
    refine wpAnyH_done (by kernel_rfl) ?_ _
    have B2 := Lib.hid (stepB B1.out hH)
    have PR : Hid (Calls Tryz.prog 102 #[.slice (some ⟨w1.heap.size, 0, none⟩) n n] v1 fun e w' => e = .returned (.tuple #[.int .i64 (bndX n n xs).1, .bool (bndX n n xs).2]) ∧ v1 = w') := by
      have := iProd (some ⟨w1.heap.size, 0, none⟩) n _ v1 I2.out.rd (by rw [sumsTo_length]; omega)
      rw [sumsTo_length, ← HN.out, PX.out] at this
      exact this
    clear hH hO hg I2 p0 p1 p2
    go_wp2_with fail
    refine PR.out.mono ?_
    rintro e w3 ⟨rfl, rfl⟩
    go_wp2_with fail
    exact bodyPost_ret (v := .tuple #[.int .i64 (bndX n n xs).1, .bool (bndX n n xs).2]) (by simp [results, Tryz.results60, go_sem]) rfl ⟨rfl, B2.out⟩
  · have V := Lib.hid (bndX_sq hs)
    rw [hs] at SQ
    generalize xs.length = L at SQ B0 ⊢
    clear h hn K0 hs
    go_enter Tryz.func60, Tryz.ntmps60
    go_wp2_with fail
    refine (SQ.out _ B0.out).mono ?_
    rintro e w1 ⟨rfl, hb⟩
    have B1 := Lib.hid (B0.out.trans (hb.mono (by simp)))
    go_wp2_with fail
    rw [V.out]
    exact bodyPost_ret (v := .tuple #[.int .i64 0, .bool false]) (by simp [results, Tryz.results60, go_sem]) rfl ⟨rfl, B1.out⟩
end Go.Proofs.YtcapddcmnjeloaaGreatDoor
end
