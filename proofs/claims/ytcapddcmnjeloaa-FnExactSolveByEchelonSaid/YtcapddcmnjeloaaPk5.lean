/-
  Texts of this seat, joined: RowRaw · MatS9 · OpDet · LawDet · SolE · MatI · RwI
-/
import Derived.IntWalk
import Derived.StillTailTactics
import Derived.BigQuiet
import Derived.Deep.QuietTactic
import Derived.Deep.DeepCutAuto
import Derived.Test.YtcapddcmnjeloaaPk1
import Derived.Test.YtcapddcmnjeloaaPk2
import Derived.Test.YtcapddcmnjeloaaPk3
import Derived.Test.YtcapddcmnjeloaaPk4

section
/-
  Plain mathematics of chapter 5: an operation on rows without marks. Nothing of a program is used.
-/
namespace Go.Proofs.Ytcapddcmnjeloaa
open Go.RowKit

theorem isOp_rows0 {i j t r : Int} (h : isOp 0 i j t r = true) : i ≠ j := by
  unfold isOp at h; simp at h; exact fun e => h.2.1 e.symm
theorem isOp_rows1 {i j t r : Int} (h : isOp 1 i j t r = true) : i = j := by
  unfold isOp at h; simp at h; exact h.2.1.symm
theorem isOp_rows2 {i j t r : Int} (h : isOp 2 i j t r = true) : i ≠ j := by
  unfold isOp at h; simp at h; exact fun e => h.2 e.symm
/-- The columns before q are done. -/
def colTo (f : Nat → Int) (C : Nat) (xs : List Int) (q : Nat) : List Int := (List.range xs.length).map fun p => if p % C < q then f p else xs.getD p 0
theorem colTo_length (f : Nat → Int) (C : Nat) (xs : List Int) (q : Nat) : (colTo f C xs q).length = xs.length := by simp [colTo]
theorem colTo_getD (f : Nat → Int) (C : Nat) (xs : List Int) (q p : Nat) (hp : p < xs.length) : (colTo f C xs q).getD p 0 = if p % C < q then f p else xs.getD p 0 := by
  simp [colTo, List.getD, hp]
theorem colTo_zero (f : Nat → Int) (C : Nat) (xs : List Int) : colTo f C xs 0 = xs := by
  refine list_getD (colTo_length _ _ _ _) fun p hp => ?_
  rw [colTo_length] at hp
  rw [colTo_getD _ _ _ _ _ hp, if_neg (by omega)]
theorem colTo_all (f : Nat → Int) (C : Nat) (xs : List Int) (h : xs.length = 0 ∨ 0 < C) : colTo f C xs C = (List.range xs.length).map f := by
  unfold colTo
  refine List.map_congr_left fun p hp => ?_
  have hp := List.mem_range.mp hp
  rw [if_pos (Nat.mod_lt p (by omega))]
/-- A column is done by two stores. -/
theorem colTo_two (f : Nat → Int) (I J C R : Nat) (xs : List Int) (q : Nat) (a b : Int) (hl : xs.length = R * C) (hI : I < R) (hJ : J < R) (hq : q < C)
    (hb : f (J * C + q) = b) (ha : I ≠ J → f (I * C + q) = a) (hr : ∀ p, p / C ≠ I → p / C ≠ J → f p = xs.getD p 0) :
    ((colTo f C xs q).set (I * C + q) a).set (J * C + q) b = colTo f C xs (q + 1) := by
  have a1 : I * C + q < xs.length := by rw [hl]; exact idx_lt hI hq
  have a2 : J * C + q < xs.length := by rw [hl]; exact idx_lt hJ hq
  refine list_getD (by rw [List.length_set, List.length_set, colTo_length, colTo_length]) fun p hp => ?_
  rw [List.length_set, List.length_set, colTo_length] at hp
  rw [getD_set _ _ _ _ (by rw [List.length_set, colTo_length]; exact a2), getD_set _ _ _ _ (by rw [colTo_length]; exact a1), colTo_getD _ _ _ _ _ hp, colTo_getD _ _ _ _ _ hp]
  by_cases e : p % C = q
  · have sp := split_idx e
    rw [if_pos (show p % C < q + 1 by omega), if_neg (show ¬ p % C < q by omega)]
    by_cases e2 : p / C = J
    · have : p = J * C + q := by rw [← e2]; exact sp
      rw [if_pos this, this, hb]
    · rw [if_neg (fun h => e2 (by rw [h, idx_div hq]))]
      by_cases e1 : p / C = I
      · have : p = I * C + q := by rw [← e1]; exact sp
        rw [if_pos this, this, ha (fun h => e2 (by rw [e1, h]))]
      · rw [if_neg (fun h => e1 (by rw [h, idx_div hq])), hr p e1 e2]
  · rw [if_neg (fun h => e (by rw [h, idx_mod hq])), if_neg (fun h => e (by rw [h, idx_mod hq]))]
    by_cases e2 : p % C < q
    · rw [if_pos e2, if_pos (by omega)]
    · rw [if_neg e2, if_neg (by omega)]
/-- What the cell p becomes, without marks. -/
def rwAt (k : Int) (I J : Nat) (t : Int) (C : Nat) (xs : List Int) (p : Nat) : Int :=
  if k = 0 then (if p / C = I then xs.getD (J * C + p % C) 0 else if p / C = J then xs.getD (I * C + p % C) 0 else xs.getD p 0)
  else if k = 1 then (if p / C = I then - xs.getD p 0 else xs.getD p 0)
  else (if p / C = I then xs.getD p 0 + xs.getD (J * C + p % C) 0 * t else xs.getD p 0)
/-- What is added is a number, in the columns before q. -/
def prodTo (k : Int) (J : Nat) (t : Int) (C : Nat) (xs : List Int) (q : Nat) : Prop := k = 2 → ∀ s, s < q → NumP (xs.getD (J * C + s) 0 * t)
theorem prodTo_zero (k : Int) (J : Nat) (t : Int) (C : Nat) (xs : List Int) : prodTo k J t C xs 0 := fun _ s hs => absurd hs (by omega)
theorem prodTo_succ {k : Int} {J : Nat} {t : Int} {C : Nat} {xs : List Int} {q : Nat} (h : prodTo k J t C xs q) (h2 : k = 2 → NumP (xs.getD (J * C + q) 0 * t)) : prodTo k J t C xs (q + 1) := fun hk s hs => by
  rcases Nat.lt_or_ge s q with h3 | h3
  · exact h hk s h3
  · obtain rfl : s = q := by omega
    exact h2 hk
theorem rw_swap (I J : Nat) (t : Int) (C R : Nat) (xs : List Int) (q : Nat) (hl : xs.length = R * C) (hI : I < R) (hJ : J < R) (hq : q < C) (hIJ : I ≠ J) :
    ((colTo (rwAt 0 I J t C xs) C xs q).set (I * C + q) (xs.getD (J * C + q) 0)).set (J * C + q) (xs.getD (I * C + q) 0) = colTo (rwAt 0 I J t C xs) C xs (q + 1) := by
  refine colTo_two _ I J C R xs q _ _ hl hI hJ hq ?_ (fun _ => ?_) fun p h1 h2 => ?_
  · unfold rwAt; rw [if_pos rfl, idx_div hq, idx_mod hq, if_neg (fun h => hIJ h.symm), if_pos rfl]
  · unfold rwAt; rw [if_pos rfl, idx_div hq, idx_mod hq, if_pos rfl]
  · unfold rwAt; rw [if_pos rfl, if_neg h1, if_neg h2]
theorem rw_neg (I : Nat) (t : Int) (C R : Nat) (xs : List Int) (q : Nat) (hl : xs.length = R * C) (hI : I < R) (hq : q < C) :
    ((colTo (rwAt 1 I I t C xs) C xs q).set (I * C + q) (- xs.getD (I * C + q) 0)).set (I * C + q) (- xs.getD (I * C + q) 0) = colTo (rwAt 1 I I t C xs) C xs (q + 1) := by
  refine colTo_two _ I I C R xs q _ _ hl hI hI hq ?_ (fun h => absurd rfl h) fun p h1 h2 => ?_
  · unfold rwAt; rw [if_neg (by decide), if_pos rfl, idx_div hq, if_pos rfl]
  · unfold rwAt; rw [if_neg (by decide), if_pos rfl, if_neg h1]
theorem rw_add (I J : Nat) (t : Int) (C R : Nat) (xs : List Int) (q : Nat) (hl : xs.length = R * C) (hI : I < R) (hJ : J < R) (hq : q < C) (hIJ : I ≠ J) :
    ((colTo (rwAt 2 I J t C xs) C xs q).set (I * C + q) (xs.getD (I * C + q) 0 + xs.getD (J * C + q) 0 * t)).set (J * C + q) (xs.getD (J * C + q) 0) = colTo (rwAt 2 I J t C xs) C xs (q + 1) := by
  refine colTo_two _ I J C R xs q _ _ hl hI hJ hq ?_ (fun _ => ?_) fun p h1 h2 => ?_
  · unfold rwAt; rw [if_neg (by decide), if_neg (by decide), idx_div hq, if_neg (fun h => hIJ h.symm)]
  · unfold rwAt; rw [if_neg (by decide), if_neg (by decide), idx_div hq, idx_mod hq, if_pos rfl]
  · unfold rwAt; rw [if_neg (by decide), if_neg (by decide), if_neg h1]
theorem fitB_num {z : Int} (h : NumP z) : fitB z = z := by unfold fitB; rw [if_pos h]
theorem bad_ne {z : Int} (h : NumP z) : z ≠ badN := by unfold NumP at h; unfold badN; omega
theorem wrap_small {z : Int} (h : -1000000000000000000 ≤ z ∧ z ≤ 1000000000000000000) : wrap64 z = z := IntWalk.wrap64_in _ (by omega)
theorem mulB_num {a b : Int} (ha : NumP a) (hb : NumP b) : mulB a b = fitB (a * b) := by
  unfold mulB
  have := mul_num a b ha hb
  rw [if_neg (fun h => h.elim (bad_ne ha) (bad_ne hb)), wrap_small (by omega)]
theorem addB_num {a b : Int} (ha : NumP a) (hb : NumP b) : addB a b = fitB (a + b) := by
  unfold addB
  obtain ⟨a1, a2⟩ := ha
  obtain ⟨b1, b2⟩ := hb
  rw [if_neg (fun h => h.elim (bad_ne ⟨a1, a2⟩) (bad_ne ⟨b1, b2⟩)), wrap_small (by omega)]
theorem addB_bad (a : Int) : addB a badN = badN := by unfold addB; rw [if_pos (.inr rfl)]
theorem NumP_neg {a : Int} (h : NumP a) : NumP (-a) := by unfold NumP at *; omega
theorem nums_def {xs : List Int} (h : nums xs = true) (p : Nat) : NumP (xs.getD p 0) := by
  rcases Nat.lt_or_ge p xs.length with h1 | h1
  · exact nums_at h h1
  · simp [List.getD, h1, NumP]
theorem opAt_raw (k : Int) (I J : Nat) (t : Int) (C : Nat) (xs : List Int) (p : Nat) (hk : k = 0 ∨ k = 1 ∨ k = 2) (hx : nums xs = true) (ht : NumP t) (hp : k = 2 → p / C = I → NumP (xs.getD (J * C + p % C) 0 * t)) :
    opAt k I J t C xs p = fitB (rwAt k I J t C xs p) := by
  unfold opAt rwAt
  rcases hk with rfl | rfl | rfl
  · rw [if_pos rfl, if_pos rfl, fitB_num]
    by_cases e1 : p / C = I
    · rw [if_pos e1]; exact nums_def hx _
    · rw [if_neg e1]
      by_cases e2 : p / C = J
      · rw [if_pos e2]; exact nums_def hx _
      · rw [if_neg e2]; exact nums_def hx _
  · simp only [show (1 : Int) ≠ 0 by decide, if_false, if_true]
    by_cases e1 : p / C = I
    · rw [if_pos e1, if_pos e1, mulB_num (nums_def hx _) (by decide), Int.mul_neg, Int.mul_one]
    · rw [if_neg e1, if_neg e1, fitB_num (nums_def hx _)]
  · simp only [show (2 : Int) ≠ 0 by decide, show (2 : Int) ≠ 1 by decide, if_false]
    by_cases e1 : p / C = I
    · rw [if_pos e1, if_pos e1, mulB_num (nums_def hx _) ht, fitB_num (hp rfl e1), addB_num (nums_def hx _) (hp rfl e1)]
    · rw [if_neg e1, if_neg e1, fitB_num (nums_def hx _)]
theorem fitB_bad {z : Int} (h : ¬ NumP z) : fitB z = badN := by unfold fitB; rw [if_neg h]
theorem bad_not : ¬ NumP badN := by decide
/-- Marks or none: the result is the same. -/
theorem done_fit (r c : Int) (f g : Nat → Int) (n : Nat) (h : ∀ p, p < n → f p = fitB (g p)) : MR.done r c ((List.range n).map f) = MR.done r c ((List.range n).map g) := by
  by_cases hn : nums ((List.range n).map g) = true
  · have : (List.range n).map f = (List.range n).map g := by
      refine List.map_congr_left fun p hp => ?_
      have hp := List.mem_range.mp hp
      have := nums_at hn (j := p) (by simpa using hp)
      rw [h p hp, fitB_num]
      simpa [List.getD, hp] using this
    rw [this]
  · have hf : nums ((List.range n).map f) = false := by
      rcases Bool.eq_false_or_eq_true (nums ((List.range n).map f)) with hf | hf
      · refine absurd (nums_true fun p hp => ?_) hn
        have hp' : p < n := by simpa using hp
        have := nums_at hf (j := p) (by simpa using hp')
        simp only [List.getD, List.getElem?_map, List.getElem?_range hp', Option.map_some, Option.getD_some] at this ⊢
        by_cases hg : NumP (g p)
        · exact hg
        · rw [h p hp', fitB_bad hg] at this
          exact absurd this bad_not
      · exact hf
    have hg : nums ((List.range n).map g) = false := by simpa using hn
    have e1 : isMat r c ((List.range n).map f) = false := by unfold isMat; rw [hf]; simp
    have e2 : isMat r c ((List.range n).map g) = false := by unfold isMat; rw [hg]; simp
    unfold MR.done
    rw [e1, e2]; rfl
theorem rw_done (k : Int) (I J : Nat) (t : Int) (R C : Nat) (xs : List Int) (hk : k = 0 ∨ k = 1 ∨ k = 2) (hl : xs.length = R * C) (hx : nums xs = true) (ht : NumP t) (hp : prodTo k J t C xs C) :
    MR.done R C (opL k I J t C xs) = MR.done R C (colTo (rwAt k I J t C xs) C xs C) := by
  have hC : xs.length = 0 ∨ 0 < C := by
    rcases Nat.eq_zero_or_pos C with h | h
    · left; rw [hl, h, Nat.mul_zero]
    · exact .inr h
  rw [colTo_all _ _ _ hC]
  unfold opL
  refine done_fit _ _ _ _ _ fun p hp' => opAt_raw k I J t C xs p hk hx ht fun h2 _ => hp h2 _ (Nat.mod_lt p ?_)
  omega
/-- What is added is beyond the limit in one column: nothing is done. -/
theorem rw_over (I J : Nat) (t : Int) (R C : Nat) (xs : List Int) (q : Nat) (hl : xs.length = R * C) (hI : I < R) (hq : q < C) (hx : nums xs = true) (ht : NumP t) (hb : ¬ NumP (xs.getD (J * C + q) 0 * t)) :
    MR.done R C (opL 2 I J t C xs) = MR.no := by
  have hi : I * C + q < xs.length := by rw [hl]; exact idx_lt hI hq
  have e : (opL 2 I J t C xs).getD (I * C + q) 0 = badN := by
    unfold opL
    simp only [List.getD, List.getElem?_map, List.getElem?_range hi, Option.map_some, Option.getD_some]
    rw [opAt_two _ _ _ _ _ hq, mulB_num (nums_def hx _) ht, fitB_bad hb, addB_bad]
  have e2 : nums (opL 2 I J t C xs) = false := nums_false (j := I * C + q) (by rw [opL_length]; exact hi) (by rw [e]; exact bad_not)
  unfold MR.done isMat
  rw [e2]; simp
end Go.Proofs.Ytcapddcmnjeloaa
end

section
/-
  Chapter 3, in the model: IdentityMatrix.
-/
namespace Go.Proofs.Ytcapddcmnjeloaa
open Go.RowKit

/-- Zeros, and ones in the first k places of the diagonal. -/
def idL (n k : Nat) : List Int := (List.range (n * n)).map fun j => if j % (n + 1) = 0 ∧ j < k * (n + 1) then 1 else 0
theorem idL_length (n k : Nat) : (idL n k).length = n * n := by simp [idL]
theorem idL_zero (n : Nat) : idL n 0 = List.replicate (n * n) 0 := by
  apply List.ext_getElem (by simp [idL])
  intro i h1 h2
  simp [idL]
theorem idL_at (n k : Nat) : (idL n k).getD (k * n + k) 0 = 0 := by
  have e : k * n + k = k * (n + 1) := (Nat.mul_succ k n).symm
  rw [e]
  unfold idL List.getD
  rcases Nat.lt_or_ge (k * (n + 1)) (n * n) with h | h
  · simp [h]
  · simp [h]
theorem idL_step (n k : Nat) : (idL n k).set (k * n + k) 1 = idL n (k + 1) := by
  have e : k * n + k = k * (n + 1) := (Nat.mul_succ k n).symm
  rw [e]
  apply List.ext_getElem (by simp [idL])
  intro i h1 h2
  have hi : i < n * n := by simpa [idL] using h2
  rw [List.getElem_set]
  by_cases hk : k * (n + 1) = i
  · rw [if_pos hk]
    have h3 : i % (n + 1) = 0 := by rw [← hk]; exact Nat.mul_mod_left _ _
    have h4 : i < (k + 1) * (n + 1) := by rw [← hk, Nat.succ_mul]; omega
    simp [idL, h3, h4]
  · rw [if_neg hk]
    have h5 : (i % (n + 1) = 0 ∧ i < k * (n + 1)) ↔ (i % (n + 1) = 0 ∧ i < (k + 1) * (n + 1)) := by
      constructor
      · rintro ⟨a, b⟩; exact ⟨a, by rw [Nat.succ_mul]; omega⟩
      · rintro ⟨a, b⟩
        refine ⟨a, ?_⟩
        obtain ⟨q, hq⟩ := Nat.dvd_of_mod_eq_zero a
        rw [Nat.mul_comm] at hq
        rw [hq] at b ⊢
        have := Nat.lt_of_mul_lt_mul_right b
        have hne : q ≠ k := by rintro rfl; exact hk hq.symm
        exact Nat.mul_lt_mul_of_pos_right (by omega) (by omega)
    simp only [idL, List.getElem_map, List.getElem_range, h5]
def idM (n : Int) : MR := if 0 ≤ n ∧ n ≤ 24 then ⟨true, n, n, idL n.toNat n.toNat⟩ else MR.no

set_option maxHeartbeats 1000000 in
theorem sIdent_t (n : Nat) (w : World) (hn : n ≤ 24) :
    Calls Try.prog 57 #[.int .i64 n] w (MatRes ⟨true, n, n, idL n n⟩ w) := by
  have hle : n * n ≤ 24 * 24 := Nat.mul_le_mul hn hn
  have B0 : ∀ o1, Below w.heap.size w (w.alloc o1) := fun o1 => (Below.refl _ _).alloc (Nat.le_refl _) _
  have BH := Lib.hid B0
  clear B0
  go_enter Try.func57, Try.ntmps57
  go_wp2_with fail
  refine (sIn_t n 0 24 _ (by omega) (by omega)).mono ?_
  rintro e w2 ⟨rfl, rfl⟩
  go_wp2_with fail
  have K2 : Hid (Blk3 (w.alloc (.cells #[.int .i64 0, .int .i64 0, .slice none 0 0] 26)) w.heap.size 26 (.int .i64 0) (.int .i64 0) (.slice none 0 0)) := Blk3.at_ _ _ _ _ rfl
  have B := Lib.hid (BH.out (.cells #[.int .i64 0, .int .i64 0, .slice none 0 0] 26))
  refine (sNew n n _ (by omega) (by omega)).mono ?_
  rintro e w3 ⟨g, rfl, hg, hi, hb⟩
  have l2 := Nat.lt_of_lt_of_le K2.out.lt hg
  clear hg
  obtain ⟨N, hN⟩ : ∃ N, n * n = N := ⟨_, rfl⟩
  have HN := Lib.hid hN
  rw [hN] at hi hle ⊢
  clear hN
  have K2 := Lib.hid (K2.out.keep hb K2.out.lt)
  have B := Lib.hid (B.out.trans (hb.mono B.out.size))
  have I := Lib.hid hi
  have gl := hi.lt
  clear hb hi
  simp only [List.length_replicate]
  have BA : Hid (Below w.heap.size w (w3.alloc (.cells #[.int .i64 n, .int .i64 n, .slice (some ⟨g, 0, none⟩) N N] 26))) := B.out.alloc B.out.size _
  have K2 := Lib.hid (K2.out.old (.cells #[.int .i64 n, .int .i64 n, .slice (some ⟨g, 0, none⟩) N N] 26))
  have K6 : Hid (Blk3 (w3.alloc (.cells #[.int .i64 n, .int .i64 n, .slice (some ⟨g, 0, none⟩) N N] 26)) w3.heap.size 26 (.int .i64 n) (.int .i64 n) (.slice (some ⟨g, 0, none⟩) N N)) := Blk3.at_ _ _ _ _ rfl
  have I := Lib.hid (I.out.old (.cells #[.int .i64 n, .int .i64 n, .slice (some ⟨g, 0, none⟩) N N] 26))
  go_wp2_with fail
  go_loopw [5] (fun i wr => ∃ k : Nat, i = .int .i64 k ∧ k ≤ n ∧ Ints wr g (idL n k) ∧ (w3.alloc (.cells #[.int .i64 n, .int .i64 n, .slice (some ⟨g, 0, none⟩) N N] 26)).grownBy wr (some g)) (fun i _ => n - (intOf i).toNat)
  case atStart => exact ⟨0, rfl, by omega, by rw [idL_zero, HN.out]; exact I.out, World.grownBy.refl _ _⟩
  case round =>
    obtain ⟨k, rfl, hk, hi, hgr⟩ := hrel
    have I := Lib.hid hi
    have G := Lib.hid hgr
    clear hi hgr
    have R2 := Lib.hid (K2.out.keepOne G.out (by omega))
    have R6 := Lib.hid (K6.out.keepOne G.out (by omega))
    obtain ⟨r0, r1, r2, -, -, -⟩ := R6.out.all
    by_cases hlt : k < n
    · have i1 : k * n + k < N := by rw [← HN.out]; exact idx_lt hlt hlt
      have hold := I.out.cell (i := k * n + k) (by rw [idL_length, HN.out]; exact i1)
      rw [idL_at] at hold
      have hfr := I.out.free (k * n + k)
      have c1 : (k : Int) * (n : Int) = ((k * n : Nat) : Int) := (Int.natCast_mul _ _).symm
      have d1 : 0 ≤ (k : Int) * (n : Int) ∧ (k : Int) * (n : Int) ≤ 600 := by rw [c1]; omega
      have e1 : 0 ≤ (k : Int) * (n : Int) + (k : Int) := by omega
      have e2 : (k : Int) * (n : Int) + (k : Int) < (N : Int) := by rw [c1]; omega
      have e3 : ((k : Int) * (n : Int) + (k : Int)).toNat = k * n + k := by rw [c1]; omega
      obtain ⟨d11, d12⟩ := d1
      have v1 : IntKind.i64.wrap ((k : Int) * (n : Int)) = (k : Int) * (n : Int) := IntWalk.i64_in _ (by omega)
      have v2 : IntKind.i64.wrap ((k : Int) * (n : Int) + (k : Int)) = (k : Int) * (n : Int) + (k : Int) := IntWalk.i64_in _ (by omega)
      clear c1
      go_wp2_with fail
      go_roundw
      case rel =>
        refine ⟨k + 1, by go_num, by omega, ?_, ?_⟩
        · rw [← idL_step]
          first | exact I.out.set (k * n + k) _ | exact I.out.drew.set (k * n + k) _
        · first | exact grown_set_one G.out rfl _ | exact grown_drew_one (grown_set_one G.out rfl _)
      case measure => simp [intOf]; omega
    · have hkn : k = n := by omega
      subst hkn
      have BW := Lib.hid (BA.out.trans (below_of_one G.out (by omega) BA.out.size))
      obtain ⟨s0, s1, s2, t0, t1, t2⟩ := R2.out.all
      go_wp2_with fail
      obtain ⟨E0, E1, E2, -, -, -⟩ := (((R2.out.set0 (.int .i64 k)).set1 (.int .i64 k)).set2 (.slice (some ⟨g, 0, none⟩) N N)).all
      refine bodyPost_ret (v := .tuple #[.agg #[.int .i64 k, .int .i64 k, .slice (some ⟨g, 0, none⟩) N N], .bool true]) (by simp [results, Try.results57, go_sem, E0, E1, E2]) rfl ⟨_, rfl, ?_, ?_⟩
      · refine .inr ⟨g, N, by rw [idL_length, HN.out], by omega, ?_, by simp [idL_length, HN.out], by simp [idL_length, HN.out]; omega⟩
        exact ((I.out.far (by show g ≠ w.heap.size; omega) _).far (by show g ≠ w.heap.size; omega) _).far (by show g ≠ w.heap.size; omega) _
      · exact ((BW.out.setCell (Nat.le_refl _) _).setCell (Nat.le_refl _) _).setCell (Nat.le_refl _) _
theorem sIdent (n : Int) (w : World) : Calls Try.prog 57 #[.int .i64 n] w (MatRes (idM n) w) := by
  by_cases h : 0 ≤ n ∧ n ≤ 24
  · obtain ⟨k, rfl⟩ := Int.eq_ofNat_of_zero_le h.1
    have E : idM k = ⟨true, k, k, idL k k⟩ := by unfold idM; rw [if_pos h]; rfl
    rw [E]
    exact sIdent_t k w (by omega)
  · have E : Hid (idM n = MR.no) := by show idM n = _; unfold idM; rw [if_neg h]
    have h' : n < 0 ∨ 24 < n := by omega
    clear h
    have B0 : ∀ o1, Below w.heap.size w (w.alloc o1) := fun o1 => (Below.refl _ _).alloc (Nat.le_refl _) _
    have BH := Lib.hid B0
    clear B0
    go_enter Try.func57, Try.ntmps57
    go_wp2_with fail
    refine (sIn_f n 0 24 _ h').mono ?_
    rintro e w2 ⟨rfl, rfl⟩
    have K2 : Hid (Blk3 (w.alloc (.cells #[.int .i64 0, .int .i64 0, .slice none 0 0] 26)) w.heap.size 26 (.int .i64 0) (.int .i64 0) (.slice none 0 0)) := Blk3.at_ _ _ _ _ rfl
    have B := Lib.hid (BH.out (.cells #[.int .i64 0, .int .i64 0, .slice none 0 0] 26))
    obtain ⟨s0, s1, s2, t0, t1, t2⟩ := K2.out.all
    go_wp2_with fail
    rw [E.out]
    exact bodyPost_ret (v := .tuple #[.agg #[.int .i64 0, .int .i64 0, .slice none 0 0], .bool false]) (by simp [results, Try.results57, go_sem]) rfl ⟨_, rfl, .inl ⟨rfl, rfl⟩, B.out⟩
end Go.Proofs.Ytcapddcmnjeloaa
end

section
/-
  Plain mathematics of chapters 5 and 6: what operations on rows do to the determinant. Nothing of a program is used.
-/
namespace Go.Proofs.Ytcapddcmnjeloaa

theorem opL_getD {k : Int} {I J : Nat} {t : Int} {C : Nat} {xs : List Int} {p : Nat} (hp : p < xs.length) : (opL k I J t C xs).getD p 0 = opAt k I J t C xs p := by
  unfold opL
  simp only [List.getD, List.getElem?_map, List.getElem?_range hp, Option.map_some, Option.getD_some]
/-- If all cells are numbers in the end, no cell has a mark. -/
theorem opL_raw {k : Int} {I J : Nat} {t : Int} {R C : Nat} {xs : List Int} (hk : k = 0 ∨ k = 1 ∨ k = 2) (hl : xs.length = R * C) (hx : nums xs = true) (hI : I < R) (ht : NumP t) (hn : nums (opL k I J t C xs) = true) (p : Nat) (hp : p < R * C) :
    (opL k I J t C xs).getD p 0 = rwAt k I J t C xs p := by
  have hpr : ∀ q, q < C → k = 2 → NumP (xs.getD (J * C + q) 0 * t) := by
    intro q hq h2
    subst h2
    by_cases hb : NumP (xs.getD (J * C + q) 0 * t)
    · exact hb
    · exfalso
      have hi : I * C + q < xs.length := by rw [hl]; exact idx_lt hI hq
      have e : (opL 2 I J t C xs).getD (I * C + q) 0 = badN := by
        rw [opL_getD hi, opAt_two _ _ _ _ _ hq, mulB_num (nums_def hx _) ht, fitB_bad hb, addB_bad]
      have := nums_at hn (j := I * C + q) (by rw [opL_length]; exact hi)
      rw [e] at this
      exact bad_not this
  have hC : 0 < C := by
    rcases Nat.eq_zero_or_pos C with e | e
    · subst e; omega
    · exact e
  have hp' : p < xs.length := by rw [hl]; exact hp
  have h1 := nums_at hn (j := p) (by rw [opL_length]; exact hp')
  rw [opL_getD hp', opAt_raw k I J t C xs p hk hx ht (fun h2 _ => hpr _ (Nat.mod_lt p hC) h2)] at h1 ⊢
  by_cases hz : NumP (rwAt k I J t C xs p)
  · exact fitB_num hz
  · rw [fitB_bad hz] at h1; exact absurd h1 bad_not
/-- An operation on rows, over matrices. -/
def opX (k : Int) (I J : Nat) (t : Int) (A : Mx) : Mx := fun r c =>
  if k = 0 then (if r = I then A J c else if r = J then A I c else A r c)
  else if k = 1 then (if r = I then - A r c else A r c)
  else (if r = I then A r c + A J c * t else A r c)
theorem rwAt_mx {k : Int} {I J : Nat} {t : Int} {C : Nat} {xs : List Int} {r c : Nat} (hc : c < C) : rwAt k I J t C xs (r * C + c) = opX k I J t (fun r c => xs.getD (r * C + c) 0) r c := by
  unfold rwAt opX
  rw [idx_div hc, idx_mod hc]
theorem opX_mxL {k : Int} {I J : Nat} {t : Int} {n : Nat} {xs : List Int} (hk : k = 0 ∨ k = 1 ∨ k = 2) (hl : xs.length = n * n) (hx : nums xs = true) (hI : I < n) (ht : NumP t) (hn : nums (opL k I J t n xs) = true) :
    EqX n (mxL n (opL k I J t n xs)) (opX k I J t (mxL n xs)) := fun r c hr hc => by
  show (opL k I J t n xs).getD (r * n + c) 0 = _
  rw [opL_raw hk hl hx hI ht hn _ (idx_lt hr hc), rwAt_mx hc]
  rfl
def opSg (k : Int) : Int := if k = 2 then 1 else -1
theorem opX_det {k : Int} {I J : Nat} {t : Int} {n : Nat} (A : Mx) (hk : k = 0 ∨ k = 1 ∨ k = 2) (hI : I < n) (hJ : J < n) (hIJ : k ≠ 1 → I ≠ J) : det n (opX k I J t A) = opSg k * det n A := by
  rcases hk with rfl | rfl | rfl
  · have e : opX 0 I J t A = swR A I J := by
      funext r c
      unfold opX swR
      rw [if_pos rfl]
    rw [e, alt_swap (det_lin n) (det_alt n) (hIJ (by decide)) hI hJ A]
    unfold opSg
    rw [if_neg (by decide)]; omega
  · have e : opX 1 I J t A = stR A I (fun c => (-1) * A I c) := by
      funext r c
      unfold opX stR
      rw [if_neg (by decide), if_pos rfl]
      by_cases h : r = I
      · rw [if_pos h, if_pos h, h]
        show - A I c = (-1) * A I c
        omega
      · rw [if_neg h, if_neg h]
    rw [e, lin_scale (det_lin n) hI A (-1) (A I), stR_self]
    unfold opSg
    rw [if_neg (by decide)]
  · have e : opX 2 I J t A = stR A I (fun c => A I c + t * A J c) := by
      funext r c
      unfold opX stR
      rw [if_neg (by decide), if_neg (by decide)]
      by_cases h : r = I
      · rw [if_pos h, if_pos h, h, Int.mul_comm]
      · rw [if_neg h, if_neg h]
    rw [e, alt_add (det_lin n) (det_alt n) (hIJ (by decide)) hI hJ A t]
    unfold opSg
    rw [if_pos rfl, Int.one_mul]
/-- What an operation that succeeds has made of a square matrix. -/
theorem opM_det {k i j t : Int} {n : Nat} {xs : List Int} (h : (opM k i j t n n xs).ok = true) :
    ∃ ys : List Int, opM k i j t n n xs = ⟨true, n, n, ys⟩ ∧ xs.length = n * n ∧ nums xs = true ∧ ys.length = n * n ∧ nums ys = true ∧ det n (mxL n ys) = opSg k * det n (mxL n xs) := by
  unfold opM at h ⊢
  by_cases h1 : (isMat n n xs && isOp k i j t n) = true
  · rw [if_pos h1] at h ⊢
    simp only [Bool.and_eq_true] at h1
    obtain ⟨hm, ho⟩ := h1
    obtain ⟨-, -, hl, hx⟩ := isMat_says hm
    obtain ⟨hk, -, ⟨i1, i2⟩, ⟨j1, j2⟩, ht, -⟩ := isOp_says ho
    rw [← Int.natCast_mul] at hl
    have hl : xs.length = n * n := by omega
    obtain ⟨I, rfl⟩ := Int.eq_ofNat_of_zero_le i1
    obtain ⟨J, rfl⟩ := Int.eq_ofNat_of_zero_le j1
    have hIJ : k ≠ 1 → I ≠ J := fun h1 => by
      rcases hk with rfl | rfl | rfl
      · have := isOp_rows0 ho; omega
      · exact absurd rfl h1
      · have := isOp_rows2 ho; omega
    unfold MR.done at h ⊢
    by_cases h2 : isMat n n (opL k I J t n xs) = true
    · have hn := (isMat_says h2).2.2.2
      have e : (n : Int).toNat = n := rfl
      refine ⟨opL k I J t n xs, if_pos h2, hl, hx, by rw [opL_length, hl], hn, ?_⟩
      rw [det_congr (opX_mxL hk hl hx (by omega) ht hn)]
      exact opX_det _ hk (by omega) (by omega) hIJ
    · rw [show (if isMat n n (opL k (I : Int).toNat (J : Int).toNat t (n : Int).toNat xs) = true then _ else MR.no) = MR.no from if_neg h2] at h
      exact absurd h (by simp [MR.no])
  · rw [if_neg h1] at h; exact absurd h (by simp [MR.no])
theorem mxL_idL (n : Nat) : EqX n (mxL n (idL n n)) idX := fun r c hr hc => by
  have hp : r * n + c < n * n := idx_lt hr hc
  have e : (idL n n).getD (r * n + c) 0 = if (r * n + c) % (n + 1) = 0 ∧ r * n + c < n * (n + 1) then 1 else 0 := by
    unfold idL
    simp only [List.getD, List.getElem?_map, List.getElem?_range hp, Option.map_some, Option.getD_some]
  show (idL n n).getD (r * n + c) 0 = _
  rw [e]
  have hlt : r * n + c < n * (n + 1) := by rw [Nat.mul_add, Nat.mul_one]; omega
  unfold idX
  rcases Nat.lt_trichotomy r c with h | h | h
  · have e2 : r * n + c = r * (n + 1) + (c - r) := by rw [Nat.mul_add, Nat.mul_one]; omega
    rw [if_neg (fun h' => by rw [e2, idx_mod (by omega)] at h'; omega), if_neg (by omega)]
  · subst h
    have e2 : r * n + r = r * (n + 1) + 0 := by rw [Nat.mul_add, Nat.mul_one]; omega
    rw [if_pos ⟨by rw [e2, idx_mod (by omega)], hlt⟩, if_pos rfl]
  · obtain ⟨p, rfl⟩ : ∃ p, r = p + 1 := ⟨r - 1, by omega⟩
    have e2 : (p + 1) * n + c = p * (n + 1) + (n + c - p) := by rw [Nat.mul_add, Nat.mul_one, Nat.add_mul, Nat.one_mul]; omega
    rw [if_neg (fun h' => by rw [e2, idx_mod (by omega)] at h'; omega), if_neg (by omega)]
theorem idL_nums (n : Nat) : nums (idL n n) = true := by
  refine nums_true fun p hp => ?_
  rw [idL_length] at hp
  unfold idL
  simp only [List.getD, List.getElem?_map, List.getElem?_range hp, Option.map_some, Option.getD_some]
  split
  · exact ⟨by decide, by decide⟩
  · exact ⟨by decide, by decide⟩
theorem idL_det (n : Nat) : det n (mxL n (idL n n)) = 1 := by rw [det_congr (mxL_idL n), det_id]
end Go.Proofs.Ytcapddcmnjeloaa
end

section
/-
  Plain mathematics of chapter 6: what the laws say. Nothing of a program is used.
-/
namespace Go.Proofs.Ytcapddcmnjeloaa

theorem detOf_says {r c d : Int} {xs : List Int} (h1 : (detOf r c xs).1 = d) (h2 : (detOf r c xs).2 = true) : ∃ n : Nat, r = n ∧ c = n ∧ n ≤ 6 ∧ xs.length = n * n ∧ nums xs = true ∧ detB n xs = d ∧ NumP d ∧ d = det n (mxL n xs) := by
  have hn := detOf_num r c xs
  rw [h1] at hn
  unfold detOf at h1 h2
  by_cases hs : isSq r c xs = true
  · rw [if_pos hs] at h1 h2
    obtain ⟨n, rfl, rfl, h6, hl, nx⟩ := isSq_says hs
    have e : (n : Int).toNat = n := rfl
    rw [e] at h1 h2
    unfold detM at h1 h2
    by_cases hb : detB n xs = badN
    · rw [if_pos hb] at h2; exact absurd h2 (by decide)
    · rw [if_neg hb] at h1
      have h1 : detB n xs = d := h1
      exact ⟨n, rfl, rfl, h6, hl, nx, h1, hn, by rw [← h1]; exact detB_det n xs hb⟩
  · rw [if_neg hs] at h2; exact absurd h2 (by decide)
theorem mulM_says {r c r' c' : Int} {xs ys : List Int} (h : (mulM r c xs r' c' ys).ok = true) : ∃ R K C : Nat, r = R ∧ c = K ∧ r' = K ∧ c' = C ∧ isMat r c xs = true ∧ isMat r' c' ys = true ∧ mulM r c xs r' c' ys = ⟨true, r, c', mulL R K C xs ys⟩ := by
  unfold mulM at h ⊢
  by_cases h1 : (isMat r c xs && isMat r' c' ys && decide (c = r')) = true
  · rw [if_pos h1] at h ⊢
    simp only [Bool.and_eq_true, decide_eq_true_eq] at h1
    obtain ⟨⟨hm, hm'⟩, rfl⟩ := h1
    obtain ⟨⟨r1, -⟩, ⟨c1, -⟩, -, -⟩ := isMat_says hm
    obtain ⟨-, ⟨c2, -⟩, -, -⟩ := isMat_says hm'
    obtain ⟨R, rfl⟩ := Int.eq_ofNat_of_zero_le r1
    obtain ⟨K, rfl⟩ := Int.eq_ofNat_of_zero_le c1
    obtain ⟨C, rfl⟩ := Int.eq_ofNat_of_zero_le c2
    unfold MR.done at h ⊢
    by_cases h2 : isMat R C (mulL R K C xs ys) = true
    · exact ⟨R, K, C, rfl, rfl, rfl, rfl, hm, hm', if_pos h2⟩
    · rw [show (if isMat R C (mulL (R : Int).toNat (K : Int).toNat (C : Int).toNat xs ys) = true then _ else MR.no) = MR.no from if_neg h2] at h
      exact absurd h (by simp [MR.no])
  · rw [if_neg h1] at h; exact absurd h (by simp [MR.no])
theorem mxL_mul (n : Nat) (xs ys : List Int) : EqX n (mxL n (mulL n n n xs ys)) (mulX n (mxL n xs) (mxL n ys)) := fun r c hr hc => by
  show (mulL n n n xs ys).getD (r * n + c) 0 = sumN n fun k => mxL n xs r k * mxL n ys k c
  unfold mulL
  rw [tab_at n n _ hr hc, dot_sum]
  rfl
/-- The determinant of a product. -/
theorem prod_det {r c r' c' dx dy dz : Int} {xs ys : List Int} {m : MR} (hm : mulM r c xs r' c' ys = m) (ho : m.ok = true) (a1 : (detOf r c xs).1 = dx) (a2 : (detOf r c xs).2 = true) (b1 : (detOf r' c' ys).1 = dy) (b2 : (detOf r' c' ys).2 = true)
    (c1 : (detOf m.r m.c m.zs).1 = dz) (c2 : (detOf m.r m.c m.zs).2 = true) : dx * dy = dz ∧ NumP dx ∧ NumP dy := by
  obtain ⟨n, rfl, rfl, -, -, -, -, na, ea⟩ := detOf_says a1 a2
  obtain ⟨k, rfl, rfl, -, -, -, -, nb, eb⟩ := detOf_says b1 b2
  obtain ⟨R, K, C, e1, e2, e3, e4, -, -, e⟩ := mulM_says (by rw [hm]; exact ho)
  obtain rfl : n = R := by omega
  obtain rfl : n = K := by omega
  obtain rfl : k = n := by omega
  obtain rfl : k = C := by omega
  rw [hm] at e
  subst e
  obtain ⟨p, p1, -, -, -, -, -, -, ec⟩ := detOf_says c1 c2
  have p1 : (k : Int) = (p : Int) := p1
  obtain rfl : k = p := by omega
  refine ⟨?_, na, nb⟩
  rw [ea, eb, ec]
  show _ = det k (mxL k (mulL k k k xs ys))
  rw [det_congr (mxL_mul k xs ys), det_mul]
/-- A matrix turned over. -/
theorem turn_det {r c dx dz : Int} {xs : List Int} (a1 : (detOf r c xs).1 = dx) (a2 : (detOf r c xs).2 = true) (c1 : (detOf (turnM r c xs).r (turnM r c xs).c (turnM r c xs).zs).1 = dz) (c2 : (detOf (turnM r c xs).r (turnM r c xs).c (turnM r c xs).zs).2 = true) : dx = dz := by
  obtain ⟨n, rfl, rfl, -, hl, -, -, na, ea⟩ := detOf_says a1 a2
  obtain ⟨p, p1, p2, -, hl2, -, -, nc, ec⟩ := detOf_says c1 c2
  unfold turnM at p1 ec
  by_cases hm : isMat n n xs = true
  · rw [if_pos hm] at p1 ec
    have p1 : (n : Int) = (p : Int) := p1
    obtain rfl : n = p := by omega
    rw [ea, ec]
    show det n (mxL n xs) = det n (mxL n (turnL n n xs))
    rw [← det_tr n (mxL n xs)]
    refine det_congr fun r c hr hc => ?_
    show xs.getD (c * n + r) 0 = (turnL n n xs).getD (r * n + c) 0
    exact (turnL_at n n xs hc hr).symm
  · exfalso
    unfold detOf isSq at a2
    rw [show isMat n n xs = false by simpa using hm] at a2
    simp at a2
theorem steps_says {r c d : Int} {xs : List Int} (h1 : (detOf r c xs).1 = d) (h2 : (detOf r c xs).2 = true) {e : Int} (hs : (if isSq r c xs = true then stepsM r.toNat xs else (0, false)) = (e, true)) : d = e := by
  obtain ⟨n, rfl, rfl, -, hl, -, -, -, ed⟩ := detOf_says h1 h2
  by_cases hq : isSq n n xs = true
  · rw [if_pos hq] at hs
    rw [ed]
    exact (stepsM_det hl hs).symm
  · rw [if_neg hq] at hs; exact absurd (congrArg Prod.snd hs) (by simp)
end Go.Proofs.Ytcapddcmnjeloaa
end

section
/-
  Plain mathematics of chapter 11: what IsRational, SolveByDeterminants and SolveByEchelon answer, and that they agree.
-/
namespace Go.Proofs.Ytcapddcmnjeloaa

/-! ### The solution that an echelon form shows -/
/-- A matrix with a further column. -/
def wdX (n : Nat) (M : Mx) (b : Nat → Int) : Mx := fun i j => if j < n then M i j else b i
theorem RSol.echelon {n : Nat} {M A : Mx} {b : Nat → Int} {z : Nat → Int × Int} (ho : ∀ k i, k < n → i < n → i ≠ k → A i k = 0) (hs : SubSp n n (n + 1) (wdX n M b) A) (hz : ∀ i, i < n → RatQ (z i) ∧ A i n * (z i).2 = (z i).1 * A i i) : RSol n n M b z where
  rat := fun j hj => (hz j hj).1
  sol := fun D y hy i hi => by
    have e : ∀ j, j < n → A j j * y j = D * A j n := fun j hj => by
      have e1 := hy j hj
      obtain ⟨h1, h2⟩ := hz j hj
      refine Int.eq_of_mul_eq_mul_right (show (z j).2 ≠ 0 by have := h1.1; omega) ?_
      calc A j j * y j * (z j).2 = A j j * (y j * (z j).2) := by grind
        _ = A j j * ((z j).1 * D) := by rw [e1]
        _ = D * ((z j).1 * A j j) := by grind
        _ = D * (A j n * (z j).2) := by rw [h2]
        _ = D * A j n * (z j).2 := by grind
    obtain ⟨d, k, hd, hk⟩ := hs i hi
    have e1 : ∀ j, j < n → d * M i j = k j * A j j := fun j hj => by
      have := hk j (by omega)
      unfold wdX at this
      rw [if_pos hj] at this
      rw [this, sumN_one (a := j) hj fun l hl hne => by rw [ho j l hj hl hne, Int.mul_zero]]
    have e2 : d * b i = sumN n fun l => k l * A l n := by
      have := hk n (by omega)
      unfold wdX at this
      rw [if_neg (Nat.lt_irrefl n)] at this
      exact this
    refine Int.eq_of_mul_eq_mul_left hd ?_
    calc d * (sumN n fun j => M i j * y j) = sumN n fun j => d * (M i j * y j) := sumN_mul_left _ _ _
      _ = sumN n fun j => D * (k j * A j n) := sumN_congr fun j hj => by
          rw [← Int.mul_assoc, e1 j hj, Int.mul_assoc, e j hj]; grind
      _ = D * sumN n fun j => k j * A j n := (sumN_mul_left _ _ _).symm
      _ = D * (d * b i) := by rw [e2]
      _ = d * (D * b i) := by grind

/-! ### The arguments -/
/-- The functions that solve ask for a square matrix and as many numbers. -/
def sysB (r c : Int) (xs bs : List Int) : Bool := isSq r c xs && decide ((bs.length : Int) = r) && nums bs
theorem sysB_says {r c : Int} {xs bs : List Int} (h : sysB r c xs bs = true) : ∃ n : Nat, r = n ∧ c = n ∧ n ≤ 6 ∧ xs.length = n * n ∧ nums xs = true ∧ bs.length = n ∧ nums bs = true := by
  unfold sysB at h
  simp only [Bool.and_eq_true, decide_eq_true_eq] at h
  obtain ⟨n, rfl, rfl, h6, hl, hn⟩ := isSq_says h.1.1
  exact ⟨n, rfl, rfl, h6, hl, hn, by omega, h.2⟩
theorem sysB_true {r c : Int} {xs bs : List Int} (h1 : isSq r c xs = true) (h2 : (bs.length : Int) = r) (h3 : nums bs = true) : sysB r c xs bs = true := by
  unfold sysB; rw [h1, decide_eq_true h2, h3]; rfl
theorem sysB_false {r c : Int} {xs bs : List Int} (h : isSq r c xs = false ∨ (bs.length : Int) ≠ r ∨ nums bs = false) : sysB r c xs bs = false := by
  unfold sysB
  rcases h with h | h | h
  · rw [h]; rfl
  · rw [decide_eq_false h, Bool.and_false]; rfl
  · rw [h, Bool.and_false]

/-! ### IsRational -/
/-- The j-th ratio of a list, none behind its end. -/
def atR (zs : List (Int × Int)) (j : Nat) : Int × Int := zs.getD j (0, 0)
theorem atR_map {n : Nat} {f : Nat → Int × Int} {j : Nat} (hj : j < n) : atR ((List.range n).map f) j = f j := by
  simp [atR, List.getD, hj]
/-- One equation holds. -/
def rowB (c : Nat) (xs bs : List Int) (zs : List (Int × Int)) (i : Nat) : Bool := decide (sumR (mxC c xs i) (atR zs) c = (bs.getD i 0, 1))
/-- What IsRational answers. -/
def irB (r c : Int) (xs bs : List Int) (zs : List (Int × Int)) : Bool := isMat r c xs && decide ((bs.length : Int) = r) && decide ((zs.length : Int) = c) && (List.range r.toNat).all (rowB c.toNat xs bs zs)
theorem irB_false {r c : Int} {xs bs : List Int} {zs : List (Int × Int)} (h : isMat r c xs = false ∨ (bs.length : Int) ≠ r ∨ (zs.length : Int) ≠ c) : irB r c xs bs zs = false := by
  unfold irB
  rcases h with h | h | h
  · rw [h]; rfl
  · rw [decide_eq_false h, Bool.and_false]; rfl
  · rw [decide_eq_false h, Bool.and_false]; rfl
theorem irB_row {r c i : Nat} {xs bs : List Int} {zs : List (Int × Int)} (hi : i < r) (h : rowB c xs bs zs i = false) : irB r c xs bs zs = false := by
  cases hb : irB r c xs bs zs with
  | false => rfl
  | true =>
    unfold irB at hb
    rw [Bool.and_eq_true, List.all_eq_true] at hb
    have := hb.2 i (List.mem_range.mpr hi)
    rw [show (c : Int).toNat = c from rfl, h] at this
    cases this
theorem irB_true {r c : Nat} {xs bs : List Int} {zs : List (Int × Int)} (h1 : isMat r c xs = true) (h2 : bs.length = r) (h3 : zs.length = c) (h : ∀ i, i < r → rowB c xs bs zs i = true) : irB r c xs bs zs = true := by
  unfold irB
  rw [h1, decide_eq_true (show (bs.length : Int) = r by omega), decide_eq_true (show (zs.length : Int) = c by omega)]
  exact List.all_eq_true.mpr fun i hi => h i (List.mem_range.mp hi)
theorem irB_says {r c : Int} {xs bs : List Int} {zs : List (Int × Int)} (h : irB r c xs bs zs = true) : ∃ R C : Nat, r = R ∧ c = C ∧ R ≤ 24 ∧ C ≤ 24 ∧ isMat r c xs = true ∧ bs.length = R ∧ zs.length = C ∧ ((0 < R ∨ C = 0) → RSol R C (mxC C xs) (fun i => bs.getD i 0) (atR zs)) := by
  unfold irB at h
  simp only [Bool.and_eq_true, decide_eq_true_eq, List.all_eq_true] at h
  obtain ⟨⟨⟨h1, h2⟩, h3⟩, h4⟩ := h
  obtain ⟨⟨r0, r1⟩, ⟨c0, c1⟩, -, -⟩ := isMat_says h1
  obtain ⟨R, rfl⟩ := Int.eq_ofNat_of_zero_le r0
  obtain ⟨C, rfl⟩ := Int.eq_ofNat_of_zero_le c0
  refine ⟨R, C, rfl, rfl, by omega, by omega, h1, by omega, by omega, fun hr => RSol.sums hr fun i hi => ?_⟩
  have := h4 i (List.mem_range.mpr hi)
  unfold rowB at this
  exact of_decide_eq_true this
theorem irB_sol {n : Nat} {xs bs : List Int} {zs : List (Int × Int)} (h : irB n n xs bs zs = true) : zs.length = n ∧ RSol n n (mxC n xs) (fun i => bs.getD i 0) (atR zs) := by
  obtain ⟨R, C, h1, h2, -, -, -, -, h3, h4⟩ := irB_says h
  obtain rfl : n = R := by omega
  obtain rfl : n = C := by omega
  exact ⟨h3, h4 (by omega)⟩

/-! ### SolveByDeterminants -/
/-- The matrix with column j replaced. -/
def rcL (n : Nat) (xs bs : List Int) (j : Nat) : List Int := tab n n fun i k => if k = j then bs.getD i 0 else xs.getD (i * n + k) 0
theorem rcL_length (n : Nat) (xs bs : List Int) (j : Nat) : (rcL n xs bs j).length = n * n := tab_length _ _ _
theorem rcL_nums {n j : Nat} {xs bs : List Int} (hx : xs.length = n * n) (hn : nums xs = true) (hb : bs.length = n) (hm : nums bs = true) : nums (rcL n xs bs j) = true := tab_nums fun i k hi hk => by
  split
  · exact nums_at hm (by omega)
  · exact nums_at hn (by rw [hx]; exact idx_lt hi hk)
theorem rcL_rcX (n : Nat) (xs bs : List Int) (j : Nat) : EqX n (mxL n (rcL n xs bs j)) (rcX (mxL n xs) j fun i => bs.getD i 0) := fun i k hi hk => by
  unfold rcL
  rw [mxL_tab n _ i k hi hk]
  rfl
/-- What SolveByDeterminants answers. -/
def sdX (r c : Int) (xs bs : List Int) : List (Int × Int) × Bool := if (sysB r c xs bs && (detOf r c xs).2 && decide ((detOf r c xs).1 ≠ 0) && (List.range r.toNat).all fun j => (detOf r c (rcL r.toNat xs bs j)).2) = true then ((List.range r.toNat).map fun j => mkRat (detOf r c (rcL r.toNat xs bs j)).1 (detOf r c xs).1, true) else ([], false)
theorem sdX_no {r c : Int} {xs bs : List Int} (h : sysB r c xs bs = false ∨ (detOf r c xs).2 = false ∨ (detOf r c xs).1 = 0) : sdX r c xs bs = ([], false) := by
  unfold sdX
  rcases h with h | h | h
  · rw [h]; rfl
  · rw [h, Bool.and_false]; rfl
  · rw [decide_eq_false (fun e => e h), Bool.and_false]; rfl
theorem sdX_bad {n j : Nat} {xs bs : List Int} (hj : j < n) (h : (detOf n n (rcL n xs bs j)).2 = false) : sdX n n xs bs = ([], false) := by
  unfold sdX
  refine if_neg fun h2 => ?_
  rw [Bool.and_eq_true, List.all_eq_true] at h2
  have := h2.2 j (List.mem_range.mpr hj)
  rw [show (n : Int).toNat = n from rfl, h] at this
  cases this
/-- The first quotients. -/
def sdUp (n : Nat) (xs bs : List Int) (d : Int) (j : Nat) : List (Int × Int) := (List.range j).map fun k => mkRat (detOf n n (rcL n xs bs k)).1 d
theorem sdUp_succ (n : Nat) (xs bs : List Int) (d : Int) (j : Nat) : sdUp n xs bs d (j + 1) = sdUp n xs bs d j ++ [mkRat (detOf n n (rcL n xs bs j)).1 d] := by simp [sdUp, List.range_succ]
theorem sdX_yes {n : Nat} {xs bs : List Int} (h1 : sysB n n xs bs = true) (h2 : (detOf n n xs).2 = true) (h3 : (detOf n n xs).1 ≠ 0) (h4 : ∀ j, j < n → (detOf n n (rcL n xs bs j)).2 = true) : sdX n n xs bs = (sdUp n xs bs (detOf n n xs).1 n, true) := by
  unfold sdX
  refine if_pos ?_
  rw [h1, h2, decide_eq_true h3]
  exact List.all_eq_true.mpr fun j hj => h4 j (List.mem_range.mp hj)
/-- A quotient of numbers, its denominator not 0, is a ratio. -/
theorem mkRat_num {n d : Int} (hn : NumP n) (hd : NumP d) (h0 : d ≠ 0) : RatQ (mkRat n d) ∧ n * (mkRat n d).2 = (mkRat n d).1 * d := by
  rw [mkRat_in ⟨hn, hd⟩]
  obtain ⟨b1, b2, b3, b4⟩ := low_bd n d h0
  have f : Fits (lowN n d) (lowD n d) := by
    unfold NumP at hn hd
    refine ⟨by omega, by omega, by omega, by omega⟩
  obtain ⟨e, hr⟩ := low_fits h0 f
  rw [e]
  exact ⟨hr, (low_says e hr).2⟩
theorem sdX_says {r c : Int} {xs bs : List Int} (h : (sdX r c xs bs).2 = true) : ∃ n : Nat, r = n ∧ c = n ∧ n ≤ 6 ∧ sysB r c xs bs = true ∧ (detOf r c xs).2 = true ∧ det n (mxL n xs) ≠ 0 ∧ (sdX r c xs bs).1.length = n ∧ RSol n n (mxL n xs) (fun i => bs.getD i 0) (atR (sdX r c xs bs).1) := by
  by_cases hh : (sysB r c xs bs && (detOf r c xs).2 && decide ((detOf r c xs).1 ≠ 0) && (List.range r.toNat).all fun j => (detOf r c (rcL r.toNat xs bs j)).2) = true
  rotate_left
  · unfold sdX at h; rw [if_neg hh] at h; cases h
  simp only [Bool.and_eq_true, decide_eq_true_eq, List.all_eq_true] at hh
  obtain ⟨⟨⟨h1, h2⟩, h3⟩, h4⟩ := hh
  obtain ⟨n, rfl, rfl, h6, hl, hn, hb, hm⟩ := sysB_says h1
  have h4 : ∀ j, j < n → (detOf n n (rcL n xs bs j)).2 = true := fun j hj => h4 j (List.mem_range.mpr hj)
  have ed : ∀ ys : List Int, (detOf n n ys).2 = true → (detOf n n ys).1 = det n (mxL n ys) := fun ys hy => by
    obtain ⟨m, hm, -, -, -, -, -, -, e⟩ := detOf_says rfl hy
    obtain rfl : n = m := by omega
    exact e
  have hd : det n (mxL n xs) ≠ 0 := by rw [← ed xs h2]; exact h3
  rw [sdX_yes h1 h2 h3 h4]
  refine ⟨n, rfl, rfl, h6, h1, h2, hd, by simp [sdUp], RSol.cramer hd fun j hj => ?_⟩
  show RatQ (atR (sdUp n xs bs (detOf n n xs).1 n) j) ∧ _ * (atR (sdUp n xs bs (detOf n n xs).1 n) j).2 = (atR (sdUp n xs bs (detOf n n xs).1 n) j).1 * _
  unfold sdUp
  rw [atR_map hj, ← det_congr (rcL_rcX n xs bs j), ← ed _ (h4 j hj), ← ed _ h2]
  exact mkRat_num (detOf_num _ _ _) (detOf_num _ _ _) h3

/-! ### SolveByEchelon -/
/-- The matrix with b as a further column. -/
def wdL (n : Nat) (xs bs : List Int) : List Int := tab n (n + 1) fun i j => if j < n then xs.getD (i * n + j) 0 else bs.getD i 0
theorem wdL_length (n : Nat) (xs bs : List Int) : (wdL n xs bs).length = n * (n + 1) := tab_length _ _ _
theorem wdL_nums {n : Nat} {xs bs : List Int} (hx : xs.length = n * n) (hn : nums xs = true) (hb : bs.length = n) (hm : nums bs = true) : nums (wdL n xs bs) = true := tab_nums fun i k hi hk => by
  split
  · next h => exact nums_at hn (by rw [hx]; exact idx_lt hi h)
  · exact nums_at hm (by omega)
/-- The columns of the unknowns all have pivots. -/
def fullB (n : Nat) (pv : List Nat) : Bool := decide (n ≤ pv.length) && decide (0 < n → pv.getD (n - 1) 0 ≠ n)
/-- The quotients that a form shows. -/
def seUp (n : Nat) (ys : List Int) (i : Nat) : List (Int × Int) := (List.range i).map fun k => mkRat (ys.getD (k * (n + 1) + n) 0) (ys.getD (k * (n + 1) + k) 0)
theorem seUp_succ (n : Nat) (ys : List Int) (i : Nat) : seUp n ys (i + 1) = seUp n ys i ++ [mkRat (ys.getD (i * (n + 1) + n) 0) (ys.getD (i * (n + 1) + i) 0)] := by simp [seUp, List.range_succ]
/-- What SolveByEchelon answers. -/
def seX (r c : Int) (xs bs : List Int) : List (Int × Int) × Bool := if sysB r c xs bs = true then (match echM r.toNat (r.toNat + 1) (wdL r.toNat xs bs) with | some (ys, pv) => if fullB r.toNat pv = true then (seUp r.toNat ys r.toNat, true) else ([], false) | none => ([], false)) else ([], false)
theorem seX_sys {r c : Int} {xs bs : List Int} (h : sysB r c xs bs = false) : seX r c xs bs = ([], false) := by
  unfold seX; rw [h]; rfl
theorem seX_none {n : Nat} {xs bs : List Int} (h : sysB n n xs bs = true) (he : echM n (n + 1) (wdL n xs bs) = none) : seX n n xs bs = ([], false) := by
  unfold seX; rw [if_pos h]
  show (match echM n (n + 1) (wdL n xs bs) with | some (ys, pv) => if fullB n pv = true then (seUp n ys n, true) else ([], false) | none => ([], false)) = _
  rw [he]
theorem seX_some {n : Nat} {xs bs ys : List Int} {pv : List Nat} (h : sysB n n xs bs = true) (he : echM n (n + 1) (wdL n xs bs) = some (ys, pv)) : seX n n xs bs = if fullB n pv = true then (seUp n ys n, true) else ([], false) := by
  unfold seX; rw [if_pos h]
  show (match echM n (n + 1) (wdL n xs bs) with | some (ys, pv) => if fullB n pv = true then (seUp n ys n, true) else ([], false) | none => ([], false)) = _
  rw [he]
theorem seX_says {r c : Int} {xs bs : List Int} (h : (seX r c xs bs).2 = true) : ∃ n : Nat, r = n ∧ c = n ∧ n ≤ 6 ∧ sysB r c xs bs = true ∧ (seX r c xs bs).1.length = n ∧ RSol n n (mxL n xs) (fun i => bs.getD i 0) (atR (seX r c xs bs).1) := by
  cases hs : sysB r c xs bs with
  | false => rw [seX_sys hs] at h; cases h
  | true =>
    obtain ⟨n, rfl, rfl, h6, hl, hn, hb, hm⟩ := sysB_says hs
    cases he : echM n (n + 1) (wdL n xs bs) with
    | none => rw [seX_none hs he] at h; cases h
    | some p =>
      obtain ⟨ys, pv⟩ := p
      rw [seX_some hs he] at h ⊢
      by_cases hf : fullB n pv = true
      rotate_left
      · rw [if_neg hf] at h; cases h
      rw [if_pos hf]
      unfold fullB at hf
      simp only [Bool.and_eq_true, decide_eq_true_eq] at hf
      obtain ⟨E, -, S, hy, hyn, -⟩ := echM_says (wdL_length n xs bs) (wdL_nums hl hn hb hm) he
      have ht : pv.length = n := by have := E.le; omega
      rw [ht] at E
      have hp : ∀ k, k < n → pv.getD k 0 = k := inc_id (fun k hk => by
        have h1 := E.col (n - 1) (by omega)
        have h2 := hf.2 (by omega)
        have h1 : pv.getD (n - 1) 0 < n + 1 := h1
        rcases Nat.lt_or_ge k (n - 1) with h3 | h3
        · have h4 : pv.getD k 0 < pv.getD (n - 1) 0 := E.inc k (n - 1) h3 (by omega)
          omega
        · obtain rfl : k = n - 1 := by omega
          omega) E.inc
      refine ⟨n, rfl, rfl, h6, rfl, by simp [seUp], ?_⟩
      have hpos : ∀ k, k < n → 0 < mxC (n + 1) ys k k := fun k hk => by
        have := E.pos k hk
        rwa [hp k hk] at this
      refine RSol.echelon (A := mxC (n + 1) ys) (fun k i hk hi hne => ?_) (fun i hi => (S i hi).congr fun j hj => ?_) fun i hi => ?_
      · have := E.only k i hk hi hne
        rwa [hp k hk] at this
      · unfold wdL
        rw [mxC_tab hi hj]
        rfl
      · unfold seUp
        rw [atR_map hi]
        have h0 := hpos i hi
        exact mkRat_num (mx_nums hy hyn hi (by omega)) (mx_nums hy hyn hi (by omega)) (by show mxC (n + 1) ys i i ≠ 0; omega)

/-! ### One solution -/
theorem same_list {n : Nat} {zs ws : List (Int × Int)} (h1 : zs.length = n) (h2 : ws.length = n) (h : ∀ j, j < n → atR zs j = atR ws j) : zs = ws := by
  refine List.ext_getElem (by omega) fun j a b => ?_
  have := h j (by omega)
  unfold atR at this
  simpa [List.getD, a, b] using this
theorem sd_se {r c : Int} {xs bs : List Int} (h1 : (sdX r c xs bs).2 = true) (h2 : (seX r c xs bs).2 = true) : (sdX r c xs bs).1 = (seX r c xs bs).1 := by
  obtain ⟨n, hn, -, -, -, -, hd, l1, s1⟩ := sdX_says h1
  obtain ⟨m, hm, -, -, -, l2, s2⟩ := seX_says h2
  obtain rfl : n = m := by omega
  exact same_list l1 l2 (s1.uniq hd s2)
/-- A solution that IsRational accepts is the one that determinants give. -/
theorem sd_ir {r c : Int} {xs bs : List Int} {zs : List (Int × Int)} (h1 : (sdX r c xs bs).2 = true) (h2 : irB r c xs bs zs = true) : (sdX r c xs bs).1 = zs := by
  obtain ⟨n, rfl, rfl, -, -, -, hd, l1, s1⟩ := sdX_says h1
  obtain ⟨l2, s2⟩ := irB_sol h2
  exact same_list l1 l2 (s1.uniq hd s2)
/-- And the one that an echelon form shows, where the determinant is not 0. -/
theorem se_ir {n : Nat} {xs bs : List Int} {zs : List (Int × Int)} (hd : det n (mxL n xs) ≠ 0) (h1 : (seX n n xs bs).2 = true) (h2 : irB n n xs bs zs = true) : (seX n n xs bs).1 = zs := by
  obtain ⟨m, hm, -, -, -, l1, s1⟩ := seX_says h1
  obtain rfl : n = m := by omega
  obtain ⟨l2, s2⟩ := irB_sol h2
  exact same_list l1 l2 (s1.uniq hd s2)
end Go.Proofs.Ytcapddcmnjeloaa
end

section
/-
  Chapter 3, in the program: IsMatrix.
-/
namespace Go.Proofs.Ytcapddcmnjeloaa
open Go.RowKit

theorem iSize_t (n : Int) (w : World) (h1 : 0 ≤ n) (h2 : n ≤ 24) :
    Calls Try.prog 90 #[.int .i64 n] w fun e w' => e = .returned (.bool true) ∧ w = w' := by
  go_enter Try.func90, Try.ntmps90
  go_wp2
  go_ret
  exact ⟨rfl, rfl⟩
theorem iSize_f (n : Int) (w : World) (h : n < 0 ∨ 24 < n) :
    Calls Try.prog 90 #[.int .i64 n] w fun e w' => e = .returned (.bool false) ∧ w = w' := by
  by_cases h1 : 0 ≤ n
  · have h2 : decide (n ≤ 24) = false := by simp; omega
    go_enter Try.func90, Try.ntmps90
    go_wp2
    go_ret
    exact ⟨rfl, rfl⟩
  · go_enter Try.func90, Try.ntmps90
    go_wp2
    go_ret
    exact ⟨rfl, rfl⟩
theorem iSize (n : Int) (w : World) :
    Calls Try.prog 90 #[.int .i64 n] w fun e w' => e = .returned (.bool (decide (SizeP n))) ∧ w = w' := by
  by_cases h : SizeP n
  · rw [decide_eq_true h]; exact iSize_t n w h.1 h.2
  · rw [decide_eq_false h]; exact iSize_f n w (by unfold SizeP at h; omega)
theorem iIsNum (n : Int) (w : World) :
    Calls Try.prog 93 #[.int .i64 n] w fun e w' => e = .returned (.bool (decide (NumP n))) ∧ w = w' := by
  by_cases h : NumP n
  · rw [decide_eq_true h]; exact iIsNum_t n w h.1 h.2
  · rw [decide_eq_false h]; exact iIsNum_f n w (by unfold NumP at h; omega)
/-- The step of IsMatrix's fold. -/
theorem iStep (b : Bool) (i j z : Int) (w : World) :
    Calls Try.prog 92 #[.bool b, .int .i64 i, .int .i64 j, .int .i64 z] w fun e w' => e = .returned (.bool (b && decide (NumP z))) ∧ w = w' := by
  cases b
  · go_enter Try.func92, Try.ntmps92
    go_wp2_with fail
    go_ret
    exact ⟨rfl, rfl⟩
  · go_enter Try.func92, Try.ntmps92
    go_wp2_with fail
    refine (iIsNum z _).mono ?_
    rintro e w' ⟨rfl, rfl⟩
    go_wp2_with fail
    go_ret
    exact ⟨rfl, rfl⟩
theorem take_nums (zs : List Int) (k : Nat) (hk : k < zs.length) : nums (zs.take (k + 1)) = (nums (zs.take k) && decide (NumP (zs.getD k 0))) := by
  unfold nums
  rw [List.take_succ_eq_append_getElem hk, List.all_append]
  simp only [List.all_cons, List.all_nil, Bool.and_true, List.getD, List.getElem?_eq_getElem hk, Option.getD_some]
set_option maxHeartbeats 400000 in
theorem iFoldB (r c : Int) (a : Option Addr) (cap : Nat) (zs : List Int) (w : World) (h : Rd w a zs) (hn : zs.length ≤ 16777216) (hc : zs.length = 0 ∨ 0 < c) :
    Calls Try.prog 91 #[.agg #[.int .i64 r, .int .i64 c, .slice a zs.length cap], .bool true, .func (.func 92) #[] #[]] w (Gives (.bool (nums zs)) w) := by
  have B0 : ∀ o, Below w.heap.size w (w.alloc o) := fun o => (Below.refl _ _).alloc (Nat.le_refl _) o
  have BH := Lib.hid B0
  have H := Lib.hid h
  obtain ⟨n, hnn⟩ : ∃ n, zs.length = n := ⟨_, rfl⟩
  have HN := Lib.hid hnn
  rw [hnn] at hn hc ⊢
  clear h B0 hnn
  go_enter Try.func91, Try.ntmps91
  go_wp2_with fail
  go_loopw [7, 8, 9, 14] (fun b _ _ i wr => ∃ k : Nat, i = .int .i64 k ∧ k ≤ n ∧ b = .bool (nums (zs.take k)) ∧ ∃ q, wr = (w.alloc (.cells #[.int .i64 r, .int .i64 c, .slice a n cap] 26)).drewN q) (fun _ _ _ i _ => n - (intOf i).toNat)
  case atStart => exact ⟨0, rfl, by omega, rfl, 0, rfl⟩
  case round =>
    obtain ⟨k, rfl, hk, rfl, q, rfl⟩ := hrel
    by_cases hlt : k < n
    · have c0 : (c == 0) = false := by simp; omega
      obtain ⟨b, o, rfl, hcell⟩ := (H.out.below (BH.out (.cells #[.int .i64 r, .int .i64 c, .slice a n cap] 26))) k (by rw [HN.out]; exact hlt)
      obtain ⟨z, hz⟩ : ∃ z, zs.getD k 0 = z := ⟨_, rfl⟩
      obtain ⟨bb, hbb⟩ : ∃ bb, nums (zs.take k) = bb := ⟨_, rfl⟩
      rw [hz] at hcell
      have Z := Lib.hid hz
      have BB := Lib.hid hbb
      rw [hbb]
      clear hz hbb
      go_wp2_with fail
      go_quiet ((refine (iStep _ _ _ _ _).mono ?_; rintro e w' ⟨rfl, rfl⟩; exact ⟨rfl, _, rfl⟩))
      go_wp2_with fail
      go_roundw
      case rel => exact ⟨k + 1, by go_num, by omega, by rw [take_nums zs k (by rw [HN.out]; exact hlt), BB.out, Z.out], _, rfl⟩
      case measure => simp [intOf]; omega
    · have hkn : k = n := by omega
      subst hkn
      have E : Hid (nums (zs.take k) = nums zs) := by show nums (zs.take k) = nums zs; rw [← HN.out, List.take_length]
      go_wp2_with fail
      go_ret
      exact ⟨by rw [E.out]; rfl, below_drewN (BH.out _) q⟩

set_option maxHeartbeats 400000 in
theorem iIsMat (r c : Int) (a : Option Addr) (cap : Nat) (zs : List Int) (w : World) (h : Rd w a zs) (hn : zs.length ≤ 16777216) :
    Calls Try.prog 49 #[.agg #[.int .i64 r, .int .i64 c, .slice a zs.length cap]] w (Gives (.bool (isMat r c zs)) w) := by
  have B0 : ∀ o, Below w.heap.size w (w.alloc o) := fun o => (Below.refl _ _).alloc (Nat.le_refl _) o
  have BH := Lib.hid B0
  have H := Lib.hid h
  clear h B0
  obtain ⟨n, hnn⟩ : ∃ n, zs.length = n := ⟨_, rfl⟩
  have HN := Lib.hid hnn
  have ED : isMat r c zs = (decide (SizeP r) && decide (SizeP c) && decide ((n : Int) = r * c) && nums zs) := by unfold isMat; rw [hnn]
  have E := Lib.hid ED
  rw [hnn] at hn ⊢
  clear hnn ED
  by_cases hr : 0 ≤ r ∧ r ≤ 24
  · by_cases hc : 0 ≤ c ∧ c ≤ 24
    · obtain ⟨m1, m2⟩ := mul_size r c hr hc
      by_cases hl : (n : Int) = r * c
      · have l1 : ((n : Int) != r * c) = false := by simpa using hl
        have l2 : ((n : Int) == r * c) = true := by simpa using hl
        have E2 : Hid (isMat r c zs = nums zs) := by
          show isMat r c zs = nums zs
          rw [E.out, show decide (SizeP r) = true from decide_eq_true hr, show decide (SizeP c) = true from decide_eq_true hc, show decide ((n : Int) = r * c) = true from decide_eq_true hl]; rfl
        have hz : zs.length = 0 ∨ 0 < c := by
          rw [HN.out]
          rcases Nat.eq_zero_or_pos n with e | e
          · exact .inl e
          · right
            rcases Int.lt_or_lt_of_ne (a := c) (b := 0) (fun e0 => by rw [e0, Int.mul_zero] at hl; omega) with h | h <;> omega
        have HZ := Lib.hid hz
        clear hl hz
        obtain ⟨r1, r2⟩ := hr
        obtain ⟨c1, c2⟩ := hc
        go_enter Try.func49, Try.ntmps49
        go_wp2_with (go_at_call 90; refine (iSize_t _ _ (by omega) (by omega)).mono ?_; rintro e w' ⟨rfl, rfl⟩)
        have ST := iFoldB r c a cap zs _ (H.out.below (BH.out (.cells #[.int .i64 r, .int .i64 c, .slice a n cap] 26))) (by rw [HN.out]; exact hn) HZ.out
        rw [HN.out] at ST
        refine ST.mono ?_
        clear ST
        rintro e w' ⟨rfl, hb⟩
        have HB := Lib.hid ((BH.out _).trans (hb.mono (BH.out (.cells #[.int .i64 r, .int .i64 c, .slice a n cap] 26)).size))
        clear hb
        go_wp2_with fail
        go_ret
        exact ⟨by rw [E2.out]; rfl, HB.out⟩
      · have l1 : ((n : Int) != r * c) = true := by simpa using hl
        have l2 : ((n : Int) == r * c) = false := by simpa using hl
        have E2 : Hid (isMat r c zs = false) := by
          show isMat r c zs = false
          rw [E.out, show decide ((n : Int) = r * c) = false from decide_eq_false hl]; simp
        clear hl
        obtain ⟨r1, r2⟩ := hr
        obtain ⟨c1, c2⟩ := hc
        go_enter Try.func49, Try.ntmps49
        go_wp2_with (go_at_call 90; refine (iSize_t _ _ (by omega) (by omega)).mono ?_; rintro e w' ⟨rfl, rfl⟩)
        go_ret
        exact ⟨by rw [E2.out]; rfl, BH.out _⟩
    · have E2 : Hid (isMat r c zs = false) := by
        show isMat r c zs = false
        rw [E.out, show decide (SizeP c) = false from decide_eq_false hc]; simp
      have hc' : c < 0 ∨ 24 < c := by omega
      clear hc
      go_enter Try.func49, Try.ntmps49
      go_wp2_with fail
      refine (iSize_t r _ hr.1 hr.2).mono ?_
      rintro e w' ⟨rfl, rfl⟩
      go_wp2_with fail
      refine (iSize_f c _ hc').mono ?_
      rintro e w' ⟨rfl, rfl⟩
      go_wp2_with fail
      go_ret
      exact ⟨by rw [E2.out]; rfl, BH.out _⟩
  · have E2 : Hid (isMat r c zs = false) := by
      show isMat r c zs = false
      rw [E.out, show decide (SizeP r) = false from decide_eq_false hr]; simp
    have hr' : r < 0 ∨ 24 < r := by omega
    clear hr
    go_enter Try.func49, Try.ntmps49
    go_wp2_with fail
    refine (iSize_f r _ hr').mono ?_
    rintro e w' ⟨rfl, rfl⟩
    go_wp2_with fail
    go_ret
    exact ⟨by rw [E2.out]; rfl, BH.out _⟩
end Go.Proofs.Ytcapddcmnjeloaa
end

section
/-
  Chapter 3, in the program: a row that shares its memory with the matrix.
-/
namespace Go.Proofs.Ytcapddcmnjeloaa
set_option maxRecDepth 100000
open Go.RowKit

/-- The cells of a row. -/
def rwL (c : Nat) (v : Nat → Int) : List Int := (List.range c).map v
theorem rwL_length (c : Nat) (v : Nat → Int) : (rwL c v).length = c := by simp [rwL]
theorem rwL_at {c : Nat} {v : Nat → Int} {j : Nat} (hj : j < c) : (rwL c v).getD j 0 = v j := by simp [rwL, List.getD, hj]
theorem rwL_congr {c : Nat} {u v : Nat → Int} (h : ∀ j, j < c → u j = v j) : rwL c u = rwL c v := List.map_congr_left fun j hj => h j (List.mem_range.mp hj)
/-- What rowIn gives: a slice q' of the room behind cell D of what q begins. -/
def RowAt (q : Option Addr) (D c : Nat) (w : World) (e : Ending) (w' : World) : Prop :=
  ∃ (q' : Option Addr) (m' : Nat), e = .returned (.slice q' c m') ∧ c ≤ m' ∧ (∀ g o : Nat, q = some ⟨g, o, none⟩ → 0 < c → q' = some ⟨g, o + D, none⟩) ∧ (q = none → q' = none) ∧ Below w.heap.size w w'
/-- A row of what is read. -/
theorem Rd.row {w : World} {q q' : Option Addr} {xs : List Int} {r c i : Nat} (h : Rd w q xs) (hx : xs.length = r * c) (hi : i < r) (hq : ∀ g o : Nat, q = some ⟨g, o, none⟩ → 0 < c → q' = some ⟨g, o + i * c, none⟩) : Rd w q' (rwL c (mxC c xs i)) := fun j hj => by
  rw [rwL_length] at hj
  obtain ⟨b, o, ha, hc⟩ := h (i * c + j) (by rw [hx]; exact idx_lt hi hj)
  refine ⟨b, o + i * c, hq b o ha (by omega), ?_⟩
  rw [rwL_at hj, Nat.add_assoc]
  exact hc
set_option maxHeartbeats 1000000 in
theorem iRowIn (r c i D N cap : Nat) (q : Option Addr) (w : World) (hq : Spot q) (hD : i * c = D) (hN : D + c ≤ N) (hc : N ≤ cap) (hn : q = none → cap = 0) (h1 : N ≤ 600) (hi : i ≤ 600) :
    Calls Try.prog 42 #[.agg #[.int .i64 r, .int .i64 c, .slice q N cap], .int .i64 i] w (RowAt q D c w) := by
  have u1 : (i : Int) * (c : Int) = (D : Int) := by rw [← hD]; exact (Int.natCast_mul _ _).symm
  have u2 : ((i : Int) + 1) * (c : Int) = ((D + c : Nat) : Int) := by rw [Int.add_mul, Int.one_mul, u1]; rfl
  have v1 : IntKind.i64.wrap ((i : Int) * (c : Int)) = (D : Int) := by rw [u1]; exact IntWalk.i64_in _ (by omega)
  have v2 : IntKind.i64.wrap ((i : Int) + 1) = (i : Int) + 1 := IntWalk.i64_in _ (by omega)
  have v3 : IntKind.i64.wrap (((i : Int) + 1) * (c : Int)) = ((D + c : Nat) : Int) := by rw [u2]; exact IntWalk.i64_in _ (by omega)
  have Z : Hid (c = 0 → D = 0) := fun h => by rw [← hD, h, Nat.mul_zero]
  have Dm : D + c ≤ cap := by omega
  have K0 : Hid (Blk3 (w.alloc (.cells #[.int .i64 r, .int .i64 c, .slice q N cap] 26)) w.heap.size 26 (.int .i64 r) (.int .i64 c) (.slice q N cap)) := Blk3.at_ _ _ _ _ rfl
  have B : Hid (Below w.heap.size w (w.alloc (.cells #[.int .i64 r, .int .i64 c, .slice q N cap] 26))) := (Below.refl _ _).alloc (Nat.le_refl _) _
  clear hD u1 u2
  rcases hq with rfl | ⟨g, o, rfl⟩
  · obtain rfl : cap = 0 := hn rfl
    obtain rfl : c = 0 := by omega
    obtain rfl : D = 0 := by omega
    obtain rfl : N = 0 := by omega
    go_enter Try.func42, Try.ntmps42
    go_wp2_with fail
    exact bodyPost_ret (v := .slice none 0 0) (by simp [results, Try.results42, go_sem]) rfl ⟨none, 0, rfl, Nat.le_refl _, (fun g o h => by cases h), (fun _ => rfl), B.out⟩
  · rcases Nat.lt_or_ge D cap with hlt | hge
    · go_enter Try.func42, Try.ntmps42
      go_wp2_with fail
      rw [show D + c - D = c by omega]
      exact bodyPost_ret (v := .slice (some ⟨g, o + D, none⟩) c (cap - D)) (by simp [results, Try.results42, go_sem]) rfl ⟨_, _, rfl, by omega, (fun g' o' h _ => by injection h with h; injection h with h1 h2; rw [h1, h2]), (fun h => by cases h), B.out⟩
    · obtain rfl : c = 0 := by omega
      obtain rfl : D = 0 := Z.out rfl
      obtain rfl : cap = 0 := by omega
      obtain rfl : N = 0 := by omega
      go_enter Try.func42, Try.ntmps42
      go_wp2_with fail
      exact bodyPost_ret (v := .slice (some ⟨g, o, none⟩) 0 0) (by simp [results, Try.results42, go_sem]) rfl ⟨_, _, rfl, Nat.le_refl _, (fun g' o' h h0 => by omega), (fun h => by cases h), B.out⟩
end Go.Proofs.Ytcapddcmnjeloaa
end
