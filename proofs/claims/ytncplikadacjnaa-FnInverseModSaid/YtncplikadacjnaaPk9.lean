/-
  Texts of this seat, joined: IvxL · MatNew · IvxS · CpI · IvxI
-/
import Derived.Laws.CopyOwn
import Derived.Test.YtncplikadacjnaaPk1
import Derived.Test.YtncplikadacjnaaPk4
import Derived.Test.YtncplikadacjnaaPk6
import Derived.Test.YtncplikadacjnaaPk7

section
/-
  Plain mathematics of chapter 8: the matrix beside the unit matrix, made cell by cell; what InverseMod gives.
-/
namespace Go.Proofs.Ytncplikadacjnaa

/-- The cell of the wide matrix. -/
def wdF (p : Int) (n : Nat) (xs : List Int) (i j : Nat) : Int := if j < n then (resL p xs).getD (i * n + j) 0 else if j = n + i then 1 else 0
/-- The rows ahead of row i, and the first j cells of that row, are made. -/
def wdTo (p : Int) (n : Nat) (xs : List Int) (i j : Nat) : List Int := tab n (2 * n) fun a b => if a < i ∨ (a = i ∧ b < j) then wdF p n xs a b else 0
theorem wdTo_length (p : Int) (n : Nat) (xs : List Int) (i j : Nat) : (wdTo p n xs i j).length = n * (2 * n) := tab_length _ _ _
theorem wdTo_zero (p : Int) (n : Nat) (xs : List Int) : wdTo p n xs 0 0 = List.replicate (n * (2 * n)) 0 := by
  symm
  refine tab_ext (by simp) fun a b ha hb => ?_
  rw [if_neg (by omega)]
  have := idx_lt (c := 2 * n) ha hb
  simp [List.getD, this]
theorem wdTo_all (p : Int) (n : Nat) (xs : List Int) : wdTo p n xs n 0 = wideL p n xs := by
  refine tab_ext (tab_length _ _ _) fun a b ha hb => ?_
  unfold wdTo
  rw [tab_at n (2 * n) _ ha hb, if_pos (.inl ha)]
  rfl
theorem set_tab {r c i j : Nat} {f g : Nat → Nat → Int} {x : Int} (hi : i < r) (hj : j < c) (hx : g i j = x) (h : ∀ a b, a < r → b < c → ¬ (a = i ∧ b = j) → f a b = g a b) : (tab r c f).set (i * c + j) x = tab r c g := by
  refine tab_ext (by rw [List.length_set, tab_length]) fun a b ha hb => ?_
  by_cases e : a = i ∧ b = j
  · obtain ⟨rfl, rfl⟩ := e
    rw [hx]
    have := idx_lt (c := c) ha hb
    simp [List.getD, tab_length, this]
  · rw [← h a b ha hb e, ← tab_at r c f ha hb]
    have hne : a * c + b ≠ i * c + j := fun h2 => by
      have h3 := congrArg (· / c) h2
      have h4 := congrArg (· % c) h2
      simp only [idx_div hb, idx_div hj, idx_mod hb, idx_mod hj] at h3 h4
      exact e ⟨h3, h4⟩
    simp [List.getD, Ne.symm hne]
theorem wdTo_cell {p : Int} {n : Nat} {xs : List Int} {i j : Nat} (hi : i < n) (hj : j < n) : (wdTo p n xs i j).set (i * (2 * n) + j) ((resL p xs).getD (i * n + j) 0) = wdTo p n xs i (j + 1) := by
  refine set_tab hi (by omega) ?_ fun a b ha hb h => ?_
  · rw [if_pos (by omega)]
    unfold wdF
    rw [if_pos hj]
  · by_cases h1 : a < i ∨ (a = i ∧ b < j)
    · rw [if_pos h1, if_pos (by omega)]
    · rw [if_neg h1, if_neg (by omega)]
theorem wdTo_row {p : Int} {n : Nat} {xs : List Int} {i : Nat} (hi : i < n) : (wdTo p n xs i n).set (i * (2 * n) + (n + i)) 1 = wdTo p n xs (i + 1) 0 := by
  refine set_tab hi (by omega) ?_ fun a b ha hb h => ?_
  · rw [if_pos (by omega)]
    unfold wdF
    rw [if_neg (by omega), if_pos rfl]
  · by_cases h1 : a < i ∨ (a = i ∧ b < n)
    · rw [if_pos h1, if_pos (by omega)]
    · rw [if_neg h1]
      by_cases h2 : a < i + 1 ∨ (a = i + 1 ∧ b < 0)
      · rw [if_pos h2]
        unfold wdF
        rw [if_neg (by omega), if_neg (by omega)]
      · rw [if_neg h2]
/-- The right half, cell by cell. -/
def hfTo (n : Nat) (ys : List Int) (i j : Nat) : List Int := tab n n fun a b => if a < i ∨ (a = i ∧ b < j) then ys.getD (a * (2 * n) + (n + b)) 0 else 0
theorem hfTo_length (n : Nat) (ys : List Int) (i j : Nat) : (hfTo n ys i j).length = n * n := tab_length _ _ _
theorem hfTo_zero (n : Nat) (ys : List Int) : hfTo n ys 0 0 = List.replicate (n * n) 0 := by
  symm
  refine tab_ext (by simp) fun a b ha hb => ?_
  rw [if_neg (by omega)]
  have := idx_lt (c := n) ha hb
  simp [List.getD, this]
theorem hfTo_cell {n : Nat} {ys : List Int} {i j : Nat} (hi : i < n) (hj : j < n) : (hfTo n ys i j).set (i * n + j) (ys.getD (i * (2 * n) + (n + j)) 0) = hfTo n ys i (j + 1) := by
  refine set_tab hi hj ?_ fun a b ha hb h => ?_
  · rw [if_pos (by omega)]
  · by_cases h1 : a < i ∨ (a = i ∧ b < j)
    · rw [if_pos h1, if_pos (by omega)]
    · rw [if_neg h1, if_neg (by omega)]
theorem hfTo_row {n : Nat} {ys : List Int} {i : Nat} : hfTo n ys i n = hfTo n ys (i + 1) 0 := by
  refine tab_ext (hfTo_length _ _ _ _) fun a b ha hb => ?_
  unfold hfTo
  rw [tab_at n n _ ha hb]
  by_cases h1 : a < i ∨ (a = i ∧ b < n)
  · rw [if_pos h1, if_pos (by omega)]
  · rw [if_neg h1, if_neg (by omega)]
theorem hfTo_all (n : Nat) (p : Int) (xs : List Int) : hfTo n (elW p n xs).1 n 0 = ivL p n xs := by
  refine tab_ext (tab_length _ _ _) fun a b ha hb => ?_
  unfold hfTo
  rw [tab_at n n _ ha hb, if_pos (.inl ha)]
theorem clP_len {p : Int} {r c t j : Nat} : ∀ (k i : Nat) (xs : List Int), xs.length = r * c → (clP p r c t j k i xs).length = r * c := by
  intro k
  induction k with
  | zero => intro i xs h; exact h
  | succ k ih =>
    intro i xs h
    by_cases hs : i = t ∨ mxC c xs i j = 0
    · rw [clP_skip hs]; exact ih _ _ h
    · rw [clP_on hs]; exact ih _ _ (rowL_length _ _ _ _ _)
theorem elP_len {p : Int} {r c : Nat} : ∀ (k j : Nat) (xs : List Int) (pv : List Nat) (d : Int), xs.length = r * c → (elP p r c k j xs pv d).1.length = r * c := by
  intro k
  induction k with
  | zero => intro j xs pv d h; exact h
  | succ k ih =>
    intro j xs pv d h
    by_cases ht : pv.length < r
    · by_cases hf : fstR c j xs (r - pv.length) pv.length = r
      · rw [elP_skip ht hf]; exact ih _ _ _ _ h
      · rw [elP_on ht rfl hf]
        exact ih _ _ _ _ (clP_len _ _ _ (rowL_length _ _ _ _ _))
    · rw [elP_end ht]; exact h
theorem elW_len (p : Int) (n : Nat) (xs : List Int) : (elW p n xs).1.length = n * (2 * n) := elP_len _ _ _ _ _ (tab_length _ _ _)
/-- What InverseMod gives. -/
def ivX (r c p : Int) (xs : List Int) : MR := if (isMat r c xs && prmB p && decide (r = c) && decide (r ≤ 12)) = true then (if (elW p r.toNat xs).2.1.length < r.toNat then MR.no else ⟨true, r, r, ivL p r.toNat xs⟩) else MR.no
theorem ivX_no1 {r c p : Int} {xs : List Int} (h : (isMat r c xs && prmB p) = false) : ivX r c p xs = MR.no := by
  unfold ivX; rw [h]; rfl
theorem ivX_no2 {r c p : Int} {xs : List Int} (h : r ≠ c) : ivX r c p xs = MR.no := by
  unfold ivX; rw [decide_eq_false h, Bool.and_false, Bool.false_and]; rfl
theorem ivX_no3 {r c p : Int} {xs : List Int} (h : ¬ r ≤ 12) : ivX r c p xs = MR.no := by
  unfold ivX; rw [decide_eq_false h, Bool.and_false]; rfl
theorem ivX_at {n : Nat} {p : Int} {xs : List Int} (h : (isMat n n xs && prmB p) = true) (hn : n ≤ 12) : ivX n n p xs = if (elW p n xs).2.1.length < n then MR.no else ⟨true, n, n, ivL p n xs⟩ := by
  unfold ivX; rw [h, decide_eq_true rfl, decide_eq_true (by omega)]; rfl
end Go.Proofs.Ytncplikadacjnaa
end

section
/-
  Chapter 3, in the model: a matrix of zeros.
-/
namespace Go.Proofs.Ytncplikadacjnaa
open Go.RowKit

theorem sNew (R C : Nat) (w : World) (hR : R ≤ 4096) (hC : C ≤ 4096) :
    Calls Try.prog 56 #[.int .i64 R, .int .i64 C] w (NewMat R C (List.replicate (R * C) 0) w) := by
  have hm : R * C ≤ 4096 * 4096 := Nat.mul_le_mul hR hC
  have hmk := makeProd R C (by omega)
  have hp1 : (0 : Int) ≤ (R : Int) * (C : Int) := by rw [← Int.natCast_mul]; omega
  have hp2 : (R : Int) * (C : Int) ≤ 16777216 := by rw [← Int.natCast_mul]; omega
  go_enter Try.func56, Try.ntmps56
  go_wp2_with fail
  refine bodyPost_ret (v := .agg #[.int .i64 R, .int .i64 C, .slice (some ⟨w.heap.size + 1, 0, none⟩) (R * C) (R * C)]) (by simp [results, Try.results56, go_sem]) rfl ⟨w.heap.size + 1, by simp, by omega, ?_, ?_⟩
  · exact Ints.made _ (by simp)
  · exact ((Below.refl _ _).alloc (Nat.le_refl _) _).alloc (by simp) _
end Go.Proofs.Ytncplikadacjnaa
end

section
/-
  Chapter 8, in the model: InverseMod.
-/
namespace Go.Proofs.Ytncplikadacjnaa
set_option maxRecDepth 100000
open Go.RowKit

set_option maxHeartbeats 4000000 in
theorem sIvx (r c p : Int) (a : Option Addr) (m : Nat) (xs : List Int) (w : World) (h : Rd w a xs) (hn : xs.length ≤ 16777216) (ha : Spot a) :
    Calls Try.prog 21 #[.agg #[.int .i64 r, .int .i64 c, .slice a xs.length m], .int .i64 p] w (MatRes (ivX r c p xs) w) := by
  have RD : Hid (∀ w', Below w.heap.size w w' → Calls Try.prog 30 #[.agg #[.int .i64 r, .int .i64 c, .slice a xs.length m], .int .i64 p] w' (MatRes (redM r c p xs) w')) := fun w' hb => sRed r c p a m xs w' (h.below hb) hn ha
  have K0 : Hid (Blk3 ((w.alloc (.cells #[.int .i64 r, .int .i64 c, .slice a xs.length m] 26)).alloc (.cells #[.int .i64 0, .int .i64 0, .slice none 0 0] 26)) w.heap.size 26 (.int .i64 r) (.int .i64 c) (.slice a xs.length m)) := (Blk3.at_ _ _ _ _ rfl).old _
  have R0 : Hid (Blk3 ((w.alloc (.cells #[.int .i64 r, .int .i64 c, .slice a xs.length m] 26)).alloc (.cells #[.int .i64 0, .int .i64 0, .slice none 0 0] 26)) (w.heap.size + 1) 26 (.int .i64 0) (.int .i64 0) (.slice none 0 0)) := Blk3.at_ _ _ _ _ (by simp)
  have B0 : Hid (Below w.heap.size w ((w.alloc (.cells #[.int .i64 r, .int .i64 c, .slice a xs.length m] 26)).alloc (.cells #[.int .i64 0, .int .i64 0, .slice none 0 0] 26))) := ((Below.refl _ _).alloc (Nat.le_refl _) _).alloc (by simp) _
  have S0 : Hid (((w.alloc (.cells #[.int .i64 r, .int .i64 c, .slice a xs.length m] 26)).alloc (.cells #[.int .i64 0, .int .i64 0, .slice none 0 0] 26)).heap.size = w.heap.size + 2) := by show _ = _; simp
  rcases Bool.eq_false_or_eq_true (isMat r c xs && prmB p) with hh | hh
  · obtain ⟨R, C, N, rfl, rfl, hN, hR, hC, hx, hl, hp, hcan, e1, -, -⟩ := rkM_yes hh
    have N2 : Hid (R ≠ C → ivX R C p xs = MR.no) := fun h => ivX_no2 (by omega)
    have N3 : Hid (¬ R ≤ 12 → ivX R C p xs = MR.no) := fun h => ivX_no3 (by omega)
    have YY : Hid (R = C → R ≤ 12 → ivX R C p xs = if (elW p R xs).2.1.length < R then MR.no else ⟨true, R, R, hfTo R (elW p R xs).1 R 0⟩) := fun h1 h2 => by
      subst h1
      show _ = _
      rw [ivX_at hh h2, hfTo_all]
    rw [e1] at RD
    have PB := Lib.hid hp
    have HN := Lib.hid hN
    have HC := Lib.hid hcan
    have HX := Lib.hid hx
    have HL := Lib.hid hl
    rw [hx] at RD K0 R0 B0 S0 ⊢
    clear h hn ha hx hN hcan e1 hh hp hl
    generalize ivX R C p xs = RES at N2 N3 YY ⊢
    go_enter Try.func21, Try.ntmps21
    go_upto_region 1 with fail
    generalize (w.alloc (.cells #[.int .i64 R, .int .i64 C, .slice a N m] 26)).alloc (.cells #[.int .i64 0, .int .i64 0, .slice none 0 0] 26) = W0 at K0 R0 B0 S0 ⊢
    obtain ⟨p0, p1, p2, -, -, -⟩ := K0.out.all
    go_wp2_with fail
    refine (RD.out _ B0.out).mono ?_
    rintro e w1 ⟨v, rfl, own, hb⟩
    obtain ⟨q, cap, rfl, -, -⟩ := own.form
    dsimp only
    rw [HL.out]
    replace own := own.le (show w.heap.size ≤ _ by have := S0.out; omega)
    rw [HL.out] at own
    have s0 := S0.out
    have s1 := hb.size
    have Bx := B0.out.trans (hb.mono (by omega))
    have B2 := Lib.hid (Bx.alloc Bx.size (.cells #[.int .i64 R, .int .i64 C, .slice q N cap] 26))
    have Q2 := Lib.hid (own.elim.1.below ((Below.refl _ _).alloc (Nat.le_refl _) (.cells #[.int .i64 R, .int .i64 C, .slice q N cap] 26)))
    have A2 : Hid (Blk3 (w1.alloc (.cells #[.int .i64 R, .int .i64 C, .slice q N cap] 26)) w1.heap.size 26 (.int .i64 R) (.int .i64 C) (.slice q N cap)) := Blk3.at_ _ _ _ _ rfl
    have K2 := Lib.hid ((K0.out.step hb).old (.cells #[.int .i64 R, .int .i64 C, .slice q N cap] 26))
    have R2 := Lib.hid ((R0.out.step hb).old (.cells #[.int .i64 R, .int .i64 C, .slice q N cap] 26))
    have S2 : Hid ((w1.alloc (.cells #[.int .i64 R, .int .i64 C, .slice q N cap] 26)).heap.size = w1.heap.size + 1) := by show _ = _; simp
    clear hb own Bx K0 R0 B0 S0 p0 p1 p2 RD
    go_upto_region 2 with fail
    generalize w1.alloc (.cells #[.int .i64 R, .int .i64 C, .slice q N cap] 26) = W2 at B2 Q2 A2 K2 R2 S2 ⊢
    obtain ⟨b6, hb6⟩ : ∃ b6, w1.heap.size = b6 := ⟨_, rfl⟩
    obtain ⟨rb, hrb⟩ : ∃ rb, w.heap.size + 1 = rb := ⟨_, rfl⟩
    have s2 := S2.out
    rw [hb6] at A2 s2 ⊢
    rw [hrb] at R2 ⊢
    have l0 : w.heap.size ≤ rb := by omega
    have l1 : rb < b6 := by omega
    clear hb6 hrb s0 s1 S2 w1 W0
    obtain ⟨p0, p1, p2, -, -, -⟩ := K2.out.all
    by_cases hRC : R = C
    · have n1 : ((R : Int) != (C : Int)) = false := by simp [hRC]
      by_cases h12 : R ≤ 12
      · have YY := Lib.hid (YY.out hRC h12)
        have u9 : IntKind.i64.wrap (2 * (R : Int)) = 2 * (R : Int) := IntWalk.i64_in _ (by omega)
        obtain ⟨C2, hC2⟩ : ∃ C2, 2 * R = C2 := ⟨_, rfl⟩
        have u8 : IntKind.i64.wrap (2 * (R : Int)) = (C2 : Int) := by rw [u9, ← hC2]; omega
        have n3 : decide ((24 : Int) < (C2 : Int)) = false := decide_eq_false (by omega)
        obtain ⟨N2', hN2⟩ : ∃ N2, R * C2 = N2 := ⟨_, rfl⟩
        have HN2 := Lib.hid hN2
        have HC2 := Lib.hid hC2
        have lN2 : N2' ≤ 288 := by
          rw [← hN2]
          have : R * C2 ≤ 12 * 24 := Nat.mul_le_mul h12 (by omega)
          omega
        have IX : Hid (∀ i b, i < R → b < C2 → ∃ D P : Nat, i * C2 = D ∧ D + b = P ∧ P < N2' ∧ D ≤ 288 ∧ IntKind.i64.wrap ((i : Int) * 2) = (i : Int) * 2 ∧ IntKind.i64.wrap ((i : Int) * 2 * (R : Int)) = (D : Int)) := fun i b hi hb => by
          have h1 : i * C2 + b < R * C2 := idx_lt hi hb
          have h2 : (i : Int) * 2 * (R : Int) = ((i * C2 : Nat) : Int) := by rw [← HC2.out, Int.natCast_mul, Int.natCast_mul, Int.mul_assoc]; rfl
          refine ⟨i * C2, _, rfl, rfl, by omega, by omega, IntWalk.i64_in _ (by omega), ?_⟩
          rw [h2]
          exact IntWalk.i64_in _ (by omega)
        have IY : Hid (∀ i j, i < R → j < R → ∃ P : Nat, i * R + j = P ∧ P < N ∧ IntKind.i64.wrap ((i : Int) * (R : Int)) = (i : Int) * (R : Int) ∧ IntKind.i64.wrap ((i : Int) * (R : Int) + (j : Int)) = (P : Int)) := fun i j hi hj => by
          have h1 : i * R + j < R * R := idx_lt hi hj
          have h3 : R * R ≤ 12 * 12 := Nat.mul_le_mul h12 h12
          have c1 : (i : Int) * (R : Int) = ((i * R : Nat) : Int) := (Int.natCast_mul _ _).symm
          have h4 : N = R * R := by rw [HN.out, ← hRC]
          refine ⟨i * R + j, rfl, by omega, IntWalk.i64_in _ (by rw [c1]; omega), ?_⟩
          rw [show (i : Int) * (R : Int) + (j : Int) = ((i * R + j : Nat) : Int) by rw [c1]; omega]
          exact IntWalk.i64_in _ (by omega)
        have HNN : Hid (N = R * R) := by show _ = _; rw [HN.out, ← hRC]
        clear u9 hC2 hN2 N3 hRC
        go_wp2_with fail
        refine (sNew R C2 _ (by omega) (by have := HC2.out; omega)).mono ?_
        rintro e w3 ⟨g, rfl, hg, hi, hb⟩
        rw [HN2.out] at hi ⊢
        simp only [List.length_replicate]
        have z0 : wdTo p R xs 0 0 = List.replicate N2' 0 := by rw [wdTo_zero, HC2.out, HN2.out]
        rw [← z0] at hi
        have gl := hi.lt
        have lb6 := A2.out.lt
        have Bx := B2.out.trans (hb.mono B2.out.size)
        have B5 := Lib.hid (Bx.alloc Bx.size (.cells #[.int .i64 R, .int .i64 C2, .slice (some ⟨g, 0, none⟩) N2' N2'] 26))
        have R5 := Lib.hid ((R2.out.step hb).old (.cells #[.int .i64 R, .int .i64 C2, .slice (some ⟨g, 0, none⟩) N2' N2'] 26))
        have A5 := Lib.hid ((A2.out.step hb).old (.cells #[.int .i64 R, .int .i64 C2, .slice (some ⟨g, 0, none⟩) N2' N2'] 26))
        have I5 := Lib.hid (hi.old (.cells #[.int .i64 R, .int .i64 C2, .slice (some ⟨g, 0, none⟩) N2' N2'] 26))
        have T5 : Hid (Blk3 (w3.alloc (.cells #[.int .i64 R, .int .i64 C2, .slice (some ⟨g, 0, none⟩) N2' N2'] 26)) w3.heap.size 26 (.int .i64 R) (.int .i64 C2) (.slice (some ⟨g, 0, none⟩) N2' N2')) := Blk3.at_ _ _ _ _ rfl
        have E5 := Lib.hid (hb.alloc hb.size (.cells #[.int .i64 R, .int .i64 C2, .slice (some ⟨g, 0, none⟩) N2' N2'] 26))
        have sb := hb.size
        clear hb hi Bx z0 p0 p1 p2 K2 R2 A2 B2
        go_upto_region 6 with fail
        generalize w3.alloc (.cells #[.int .i64 R, .int .i64 C2, .slice (some ⟨g, 0, none⟩) N2' N2'] 26) = W5 at B5 R5 A5 I5 T5 E5 ⊢
        obtain ⟨b9, hb9⟩ : ∃ b9, w3.heap.size = b9 := ⟨_, rfl⟩
        rw [hb9] at T5 gl sb ⊢
        have lg9 : g < b9 := gl
        have l2 : W2.heap.size ≤ g := hg
        clear gl hg hb9 w3
        go_wp2_with fail
        go_loopw [10, 11] (fun v10 _ wr => ∃ i : Nat, v10 = .int .i64 i ∧ i ≤ R ∧ Ints wr g (wdTo p R xs i 0) ∧ W5.grownBy wr (some g)) (fun v10 _ _ => R - (intOf v10).toNat)
        case atStart => exact ⟨0, rfl, by omega, I5.out, World.grownBy.refl _ _⟩
        case round =>
          clear I5
          obtain ⟨i, rfl, hi, hI, hgr⟩ := hrel
          have I := Lib.hid hI
          have G := Lib.hid hgr
          clear hI hgr
          by_cases hlt : i < R
          · go_wp2_with fail
            go_loopw [11] (fun v11 wr => ∃ j : Nat, v11 = .int .i64 j ∧ j ≤ R ∧ Ints wr g (wdTo p R xs i j) ∧ W5.grownBy wr (some g)) (fun v11 _ => R - (intOf v11).toNat)
            case atStart => exact ⟨0, rfl, by omega, I.out, G.out⟩
            case round =>
              clear I G
              obtain ⟨j, rfl, hj, hI, hgr⟩ := hrel
              have I := Lib.hid hI
              have G := Lib.hid hgr
              clear hI hgr
              have A6 := Lib.hid (A5.out.keepOne G.out (by omega))
              have T6 := Lib.hid (T5.out.keepOne G.out (by omega))
              obtain ⟨p0, p1, p2, -, -, -⟩ := A6.out.all
              obtain ⟨q0, q1, q2, -, -, -⟩ := T6.out.all
              by_cases hjl : j < R
              · obtain ⟨D, P, hD, hP, hPN, hD2, u1, u2⟩ := IX.out i j hlt (by have := HC2.out; omega)
                have u3 : IntKind.i64.wrap ((D : Int) + (j : Int)) = (P : Int) := by rw [show (D : Int) + (j : Int) = (P : Int) by omega]; exact IntWalk.i64_in _ (by omega)
                obtain ⟨S, hS, hSN, u4, u5⟩ := IY.out i j hlt hjl
                obtain ⟨b1, o1, rfl, hc1⟩ := Q2.out S (by rw [HL.out]; exact hSN)
                have c1 := World.block_lt_of_cell? W2 _ hc1
                have hc1 := G.out.cell ((E5.out.cell (p := ⟨b1, o1 + S, none⟩) c1).trans hc1) (by simp; simp at c1; omega)
                have hold := I.out.cell (i := P) (by rw [wdTo_length, HC2.out, HN2.out]; exact hPN)
                have hfr := I.out.free P
                have ST : Hid ((wdTo p R xs i j).set P ((resL p xs).getD S 0) = wdTo p R xs i (j + 1)) := by
                  show _ = _
                  rw [← hP, ← hD, ← HC2.out, ← hS]
                  exact wdTo_cell hlt hjl
                obtain ⟨x, hx⟩ : ∃ x, (resL p xs).getD S 0 = x := ⟨_, rfl⟩
                rw [hx] at hc1 ST
                have IS := Lib.hid (I.out.drew.set P x)
                have GS := Lib.hid (grown_set_one (a := ⟨g, P, none⟩) (grown_drew_one G.out) rfl (.int .i64 x))
                clear hx hS hD hP c1
                have Pa : (0 : Int) ≤ (P : Int) := by omega
                have Pb : (P : Int) < (N2' : Int) := by omega
                have Sa : (0 : Int) ≤ (S : Int) := by omega
                have Sb : (S : Int) < (N : Int) := by omega
                go_wp2_with fail
                go_still_tail 18, (by kernel_rfl)
                go_wp2_with fail
                go_roundw
                case rel => exact ⟨j + 1, by go_num, by omega, by rw [← ST.out]; exact IS.out, GS.out⟩
                case measure => simp [intOf]; omega
              · obtain rfl : R = j := by omega
                obtain ⟨D, P, hD, hP, hPN, hD2, u1, u2⟩ := IX.out i (R + i) hlt (by have := HC2.out; omega)
                obtain ⟨F, hF⟩ : ∃ F, D + R = F := ⟨_, rfl⟩
                have u3 : IntKind.i64.wrap ((D : Int) + (R : Int)) = (F : Int) := by rw [show (D : Int) + (R : Int) = (F : Int) by omega]; exact IntWalk.i64_in _ (by omega)
                have u4 : IntKind.i64.wrap ((F : Int) + (i : Int)) = (P : Int) := by rw [show (F : Int) + (i : Int) = (P : Int) by omega]; exact IntWalk.i64_in _ (by omega)
                have hold := I.out.cell (i := P) (by rw [wdTo_length, HC2.out, HN2.out]; exact hPN)
                have hfr := I.out.free P
                have ST : Hid ((wdTo p R xs i R).set P 1 = wdTo p R xs (i + 1) 0) := by
                  show _ = _
                  rw [← hP, ← hD, ← HC2.out]
                  exact wdTo_row hlt
                have IS := Lib.hid (I.out.set P 1)
                have GS := Lib.hid (grown_set_one (a := ⟨g, P, none⟩) G.out rfl (.int .i64 1))
                clear hD hP hF hjl
                have Pa : (0 : Int) ≤ (P : Int) := by omega
                have Pb : (P : Int) < (N2' : Int) := by omega
                go_wp2_with fail
                go_roundw
                case rel => exact ⟨i + 1, by go_num, by omega, by rw [← ST.out]; exact IS.out, GS.out⟩
                case measure => simp [intOf]; omega
          · obtain rfl : R = i := by omega
            have T6 := Lib.hid (T5.out.keepOne G.out (by omega))
            have R6 := Lib.hid (R5.out.keepOne G.out (by omega))
            have B6 := Lib.hid (B5.out.trans (below_of_one G.out (by have := B5.out.size; omega) B5.out.size))
            have EL : Hid (∀ (cap : Nat) (w' : World), Ints w' g (wdTo p R xs R 0) → Calls Try.prog 45 #[.agg #[.int .i64 R, .int .i64 C2, .slice (some ⟨g, 0, none⟩) N2' cap], .int .i64 p, .int .i64 R] w' (ElP w' R C2 (elW p R xs))) := fun cap w' hi' => by
              rw [wdTo_all] at hi'
              have := sEl R C2 R N2' p (some ⟨g, 0, none⟩) cap (wideL p R xs) w' hi'.rd (.inr ⟨g, 0, rfl⟩) (by unfold wideL; rw [tab_length, HC2.out, HN2.out]) HN2.out.symm (by omega) (by have := HC2.out; omega) (by have := HC2.out; omega) PB.out (wideL_can (prmB_says PB.out).1 (by rw [HX.out, HNN.out]))
              unfold elW
              rw [← HC2.out] at this ⊢
              exact this
            obtain ⟨EW, hEW⟩ : ∃ EW, elW p R xs = EW := ⟨_, rfl⟩
            have LE : EW.1.length = N2' := by
              rw [← hEW]
              have := elW_len p R xs
              rw [HC2.out, HN2.out] at this
              exact this
            rw [hEW] at EL YY
            clear hEW
            obtain ⟨q0, q1, q2, -, -, -⟩ := T6.out.all
            go_wp2_with fail
            refine (EL.out _ _ I.out).mono ?_
            rintro e w7 ⟨va, vb, rfl, oa, ob, -, hb⟩
            obtain ⟨qa, ca, rfl, hra, -⟩ := oa.form
            obtain ⟨qb, cb, rfl, -, -⟩ := ob.form
            rw [pvI_length]
            rw [LE]
            have B7x := B6.out.trans (hb.mono B6.out.size)
            have B7 := Lib.hid (B7x.alloc B7x.size (.cells #[.int .i64 R, .int .i64 C2, .slice qa N2' ca] 26))
            have R7 := Lib.hid ((R6.out.step hb).old (.cells #[.int .i64 R, .int .i64 C2, .slice qa N2' ca] 26))
            have Q7 := Lib.hid (hra.below ((Below.refl _ _).alloc (Nat.le_refl _) (.cells #[.int .i64 R, .int .i64 C2, .slice qa N2' ca] 26)))
            have A7 : Hid (Blk3 (w7.alloc (.cells #[.int .i64 R, .int .i64 C2, .slice qa N2' ca] 26)) w7.heap.size 26 (.int .i64 R) (.int .i64 C2) (.slice qa N2' ca)) := Blk3.at_ _ _ _ _ rfl
            have s7 := R6.out.lt
            have s8 := hb.size
            have IXX := IX
            clear hb oa ob hra B7x q0 q1 q2 R6 T6 B6 I G EL IX
            go_upto_region 15 with fail
            generalize w7.alloc (.cells #[.int .i64 R, .int .i64 C2, .slice qa N2' ca] 26) = W7 at B7 R7 Q7 A7 ⊢
            obtain ⟨b12, hb12⟩ : ∃ b12, w7.heap.size = b12 := ⟨_, rfl⟩
            rw [hb12] at A7 ⊢
            have l3 : rb < b12 := by omega
            clear hb12 s7 s8 w7
            by_cases hlt2 : EW.2.1.length < R
            · have RX : Hid (RES = MR.no) := by show _ = _; rw [YY.out, if_pos hlt2]
              obtain ⟨r0, r1, r2, f0, f1, f2⟩ := R7.out.all
              go_wp2_with fail
              obtain ⟨E0, E1, E2, -, -, -⟩ := (((R7.out.set0 (.int .i64 0)).set1 (.int .i64 0)).set2 (.slice none 0 0)).all
              rw [RX.out]
              exact bodyPost_ret (v := .tuple #[.agg #[.int .i64 0, .int .i64 0, .slice none 0 0], .bool false]) (by simp [results, Try.results21, go_sem, E0, E1, E2]) rfl ⟨_, rfl, .inl ⟨rfl, rfl⟩, ((B7.out.setCell l0 _).setCell l0 _).setCell l0 _⟩
            · have RX : Hid (RES = ⟨true, R, R, hfTo R EW.1 R 0⟩) := by show _ = _; rw [YY.out, if_neg hlt2]
              go_wp2_with fail
              refine (sNew R R _ (by omega) (by omega)).mono ?_
              rintro e w8 ⟨g2, rfl, hg2, hi2, hb2⟩
              rw [← HNN.out] at hi2 ⊢
              simp only [List.length_replicate]
              have z0 : hfTo R EW.1 0 0 = List.replicate N 0 := by rw [hfTo_zero, HNN.out]
              rw [← z0] at hi2
              have gl := hi2.lt
              have Bx := B7.out.trans (hb2.mono B7.out.size)
              have B8 := Lib.hid (Bx.alloc Bx.size (.cells #[.int .i64 R, .int .i64 R, .slice (some ⟨g2, 0, none⟩) N N] 26))
              have R8 := Lib.hid ((R7.out.step hb2).old (.cells #[.int .i64 R, .int .i64 R, .slice (some ⟨g2, 0, none⟩) N N] 26))
              have A8 := Lib.hid ((A7.out.step hb2).old (.cells #[.int .i64 R, .int .i64 R, .slice (some ⟨g2, 0, none⟩) N N] 26))
              have I8 := Lib.hid (hi2.old (.cells #[.int .i64 R, .int .i64 R, .slice (some ⟨g2, 0, none⟩) N N] 26))
              have T8 : Hid (Blk3 (w8.alloc (.cells #[.int .i64 R, .int .i64 R, .slice (some ⟨g2, 0, none⟩) N N] 26)) w8.heap.size 26 (.int .i64 R) (.int .i64 R) (.slice (some ⟨g2, 0, none⟩) N N)) := Blk3.at_ _ _ _ _ rfl
              have E8 := Lib.hid (hb2.alloc hb2.size (.cells #[.int .i64 R, .int .i64 R, .slice (some ⟨g2, 0, none⟩) N N] 26))
              have sb := hb2.size
              have la7 := A7.out.lt
              have lr7 := R7.out.lt
              have lw7 := B7.out.size
              clear hb2 hi2 Bx z0 R7 A7 B7
              go_upto_region 18 with fail
              generalize w8.alloc (.cells #[.int .i64 R, .int .i64 R, .slice (some ⟨g2, 0, none⟩) N N] 26) = W8 at B8 R8 A8 I8 T8 E8 ⊢
              obtain ⟨b15, hb15⟩ : ∃ b15, w8.heap.size = b15 := ⟨_, rfl⟩
              rw [hb15] at T8 gl sb ⊢
              have lg15 : g2 < b15 := gl
              have l4 : W7.heap.size ≤ g2 := hg2
              have l5 : w.heap.size ≤ g2 := by omega
              clear gl hg2 hb15 w8 hlt2
              go_wp2_with fail
              go_loopw [16, 17] (fun v16 _ wr => ∃ i : Nat, v16 = .int .i64 i ∧ i ≤ R ∧ Ints wr g2 (hfTo R EW.1 i 0) ∧ W8.grownBy wr (some g2)) (fun v16 _ _ => R - (intOf v16).toNat)
              case atStart => exact ⟨0, rfl, by omega, I8.out, World.grownBy.refl _ _⟩
              case round =>
                clear I8
                obtain ⟨i, rfl, hi, hI, hgr⟩ := hrel
                have I := Lib.hid hI
                have G := Lib.hid hgr
                clear hI hgr
                by_cases hlt : i < R
                · go_wp2_with fail
                  go_loopw [17] (fun v17 wr => ∃ j : Nat, v17 = .int .i64 j ∧ j ≤ R ∧ Ints wr g2 (hfTo R EW.1 i j) ∧ W8.grownBy wr (some g2)) (fun v17 _ => R - (intOf v17).toNat)
                  case atStart => exact ⟨0, rfl, by omega, I.out, G.out⟩
                  case round =>
                    clear I G
                    obtain ⟨j, rfl, hj, hI, hgr⟩ := hrel
                    have I := Lib.hid hI
                    have G := Lib.hid hgr
                    clear hI hgr
                    have A9 := Lib.hid (A8.out.keepOne G.out (by omega))
                    have T9 := Lib.hid (T8.out.keepOne G.out (by omega))
                    obtain ⟨p0, p1, p2, -, -, -⟩ := A9.out.all
                    obtain ⟨q0, q1, q2, -, -, -⟩ := T9.out.all
                    by_cases hjl : j < R
                    · obtain ⟨D, P, hD, hP, hPN, hD2, u1, u2⟩ := IXX.out i (R + j) hlt (by have := HC2.out; omega)
                      obtain ⟨F, hF⟩ : ∃ F, D + R = F := ⟨_, rfl⟩
                      have u3 : IntKind.i64.wrap ((D : Int) + (R : Int)) = (F : Int) := by rw [show (D : Int) + (R : Int) = (F : Int) by omega]; exact IntWalk.i64_in _ (by omega)
                      have u6 : IntKind.i64.wrap ((F : Int) + (j : Int)) = (P : Int) := by rw [show (F : Int) + (j : Int) = (P : Int) by omega]; exact IntWalk.i64_in _ (by omega)
                      obtain ⟨S, hS, hSN, u4, u5⟩ := IY.out i j hlt hjl
                      obtain ⟨b1, o1, rfl, hc1⟩ := Q7.out P (by rw [LE]; exact hPN)
                      have c1 := World.block_lt_of_cell? W7 _ hc1
                      have hc1 := G.out.cell ((E8.out.cell (p := ⟨b1, o1 + P, none⟩) c1).trans hc1) (by simp; simp at c1; omega)
                      have hold := I.out.cell (i := S) (by rw [hfTo_length, ← HNN.out]; exact hSN)
                      have hfr := I.out.free S
                      have ST : Hid ((hfTo R EW.1 i j).set S (EW.1.getD P 0) = hfTo R EW.1 i (j + 1)) := by
                        show _ = _
                        rw [← hP, ← hD, ← HC2.out, ← hS]
                        exact hfTo_cell hlt hjl
                      obtain ⟨x, hx⟩ : ∃ x, EW.1.getD P 0 = x := ⟨_, rfl⟩
                      rw [hx] at hc1 ST
                      have IS := Lib.hid (I.out.drew.set S x)
                      have GS := Lib.hid (grown_set_one (a := ⟨g2, S, none⟩) (grown_drew_one G.out) rfl (.int .i64 x))
                      clear hx hS hD hP c1 hF
                      have Pa : (0 : Int) ≤ (P : Int) := by omega
                      have Pb : (P : Int) < (N2' : Int) := by omega
                      have Sa : (0 : Int) ≤ (S : Int) := by omega
                      have Sb : (S : Int) < (N : Int) := by omega
                      go_wp2_with fail
                      go_still_tail 20, (by kernel_rfl)
                      go_wp2_with fail
                      go_roundw
                      case rel => exact ⟨j + 1, by go_num, by omega, by rw [← ST.out]; exact IS.out, GS.out⟩
                      case measure => simp [intOf]; omega
                    · obtain rfl : R = j := by omega
                      have RW : Hid (hfTo R EW.1 i R = hfTo R EW.1 (i + 1) 0) := hfTo_row
                      rw [RW.out] at I
                      clear hjl
                      go_wp2_with fail
                      go_roundw
                      case rel => exact ⟨i + 1, by go_num, by omega, I.out, G.out⟩
                      case measure => simp [intOf]; omega
                · obtain rfl : R = i := by omega
                  have T9 := Lib.hid (T8.out.keepOne G.out (by omega))
                  have R9 := Lib.hid (R8.out.keepOne G.out (by omega))
                  have B9 := Lib.hid (B8.out.trans (below_of_one G.out l5 B8.out.size))
                  obtain ⟨q0, q1, q2, -, -, -⟩ := T9.out.all
                  obtain ⟨r0, r1, r2, f0, f1, f2⟩ := R9.out.all
                  have LN : (hfTo R EW.1 R 0).length = N := by rw [hfTo_length, HNN.out]
                  have lN : N ≤ 144 := by rw [HNN.out]; exact Nat.mul_le_mul h12 h12
                  go_wp2_with fail
                  obtain ⟨E0, E1, E2, -, -, -⟩ := (((R9.out.set0 (.int .i64 R)).set1 (.int .i64 R)).set2 (.slice (some ⟨g2, 0, none⟩) N N)).all
                  rw [RX.out]
                  refine bodyPost_ret (v := .tuple #[.agg #[.int .i64 R, .int .i64 R, .slice (some ⟨g2, 0, none⟩) N N], .bool true]) (by simp [results, Try.results21, go_sem, E0, E1, E2]) rfl ⟨_, rfl, .inr ⟨g2, N, by rw [LN], l5, ?_, by rw [LN]; exact Nat.le_refl _, by rw [LN]; omega⟩, ((B9.out.setCell l0 _).setCell l0 _).setCell l0 _⟩
                  exact ((I.out.far (a := ⟨rb, 0, none⟩) (by show g2 ≠ rb; omega) _).far (a := ⟨rb, 1, none⟩) (by show g2 ≠ rb; omega) _).far (a := ⟨rb, 2, none⟩) (by show g2 ≠ rb; omega) _
      · have RX := Lib.hid (N3.out h12)
        have n2 : decide ((24 : Int) < 2 * (R : Int)) = true := decide_eq_true (by omega)
        have u9 : IntKind.i64.wrap (2 * (R : Int)) = 2 * (R : Int) := IntWalk.i64_in _ (by omega)
        obtain ⟨r0, r1, r2, f0, f1, f2⟩ := R2.out.all
        go_wp2_with fail
        obtain ⟨E0, E1, E2, -, -, -⟩ := (((R2.out.set0 (.int .i64 0)).set1 (.int .i64 0)).set2 (.slice none 0 0)).all
        rw [RX.out]
        exact bodyPost_ret (v := .tuple #[.agg #[.int .i64 0, .int .i64 0, .slice none 0 0], .bool false]) (by simp [results, Try.results21, go_sem, E0, E1, E2]) rfl ⟨_, rfl, .inl ⟨rfl, rfl⟩, ((B2.out.setCell l0 _).setCell l0 _).setCell l0 _⟩
    · have n1 : ((R : Int) != (C : Int)) = true := by simp; omega
      have RX := Lib.hid (N2.out hRC)
      obtain ⟨r0, r1, r2, f0, f1, f2⟩ := R2.out.all
      go_wp2_with fail
      obtain ⟨E0, E1, E2, -, -, -⟩ := (((R2.out.set0 (.int .i64 0)).set1 (.int .i64 0)).set2 (.slice none 0 0)).all
      rw [RX.out]
      exact bodyPost_ret (v := .tuple #[.agg #[.int .i64 0, .int .i64 0, .slice none 0 0], .bool false]) (by simp [results, Try.results21, go_sem, E0, E1, E2]) rfl ⟨_, rfl, .inl ⟨rfl, rfl⟩, ((B2.out.setCell l0 _).setCell l0 _).setCell l0 _⟩
  · have RX : Hid (ivX r c p xs = MR.no) := ivX_no1 hh
    rw [(rkM_no hh).2.1] at RD
    obtain ⟨L, hL⟩ : ∃ L, xs.length = L := ⟨_, rfl⟩
    rw [hL] at RD K0 R0 B0 S0 ⊢
    clear h hn ha hh hL K0
    go_enter Try.func21, Try.ntmps21
    go_upto_region 1 with fail
    have B0' := B0.out
    go_wp2_with fail
    refine (RD.out _ B0.out).mono ?_
    rintro e w1 ⟨v, rfl, own, hb⟩
    obtain ⟨q, cap, rfl, -, -⟩ := own.form
    have s0 := S0.out
    have s1 := hb.size
    have Bx := B0.out.trans (hb.mono (by omega))
    have B2 := Lib.hid (Bx.alloc Bx.size (.cells #[.int .i64 MR.no.r, .int .i64 MR.no.c, .slice q MR.no.zs.length cap] 26))
    have R2 := Lib.hid ((R0.out.step hb).old (.cells #[.int .i64 MR.no.r, .int .i64 MR.no.c, .slice q MR.no.zs.length cap] 26))
    have l0 : w.heap.size ≤ w.heap.size + 1 := Nat.le_succ _
    clear hb own Bx B0' B0 R0
    have ok : MR.no.ok = false := rfl
    rw [ok]
    obtain ⟨r0, r1, r2, f0, f1, f2⟩ := R2.out.all
    go_wp2_with fail
    obtain ⟨E0, E1, E2, -, -, -⟩ := (((R2.out.set0 (.int .i64 0)).set1 (.int .i64 0)).set2 (.slice none 0 0)).all
    rw [RX.out]
    exact bodyPost_ret (v := .tuple #[.agg #[.int .i64 0, .int .i64 0, .slice none 0 0], .bool false]) (by simp [results, Try.results21, go_sem, E0, E1, E2]) rfl ⟨_, rfl, .inl ⟨rfl, rfl⟩, ((B2.out.setCell l0 _).setCell l0 _).setCell l0 _⟩
end Go.Proofs.Ytncplikadacjnaa
end

section
/-
  The builtin copy over ints in memory; rows laid over rows. No function of the program is named.
-/
namespace Go.Proofs.Ytncplikadacjnaa
set_option maxRecDepth 100000
open Go.RowKit

theorem getD_three {A B C : List Int} {s m k : Nat} (ha : A.length = s) (hb : B.length = m) : (A ++ B ++ C).getD k 0 = if k < s then A.getD k 0 else if k < s + m then B.getD (k - s) 0 else C.getD (k - s - m) 0 := by
  subst ha hb
  simp only [List.getD, List.getElem?_append, List.length_append]
  by_cases h1 : k < A.length
  · rw [if_pos h1, if_pos (by omega), if_pos h1]
  · rw [if_neg h1]
    by_cases h2 : k < A.length + B.length
    · rw [if_pos h2, if_pos h2, if_neg h1]
    · rw [if_neg h2, if_neg h2, if_neg h1]; try rw [Nat.sub_add_eq]
/-- A row laid over a part of row i of a table. -/
theorem splice_tab {r c i o m : Nat} {f g : Nat → Nat → Int} {ys : List Int} (hi : i < r) (ho : o + m ≤ c) (hy : ys.length = m) (h1 : ∀ b, o ≤ b → b < o + m → g i b = ys.getD (b - o) 0) (h2 : ∀ a b, a < r → b < c → ¬ (a = i ∧ o ≤ b ∧ b < o + m) → g a b = f a b) :
    (tab r c f).take (i * c + o) ++ ys ++ (tab r c f).drop (i * c + o + m) = tab r c g := by
  have hic : i * c + c ≤ r * c := by rw [← Nat.succ_mul]; exact Nat.mul_le_mul_right _ hi
  have lt : ((tab r c f).take (i * c + o)).length = i * c + o := by rw [List.length_take, tab_length]; omega
  refine tab_ext (by rw [List.length_append, List.length_append, lt, hy, List.length_drop, tab_length]; omega) fun a b ha hb => ?_
  rw [getD_three lt hy]
  have hk := idx_lt (r := r) ha hb
  by_cases e : a = i
  · subst e
    by_cases hb1 : b < o
    · rw [if_pos (by omega), h2 a b ha hb (by omega), ← tab_at r c f ha hb]
      simp only [List.getD]
      rw [List.getElem?_take, if_pos (by omega)]
    · by_cases hb2 : b < o + m
      · rw [if_neg (by omega), if_pos (by omega), h1 b (by omega) hb2]
        congr 1; omega
      · rw [if_neg (by omega), if_neg (by omega), h2 a b ha hb (by omega), ← tab_at r c f ha hb]
        simp only [List.getD]
        rw [List.getElem?_drop]
        congr 2; omega
  · rw [h2 a b ha hb (by omega), ← tab_at r c f ha hb]
    rcases Nat.lt_or_ge a i with h3 | h3
    · have : a * c + c ≤ i * c := by rw [← Nat.succ_mul]; exact Nat.mul_le_mul_right _ h3
      rw [if_pos (by omega)]
      simp only [List.getD]
      rw [List.getElem?_take, if_pos (by omega)]
    · have : i * c + c ≤ a * c := by rw [← Nat.succ_mul]; exact Nat.mul_le_mul_right _ (by omega)
      rw [if_neg (by omega), if_neg (by omega)]
      simp only [List.getD]
      rw [List.getElem?_drop]
      congr 2; omega
theorem wdTo_lay {p : Int} {n : Nat} {xs ys : List Int} {i : Nat} (hi : i < n) (hy : ys.length = n) (h : ∀ b, b < n → ys.getD b 0 = (resL p xs).getD (i * n + b) 0) : (wdTo p n xs i 0).take (i * (2 * n)) ++ ys ++ (wdTo p n xs i 0).drop (i * (2 * n) + n) = wdTo p n xs i n := by
  refine splice_tab (o := 0) hi (by omega) hy (fun b _ hb => ?_) fun a b ha hb hn => ?_
  · rw [if_pos (by omega), h (b - 0) (by omega)]
    unfold wdF
    rw [if_pos (by omega)]; rfl
  · by_cases h1 : a < i ∨ (a = i ∧ b < 0)
    · rw [if_pos h1, if_pos (by omega)]
    · rw [if_neg h1, if_neg (by omega)]
theorem hfTo_lay {n : Nat} {zs ys : List Int} {i : Nat} (hi : i < n) (hy : ys.length = n) (h : ∀ b, b < n → ys.getD b 0 = zs.getD (i * (2 * n) + (n + b)) 0) : (hfTo n zs i 0).take (i * n) ++ ys ++ (hfTo n zs i 0).drop (i * n + n) = hfTo n zs (i + 1) 0 := by
  refine splice_tab (o := 0) hi (by omega) hy (fun b _ hb => ?_) fun a b ha hb hn => ?_
  · rw [if_pos (by omega), h (b - 0) (by omega)]; rfl
  · by_cases h1 : a < i ∨ (a = i ∧ b < 0)
    · rw [if_pos h1, if_pos (by omega)]
    · rw [if_neg h1, if_neg (by omega)]
/-- copy of ints that are read onto ints of a known block. -/
theorem copyInts (w : World) (g off dLen dCap m sCap : Nat) (sp : Option Addr) (zs ys : List Int) (hi : Ints w g zs) (h : Rd w sp ys) (hy : ys.length = m) (hm : 0 < m) (hd : m ≤ dLen) (hfit : off + m ≤ zs.length) (ty : TypeId) :
    ∃ w', (Builtin.copy_ #[24, 24] ty #[.slice (some ⟨g, off, none⟩) dLen dCap, .slice sp m sCap]).run Try.prog w = .ok (goInt m) w' ∧ Ints w' g (zs.take off ++ ys ++ zs.drop (off + m)) ∧ w.grownBy w' (some g) := by
  obtain ⟨gs, os, rfl⟩ := h.addr (by omega)
  obtain ⟨rest, hg⟩ := hi
  obtain ⟨fi, hfi, hz0, hz1, hz2⟩ := facts_int
  have hsz : (Try.prog.info? 3).map (·.size) = some 1 := by rw [hfi]; simp [hz1]
  have hl : (ys.map (Value.int .i64)).length = m := by rw [List.length_map, hy]
  have news : ∀ (j : Nat) v, (ys.map (Value.int .i64))[j]? = some v → w.cell? ((⟨gs, os, none⟩ : Addr).add j) = some v := by
    intro j u hu
    rw [List.getElem?_map] at hu
    obtain ⟨z, hz, rfl⟩ := Option.map_eq_some_iff.mp hu
    obtain ⟨h1, h2⟩ := List.getElem?_eq_some_iff.mp hz
    obtain ⟨b', o', e, hc⟩ := h j h1
    injection e with e
    injection e with e1 e2
    subst e1 e2
    rw [show (⟨gs, os, none⟩ : Addr).add j = ⟨gs, os + j, none⟩ by simp only [Addr.add]; split <;> simp_all, hc]
    simp [List.getD, hz]
  have hrun := run_copy_row (P := Try.prog) w 24 24 ty 3 g off dLen dCap ⟨gs, os, none⟩ m sCap _ 3 (ys.map (Value.int .i64)) Try.underlying24 hsz hg (by rw [hl]; show m = min m dLen; omega) news (by rw [hl]; simp; omega) (fun v hv => by
    obtain ⟨z, -, rfl⟩ := List.mem_map.mp hv
    rfl)
  rw [hl] at hrun
  refine ⟨_, hrun, ⟨rest, ?_⟩, ⟨rfl, rfl, rfl, by simp [World.setRow], fun k hk hne => setRow_other w g k _ (fun e => hne (by rw [e]))⟩⟩
  rw [setRow_heap w g _ _ 3 _ hg]
  congr 2
  simp only [List.map_append, List.map_take, List.map_drop, List.append_assoc]
  rw [List.take_append_of_le_length (by rw [List.length_map]; omega), List.drop_append_of_le_length (by rw [List.length_map]; omega)]
theorem step_copy {P : Program} {ops : Array Oper} {o : Oper} {a : Act} {w : World} {K : Act → World → Prop} {Q : Exit → Act → World → Prop} {E : Prop}
    (hg : o.guard = none) (s x : Operand) (t : TypeId) (hop : o.op = Op.call { callee := Callee.builtin Builtin.copy, args := #[s, x], argTypes := #[t, t] }) (v1 v2 : Value) (hs : a.eval s = v1) (hx : a.eval x = v2) (v' : Value) (w' : World)
    (hr : (Builtin.copy_ #[t, t] o.type #[v1, v2]).run P w = .ok v' w') (hK : K (a.put o.dst v') w') : if Region.wanted o (yielded ops a.tmps) = true then Oper.wp P o a w K Q else E := by
  have hw : Region.wanted o (yielded ops a.tmps) = true := by simp [Region.wanted, hg]
  rw [if_pos hw]
  unfold Oper.wp
  simp [execOp, hop, resolve, invoke, builtin, hs, hx, hr, Result.andThen]
  exact hK
theorem wpList_copyR {P : Program} {w : World} {ops : Array Oper} {rest : List Oper} {o : Oper} {a : Act} {Q : Exit → Act → World → Prop} (hgd : o.guard = none) (d s : Operand) (t : TypeId)
    (ho : o.op = .call { callee := .builtin .copy, args := #[d, s], argTypes := #[t, t] }) (v1 v2 : Value) (hd : a.eval d = v1) (hs : a.eval s = v2) (v' : Value) (w' : World) (hr : (Builtin.copy_ #[t, t] o.type #[v1, v2]).run P w = .ok v' w')
    (h : wpList P ops Q rest (a.put o.dst v') w') : wpList P ops Q (o :: rest) a w := by
  refine wpList_plain hgd fun K hK => ?_
  unfold Oper.wp
  simp [execOp, ho, resolve, invoke, builtin, hd, hs, hr, Result.andThen]
  exact hK _ _ h
end Go.Proofs.Ytncplikadacjnaa
end

section
/-
  Chapter 8, in the program: InverseMod.
-/
namespace Go.Proofs.Ytncplikadacjnaa
set_option maxRecDepth 100000
open Go.RowKit

theorem Ints.rdAt {w : World} {g R D : Nat} {zs : List Int} (h : Ints w g zs) (hl : D + R + R ≤ zs.length) : Rd w (some ⟨g, D + R, none⟩) (rwL R fun b => zs.getD (D + (R + b)) 0) := fun j hj => by
  rw [rwL_length] at hj
  refine ⟨g, D + R, rfl, ?_⟩
  rw [rwL_at hj, ← Nat.add_assoc]
  exact h.cell (by omega)
theorem Own.celQ {B N cap : Nat} {w : World} {q : Option Addr} {zs : List Int} (h : Own B w (.slice q N cap) zs) : ∃ _ : Nat, N ≤ cap ∧ (q = none → cap = 0) := by
  rcases h with ⟨hv, rfl⟩ | ⟨g, c', hv, hB, hi, hl, _⟩
  · injection hv with e1 e2 e3
    exact ⟨0, by omega, fun _ => e3⟩
  · injection hv with e1 e2 e3
    exact ⟨0, by omega, fun h => by rw [e1] at h; cases h⟩
set_option maxHeartbeats 4000000 in
theorem iIvx (r c p : Int) (a : Option Addr) (m : Nat) (xs : List Int) (w : World) (h : Rd w a xs) (hn : xs.length ≤ 16777216) :
    Calls Try.prog 20 #[.agg #[.int .i64 r, .int .i64 c, .slice a xs.length m], .int .i64 p] w (MatRes (ivX r c p xs) w) := by
  have RD : Hid (∀ w', Below w.heap.size w w' → Calls Try.prog 23 #[.agg #[.int .i64 r, .int .i64 c, .slice a xs.length m], .int .i64 p] w' (MatRes (redM r c p xs) w')) := fun w' hb => iRed r c p a m xs w' (h.below hb) hn
  have K0 : Hid (Blk3 ((w.alloc (.cells #[.int .i64 r, .int .i64 c, .slice a xs.length m] 26)).alloc (.cells #[.int .i64 0, .int .i64 0, .slice none 0 0] 26)) w.heap.size 26 (.int .i64 r) (.int .i64 c) (.slice a xs.length m)) := (Blk3.at_ _ _ _ _ rfl).old _
  have R0 : Hid (Blk3 ((w.alloc (.cells #[.int .i64 r, .int .i64 c, .slice a xs.length m] 26)).alloc (.cells #[.int .i64 0, .int .i64 0, .slice none 0 0] 26)) (w.heap.size + 1) 26 (.int .i64 0) (.int .i64 0) (.slice none 0 0)) := Blk3.at_ _ _ _ _ (by simp)
  have B0 : Hid (Below w.heap.size w ((w.alloc (.cells #[.int .i64 r, .int .i64 c, .slice a xs.length m] 26)).alloc (.cells #[.int .i64 0, .int .i64 0, .slice none 0 0] 26))) := ((Below.refl _ _).alloc (Nat.le_refl _) _).alloc (by simp) _
  have S0 : Hid (((w.alloc (.cells #[.int .i64 r, .int .i64 c, .slice a xs.length m] 26)).alloc (.cells #[.int .i64 0, .int .i64 0, .slice none 0 0] 26)).heap.size = w.heap.size + 2) := by show _ = _; simp
  rcases Bool.eq_false_or_eq_true (isMat r c xs && prmB p) with hh | hh
  · obtain ⟨R, C, N, rfl, rfl, hN, hR, hC, hx, hl, hp, hcan, e1, -, -⟩ := rkM_yes hh
    have N2 : Hid (R ≠ C → ivX R C p xs = MR.no) := fun h => ivX_no2 (by omega)
    have N3 : Hid (¬ R ≤ 12 → ivX R C p xs = MR.no) := fun h => ivX_no3 (by omega)
    have YY : Hid (R = C → R ≤ 12 → ivX R C p xs = if (elW p R xs).2.1.length < R then MR.no else ⟨true, R, R, hfTo R (elW p R xs).1 R 0⟩) := fun h1 h2 => by
      subst h1
      show _ = _
      rw [ivX_at hh h2, hfTo_all]
    rw [e1] at RD
    have PB := Lib.hid hp
    have HN := Lib.hid hN
    have HC := Lib.hid hcan
    have HX := Lib.hid hx
    have HL := Lib.hid hl
    rw [hx] at RD K0 R0 B0 S0 ⊢
    clear h hn hx hN hcan e1 hh hp hl
    generalize ivX R C p xs = RES at N2 N3 YY ⊢
    go_enter Try.func20, Try.ntmps20
    go_upto_region 1 with fail
    generalize (w.alloc (.cells #[.int .i64 R, .int .i64 C, .slice a N m] 26)).alloc (.cells #[.int .i64 0, .int .i64 0, .slice none 0 0] 26) = W0 at K0 R0 B0 S0 ⊢
    obtain ⟨p0, p1, p2, -, -, -⟩ := K0.out.all
    go_wp2_with fail
    refine (RD.out _ B0.out).mono ?_
    rintro e w1 ⟨v, rfl, own, hb⟩
    obtain ⟨q, cap, rfl, -, -⟩ := own.form
    dsimp only
    rw [HL.out]
    replace own := own.le (show w.heap.size ≤ _ by have := S0.out; omega)
    rw [HL.out] at own
    have s0 := S0.out
    have s1 := hb.size
    have Bx := B0.out.trans (hb.mono (by omega))
    have B2 := Lib.hid (Bx.alloc Bx.size (.cells #[.int .i64 R, .int .i64 C, .slice q N cap] 26))
    have QS := Lib.hid own.elim.2
    obtain ⟨g0, hcel⟩ := own.celQ
    have QC := Lib.hid hcel.1
    have QN := Lib.hid hcel.2
    have Q2 := Lib.hid (own.elim.1.below ((Below.refl _ _).alloc (Nat.le_refl _) (.cells #[.int .i64 R, .int .i64 C, .slice q N cap] 26)))
    have A2 : Hid (Blk3 (w1.alloc (.cells #[.int .i64 R, .int .i64 C, .slice q N cap] 26)) w1.heap.size 26 (.int .i64 R) (.int .i64 C) (.slice q N cap)) := Blk3.at_ _ _ _ _ rfl
    have K2 := Lib.hid ((K0.out.step hb).old (.cells #[.int .i64 R, .int .i64 C, .slice q N cap] 26))
    have R2 := Lib.hid ((R0.out.step hb).old (.cells #[.int .i64 R, .int .i64 C, .slice q N cap] 26))
    have S2 : Hid ((w1.alloc (.cells #[.int .i64 R, .int .i64 C, .slice q N cap] 26)).heap.size = w1.heap.size + 1) := by show _ = _; simp
    clear hb own Bx K0 R0 B0 S0 p0 p1 p2 RD
    go_upto_region 2 with fail
    generalize w1.alloc (.cells #[.int .i64 R, .int .i64 C, .slice q N cap] 26) = W2 at B2 Q2 A2 K2 R2 S2 ⊢
    obtain ⟨b6, hb6⟩ : ∃ b6, w1.heap.size = b6 := ⟨_, rfl⟩
    obtain ⟨rb, hrb⟩ : ∃ rb, w.heap.size + 1 = rb := ⟨_, rfl⟩
    have s2 := S2.out
    rw [hb6] at A2 s2 ⊢
    rw [hrb] at R2 ⊢
    have l0 : w.heap.size ≤ rb := by omega
    have l1 : rb < b6 := by omega
    clear hb6 hrb s0 s1 S2 w1 W0
    obtain ⟨p0, p1, p2, -, -, -⟩ := K2.out.all
    by_cases hRC : R = C
    · have n1 : ((R : Int) != (C : Int)) = false := by simp [hRC]
      by_cases h12 : R ≤ 12
      · have YY := Lib.hid (YY.out hRC h12)
        have u9 : IntKind.i64.wrap (2 * (R : Int)) = 2 * (R : Int) := IntWalk.i64_in _ (by omega)
        obtain ⟨C2, hC2⟩ : ∃ C2, 2 * R = C2 := ⟨_, rfl⟩
        have u8 : IntKind.i64.wrap (2 * (R : Int)) = (C2 : Int) := by rw [u9, ← hC2]; omega
        have n3 : decide ((12 : Int) < (R : Int)) = false := decide_eq_false (by omega)
        obtain ⟨N2', hN2⟩ : ∃ N2, R * C2 = N2 := ⟨_, rfl⟩
        have HN2 := Lib.hid hN2
        have HC2 := Lib.hid hC2
        have lN2 : N2' ≤ 288 := by
          rw [← hN2]
          have : R * C2 ≤ 12 * 24 := Nat.mul_le_mul h12 (by omega)
          omega
        have HNN : Hid (N = R * R) := by show _ = _; rw [HN.out, ← hRC]
        have CR : Hid (C = R) := hRC.symm
        clear u9 hC2 hN2 N3 hRC
        have s2' : b6 < W2.heap.size := by omega
        clear s2
        have u7 : IntKind.i64.wrap ((C2 : Int) * (R : Int)) = (N2' : Int) := by
          rw [show (C2 : Int) * (R : Int) = (N2' : Int) by rw [← HN2.out, Int.natCast_mul, Int.mul_comm]]
          exact IntWalk.i64_in _ (by omega)
        have hmk := makeInts N2' (by omega)
        have I5 : Hid (Ints ((W2.alloc (.cells (madeCells #[.int .i64 0] N2') 3)).alloc (.cells #[.int .i64 R, .int .i64 C2, .slice (some ⟨W2.heap.size, 0, none⟩) N2' N2'] 26)) W2.heap.size (wdTo p R xs 0 0)) := by
          have := ((IntsC.made (w := W2) N2' (by omega) rfl).ints).old (.cells #[.int .i64 R, .int .i64 C2, .slice (some ⟨W2.heap.size, 0, none⟩) N2' N2'] 26)
          rw [wdTo_zero, HC2.out, HN2.out]
          exact this
        have T5 : Hid (Blk3 ((W2.alloc (.cells (madeCells #[.int .i64 0] N2') 3)).alloc (.cells #[.int .i64 R, .int .i64 C2, .slice (some ⟨W2.heap.size, 0, none⟩) N2' N2'] 26)) (W2.heap.size + 1) 26 (.int .i64 R) (.int .i64 C2) (.slice (some ⟨W2.heap.size, 0, none⟩) N2' N2')) := Blk3.at_ _ _ _ _ (by simp)
        have E5 : Hid (Below W2.heap.size W2 ((W2.alloc (.cells (madeCells #[.int .i64 0] N2') 3)).alloc (.cells #[.int .i64 R, .int .i64 C2, .slice (some ⟨W2.heap.size, 0, none⟩) N2' N2'] 26))) := ((Below.refl _ _).alloc (Nat.le_refl _) _).alloc (by simp) _
        have S5 : Hid (((W2.alloc (.cells (madeCells #[.int .i64 0] N2') 3)).alloc (.cells #[.int .i64 R, .int .i64 C2, .slice (some ⟨W2.heap.size, 0, none⟩) N2' N2'] 26)).heap.size = W2.heap.size + 2) := by show _ = _; simp
        go_upto_region 6 with fail
        generalize (W2.alloc (.cells (madeCells #[.int .i64 0] N2') 3)).alloc (.cells #[.int .i64 R, .int .i64 C2, .slice (some ⟨W2.heap.size, 0, none⟩) N2' N2'] 26) = W5 at I5 T5 E5 S5 ⊢
        have A5 := Lib.hid (A2.out.keep E5.out A2.out.lt)
        have R5 := Lib.hid (R2.out.keep E5.out R2.out.lt)
        have B5 := Lib.hid (B2.out.trans (E5.out.mono B2.out.size))
        have lb6 := A2.out.lt
        have s5 := S5.out
        obtain ⟨g, hg⟩ : ∃ g, W2.heap.size = g := ⟨_, rfl⟩
        obtain ⟨b9, hb9⟩ : ∃ b9, g + 1 = b9 := ⟨_, rfl⟩
        rw [hg] at I5 T5 E5 lb6 s5 s2' ⊢
        rw [hb9] at T5 ⊢
        have lg9 : g < b9 := by omega
        have LW2 : Hid (W2.heap.size = g) := hg
        have lw2 := B2.out.size
        rw [hg] at lw2
        have DL2 : Hid (∀ i, i < R → i * C2 + C2 ≤ N2') := fun i hi => by rw [← HN2.out, ← Nat.succ_mul]; exact Nat.mul_le_mul_right _ hi
        have DLN : Hid (∀ i, i < R → i * R + R ≤ N) := fun i hi => by rw [HNN.out, ← Nat.succ_mul]; exact Nat.mul_le_mul_right _ hi
        have DLR : Hid (∀ i, i < R → i * R + R ≤ R * R) := fun i hi => by rw [← Nat.succ_mul]; exact Nat.mul_le_mul_right _ hi
        have lN : N ≤ 144 := by rw [HNN.out]; exact Nat.mul_le_mul h12 h12
        have RW6 : Hid (∀ i, i < R → ∀ w', Calls Try.prog 55 #[.agg #[.int .i64 R, .int .i64 C, .slice q N cap], .int .i64 i] w' (RowAt q (i * R) R w')) := fun i hi w' => by
          have e := CR.out
          rw [e]
          exact iRowIn R R i (i * R) N cap q w' QS.out rfl (DLN.out i hi) QC.out QN.out (by omega) (by omega)
        have RW9 : Hid (∀ i, i < R → ∀ w', Calls Try.prog 55 #[.agg #[.int .i64 R, .int .i64 C2, .slice (some ⟨g, 0, none⟩) N2' N2'], .int .i64 i] w' (RowAt (some ⟨g, 0, none⟩) (i * C2) C2 w')) := fun i hi w' => iRowIn R C2 i (i * C2) N2' N2' _ w' (.inr ⟨g, 0, rfl⟩) rfl (DL2.out i hi) (Nat.le_refl _) (fun h => by cases h) (by omega) (by omega)
        clear hg hb9 S5 hmk K2 R2 A2 B2 p0 p1 p2
        go_wp2_with fail
        go_loopw [10, 11, 49] (fun _ _ v49 wr => ∃ i : Nat, v49 = .int .i64 i ∧ i ≤ R ∧ Ints wr g (wdTo p R xs i 0) ∧ W5.grownBy wr (some g)) (fun _ _ v49 _ => R - (intOf v49).toNat)
        case atStart => exact ⟨0, rfl, by omega, I5.out, World.grownBy.refl _ _⟩
        case round =>
          clear I5
          obtain ⟨i, rfl, hi, hI, hgr⟩ := hrel
          have I := Lib.hid hI
          have G := Lib.hid hgr
          clear hI hgr
          by_cases hlt : i < R
          · have c20 : R ≤ C2 := by have := HC2.out; omega
            have A6 := Lib.hid (A5.out.keepOne G.out (by omega))
            have T6 := Lib.hid (T5.out.keepOne G.out (by omega))
            obtain ⟨q0, q1, q2, -, -, -⟩ := T6.out.all
            go_wp2_with fail
            refine (RW9.out i hlt _).mono ?_
            rintro e w6 ⟨q6, m6, rfl, hm6, hq6, -, hb6'⟩
            obtain rfl := hq6 g 0 rfl (by omega)
            rw [Nat.zero_add]
            have A7 := Lib.hid (A6.out.step hb6')
            have I7 := Lib.hid (I.out.keep hb6' I.out.lt)
            have G7 := Lib.hid (G.out.trans (grown_of_below hb6' (some g)))
            clear hb6' hq6 q0 q1 q2
            obtain ⟨p0, p1, p2, -, -, -⟩ := A7.out.all
            go_wp2_with fail
            refine (RW6.out i hlt _).mono ?_
            rintro e w7 ⟨q7, m7, rfl, hm7, hq7, -, hb7⟩
            have I8 := Lib.hid (I7.out.keep hb7 I7.out.lt)
            have G8 := Lib.hid (G7.out.trans (grown_of_below hb7 (some g)))
            clear hb7 p0 p1 p2
            have hsrc : Rd w7 q7 (rwL R (mxC R (resL p xs) i)) := by
              have h1 : Rd w7 q (resL p xs) := (Q2.out.below (by rw [LW2.out]; exact E5.out)).one G8.out (fun b o e e2 => by
                subst e2
                obtain ⟨b', o', e', hc'⟩ := Q2.out 0 (by rw [HL.out]; have := DLN.out i hlt; omega)
                rw [e] at e'
                injection e' with e'
                injection e' with e' _
                subst e'
                have := World.block_lt_of_cell? W2 _ hc'
                simp at this
                have := LW2.out
                omega)
              exact h1.row (by rw [HL.out, HNN.out]) hlt (fun g' o' e _ => hq7 g' o' e (by omega))
            obtain ⟨w8, hrun, hi8, hg8⟩ := copyInts w7 g (i * C2) C2 m6 R m7 q7 (wdTo p R xs i 0) (rwL R (mxC R (resL p xs) i)) I8.out hsrc (rwL_length _ _) (by omega) (by omega) (by rw [wdTo_length, HC2.out, HN2.out]; have := DL2.out i hlt; omega) 3
            have e8 : (wdTo p R xs i 0).take (i * C2) ++ rwL R (mxC R (resL p xs) i) ++ (wdTo p R xs i 0).drop (i * C2 + R) = wdTo p R xs i R := by
              have := wdTo_lay (p := p) (xs := xs) hlt (rwL_length R (mxC R (resL p xs) i)) (fun b hb => rwL_at hb)
              rw [HC2.out] at this
              exact this
            rw [e8] at hi8
            have I9 := Lib.hid hi8
            have G9 := Lib.hid (G8.out.trans hg8)
            clear hi8 hg8 hsrc e8 hq7
            obtain ⟨P, hP⟩ : ∃ P, i * C2 + (R + i) = P := ⟨_, rfl⟩
            have hPN : P < N2' := by have := DL2.out i hlt; have := HC2.out; omega
            have hold := I9.out.cell (i := P) (by rw [wdTo_length, HC2.out, HN2.out]; exact hPN)
            have hfr := I9.out.free P
            have ST : Hid ((wdTo p R xs i R).set P 1 = wdTo p R xs (i + 1) 0) := by
              show _ = _
              rw [← hP, ← HC2.out]
              exact wdTo_row hlt
            have IS := Lib.hid (I9.out.set P 1)
            have GS := Lib.hid (grown_set_one (a := ⟨g, P, none⟩) G9.out rfl (.int .i64 1))
            have u3 : IntKind.i64.wrap ((R : Int) + (i : Int)) = (R : Int) + (i : Int) := IntWalk.i64_in _ (by omega)
            have u4 : (R : Int) + (i : Int) < (C2 : Int) := by have := HC2.out; omega
            have u5 : ((R : Int) + (i : Int)).toNat = R + i := by omega
            have u6 : (0 : Int) ≤ (R : Int) + (i : Int) := by omega
            rw [← hP] at hold hfr IS GS ST
            clear hP hPN
            go_wp2_with (at_builtin; refine wpList_copyR rfl _ _ 24 rfl _ _ rfl rfl _ _ hrun ?_)
            go_roundw
            case rel => exact ⟨i + 1, by go_num, by omega, by rw [← ST.out]; exact IS.out, GS.out⟩
            case measure => simp [intOf]; omega
          · obtain rfl : R = i := by omega
            have T6 := Lib.hid (T5.out.keepOne G.out (by omega))
            have R6 := Lib.hid (R5.out.keepOne G.out (by omega))
            have B6 := Lib.hid (B5.out.trans (below_of_one G.out lw2 B5.out.size))
            have EL : Hid (∀ w', Ints w' g (wdTo p R xs R 0) → Calls Try.prog 44 #[.agg #[.int .i64 R, .int .i64 C2, .slice (some ⟨g, 0, none⟩) N2' N2'], .int .i64 R, .int .i64 p] w' (fun e w2 => e = .returned (.tuple #[.int .i64 ((elW p R xs).2.1.length : Int), .int .i64 (elW p R xs).2.2]) ∧ Cel w2 (some ⟨g, 0, none⟩) N2' N2' g (elW p R xs).1 ∧ w'.grownBy w2 (some g))) := fun w' hi' => by
              rw [wdTo_all] at hi'
              have lw : (wideL p R xs).length = N2' := by unfold wideL; rw [tab_length, HC2.out, HN2.out]
              have := iElim R C2 R N2' N2' g (some ⟨g, 0, none⟩) p (wideL p R xs) w' HN2.out.symm (by omega) (by have := HC2.out; omega) (by have := HC2.out; omega) PB.out (wideL_can (prmB_says PB.out).1 (by rw [HX.out, HNN.out])) (.inr ⟨rfl, Nat.le_refl _, lw, hi'⟩)
              unfold elW
              rw [← HC2.out] at this ⊢
              exact this
            obtain ⟨EW, hEW⟩ : ∃ EW, elW p R xs = EW := ⟨_, rfl⟩
            have LE : EW.1.length = N2' := by
              rw [← hEW]
              have := elW_len p R xs
              rw [HC2.out, HN2.out] at this
              exact this
            rw [hEW] at EL YY
            have II := Lib.hid I.out
            clear hEW I
            obtain ⟨q0, q1, q2, -, -, -⟩ := T6.out.all
            go_wp2_with fail
            refine (EL.out _ II.out).mono ?_
            rintro e w7 ⟨rfl, hc7, hg7⟩
            have Q7 := Lib.hid hc7
            have T7 := Lib.hid (T6.out.keepOne hg7 (by omega))
            have R7 := Lib.hid (R6.out.keepOne hg7 (by omega))
            have B7 := Lib.hid (B6.out.trans (below_of_one hg7 lw2 B6.out.size))
            clear hg7 hc7 q0 q1 q2 R6 T6 B6 II G EL
            by_cases hlt2 : EW.2.1.length < R
            · have RX : Hid (RES = MR.no) := by show _ = _; rw [YY.out, if_pos hlt2]
              obtain ⟨r0, r1, r2, f0, f1, f2⟩ := R7.out.all
              go_wp2_with fail
              obtain ⟨E0, E1, E2, -, -, -⟩ := (((R7.out.set0 (.int .i64 0)).set1 (.int .i64 0)).set2 (.slice none 0 0)).all
              rw [RX.out]
              exact bodyPost_ret (v := .tuple #[.agg #[.int .i64 0, .int .i64 0, .slice none 0 0], .bool false]) (by simp [results, Try.results20, go_sem, E0, E1, E2]) rfl ⟨_, rfl, .inl ⟨rfl, rfl⟩, ((B7.out.setCell l0 _).setCell l0 _).setCell l0 _⟩
            · have RX : Hid (RES = ⟨true, R, R, hfTo R EW.1 R 0⟩) := by show _ = _; rw [YY.out, if_neg hlt2]
              have u6 : IntKind.i64.wrap ((R : Int) * (R : Int)) = (N : Int) := by
                rw [show (R : Int) * (R : Int) = (N : Int) by rw [HNN.out, Int.natCast_mul]]
                exact IntWalk.i64_in _ (by omega)
              have hmk := makeInts N (by omega)
              have I8 : Hid (Ints ((w7.alloc (.cells (madeCells #[.int .i64 0] N) 3)).alloc (.cells #[.int .i64 R, .int .i64 R, .slice (some ⟨w7.heap.size, 0, none⟩) N N] 26)) w7.heap.size (hfTo R EW.1 0 0)) := by
                have := ((IntsC.made (w := w7) N (by omega) rfl).ints).old (.cells #[.int .i64 R, .int .i64 R, .slice (some ⟨w7.heap.size, 0, none⟩) N N] 26)
                rw [hfTo_zero, ← HNN.out]
                exact this
              have T8 : Hid (Blk3 ((w7.alloc (.cells (madeCells #[.int .i64 0] N) 3)).alloc (.cells #[.int .i64 R, .int .i64 R, .slice (some ⟨w7.heap.size, 0, none⟩) N N] 26)) (w7.heap.size + 1) 26 (.int .i64 R) (.int .i64 R) (.slice (some ⟨w7.heap.size, 0, none⟩) N N)) := Blk3.at_ _ _ _ _ (by simp)
              have E8 : Hid (Below w7.heap.size w7 ((w7.alloc (.cells (madeCells #[.int .i64 0] N) 3)).alloc (.cells #[.int .i64 R, .int .i64 R, .slice (some ⟨w7.heap.size, 0, none⟩) N N] 26))) := ((Below.refl _ _).alloc (Nat.le_refl _) _).alloc (by simp) _
              have n9 : decide (EW.2.1.length < R) = false := decide_eq_false hlt2
              go_upto_region 17 with fail
              generalize (w7.alloc (.cells (madeCells #[.int .i64 0] N) 3)).alloc (.cells #[.int .i64 R, .int .i64 R, .slice (some ⟨w7.heap.size, 0, none⟩) N N] 26) = W8 at I8 T8 E8 ⊢
              have A8 := Lib.hid (T7.out.keep E8.out T7.out.lt)
              have R8 := Lib.hid (R7.out.keep E8.out R7.out.lt)
              have B8 := Lib.hid (B7.out.trans (E8.out.mono B7.out.size))
              have Q8 := Lib.hid (Q7.out.keep E8.out)
              have lg7 := T7.out.lt
              have lw7 := B7.out.size
              obtain ⟨g2, hg2⟩ : ∃ g2, w7.heap.size = g2 := ⟨_, rfl⟩
              obtain ⟨b14, hb14⟩ : ∃ b14, g2 + 1 = b14 := ⟨_, rfl⟩
              rw [hg2] at I8 T8 E8 lg7 lw7 ⊢
              rw [hb14] at T8 ⊢
              have l14 : g2 < b14 := by omega
              have RW2 : Hid (∀ i, i < R → ∀ w', Calls Try.prog 55 #[.agg #[.int .i64 R, .int .i64 R, .slice (some ⟨g2, 0, none⟩) N N], .int .i64 i] w' (RowAt (some ⟨g2, 0, none⟩) (i * R) R w')) := fun i hi w' => iRowIn R R i (i * R) N N _ w' (.inr ⟨g2, 0, rfl⟩) rfl (DLN.out i hi) (Nat.le_refl _) (fun h => by cases h) (by omega) (by omega)
              clear hmk hg2 hb14 n9 hlt2 Q7 R7 T7 B7
              go_wp2_with fail
              go_loopw [15, 85] (fun _ v85 wr => ∃ i : Nat, v85 = .int .i64 i ∧ i ≤ R ∧ Ints wr g2 (hfTo R EW.1 i 0) ∧ W8.grownBy wr (some g2)) (fun _ v85 _ => R - (intOf v85).toNat)
              case atStart => exact ⟨0, rfl, by omega, I8.out, World.grownBy.refl _ _⟩
              case round =>
                clear I8
                obtain ⟨i, rfl, hi, hI, hgr⟩ := hrel
                have I := Lib.hid hI
                have G := Lib.hid hgr
                clear hI hgr
                have T9 := Lib.hid (T8.out.keepOne G.out (by omega))
                have A9 := Lib.hid (A8.out.keepOne G.out (by omega))
                by_cases hlt : i < R
                · have c20 : R ≤ C2 := by have := HC2.out; omega
                  have h0 : 0 < N2' := by have := DL2.out i hlt; omega
                  have QB := Lib.hid ((Q8.out.ints h0).2.move (w' := wr) (G.out.block g (Q8.out.ints h0).2.lt (by simp; omega)))
                  have e8 : (hfTo R EW.1 i 0).take (i * R) ++ (rwL R fun b => EW.1.getD (i * C2 + (R + b)) 0) ++ (hfTo R EW.1 i 0).drop (i * R + R) = hfTo R EW.1 (i + 1) 0 := hfTo_lay hlt (rwL_length _ _) (fun b hb => by rw [rwL_at hb, HC2.out])
                  have EE := Lib.hid e8
                  clear e8
                  go_wp2_with fail
                  refine wp_region_held_drew (S := fun w' => Blk3 w' b14 26 (.int .i64 R) (.int .i64 R) (.slice (some ⟨g2, 0, none⟩) N N) ∧ Blk3 w' b9 26 (.int .i64 R) (.int .i64 C2) (.slice (some ⟨g, 0, none⟩) N2' N2')) (by kernel_rfl) ⟨T9.out.drew, A9.out.drew⟩ (fun hH => ?_)
                  have X9 := Lib.hid I.out.drew
                  have Y9 := Lib.hid (grown_drew_one G.out)
                  have Z9 := Lib.hid QB.out.drew
                  generalize wr.drew = wd at hH X9 Y9 Z9 ⊢
                  refine wpAnyH_take (i := 0) (v := ?_) (by simp only [List.getElem?_toArray, List.getElem?_cons_zero]; rfl) (by kernel_rfl) (by kernel_rfl) (by kernel_rfl) (by exact fun _ _ _ h => h) (Or.inl ⟨by rfl, ?_⟩) hH ?_
                  rotate_left
                  · (intro wS hS; (try dsimp only at hS); have k0 := hS.1.cell0; have k1 := hS.1.cell1; have k2 := hS.1.cell2; clear hS; go_simp; try rfl)
                  try simp only [Act.put, List.setIfInBounds_toArray, List.set_cons_zero, List.set_cons_succ]
                  refine wpAnyH_take (i := 1) (v := ?_) (by simp only [List.getElem?_toArray, List.getElem?_cons_succ, List.getElem?_cons_zero]; rfl) (by kernel_rfl) (by kernel_rfl) (by kernel_rfl) (by exact fun _ _ _ h => h) (Or.inl ⟨by rfl, ?_⟩) hH ?_
                  rotate_left
                  · (intro wS hS; clear hS; go_simp; try rfl)
                  try simp only [Act.put, List.setIfInBounds_toArray, List.set_cons_zero, List.set_cons_succ]
                  refine wpAnyH_take (i := 3) (v := ?_) (by simp only [List.getElem?_toArray, List.getElem?_cons_succ, List.getElem?_cons_zero]; rfl) (by kernel_rfl) (by kernel_rfl) (by kernel_rfl) (by exact fun _ _ _ h => h) (Or.inl ⟨by rfl, ?_⟩) hH ?_
                  rotate_left
                  · (intro wS hS; (try dsimp only at hS); have k0 := hS.2.cell0; have k1 := hS.2.cell1; have k2 := hS.2.cell2; clear hS; go_simp; try rfl)
                  try simp only [Act.put, List.setIfInBounds_toArray, List.set_cons_zero, List.set_cons_succ]
                  refine wpAnyH_take (i := 4) (v := ?_) (by simp only [List.getElem?_toArray, List.getElem?_cons_succ, List.getElem?_cons_zero]; rfl) (by kernel_rfl) (by kernel_rfl) (by kernel_rfl) (by exact fun _ _ _ h => h) (Or.inl ⟨by rfl, ?_⟩) hH ?_
                  rotate_left
                  · (intro wS hS; clear hS; go_simp; try rfl)
                  try simp only [Act.put, List.setIfInBounds_toArray, List.set_cons_zero, List.set_cons_succ]
                  refine wpAnyH_take (i := 6) (v := ?_) (by simp only [List.getElem?_toArray, List.getElem?_cons_succ, List.getElem?_cons_zero]; rfl) (by kernel_rfl) (by kernel_rfl) (by kernel_rfl) (by exact fun _ _ _ h => h) (Or.inl ⟨by rfl, ?_⟩) hH ?_
                  rotate_left
                  · (intro wS hS; clear hS; go_simp; try rfl)
                  try simp only [Act.put, List.setIfInBounds_toArray, List.set_cons_zero, List.set_cons_succ]
                  refine wpAnyH_ready (rs := [2]) (by kernel_rfl) (by simp) ?_
                  refine AllReadyH.cons (by simp only [List.getElem?_toArray, List.getElem?_cons_succ, List.getElem?_cons_zero]; rfl) (fun K hK => ?_) AllReadyH.nil
                  go_simp
                  (with_reducible refine (RW2.out i hlt _).mono ?_)
                  rintro e v1 ⟨q1, m1, rfl, hm1, hq1, -, hb1⟩
                  obtain rfl := hq1 g2 0 rfl (by omega)
                  rw [Nat.zero_add]
                  have X9 := Lib.hid (X9.out.keep hb1 X9.out.lt)
                  have Y9 := Lib.hid (Y9.out.trans (grown_of_below hb1 _))
                  have Z9 := Lib.hid (Z9.out.keep hb1 Z9.out.lt)
                  try dsimp only
                  refine hK.out _ _ ?_ (fun hH2 => ?_)
                  · exact ⟨hH.1.step hb1, hH.2.step hb1⟩
                  clear hK K hH
                  have hH := hH2
                  clear hH2
                  try simp only [Act.put, List.setIfInBounds_toArray, List.set_cons_zero, List.set_cons_succ]
                  refine wpAnyH_ready (rs := [5]) (by kernel_rfl) (by simp) ?_
                  refine AllReadyH.cons (by simp only [List.getElem?_toArray, List.getElem?_cons_succ, List.getElem?_cons_zero]; rfl) (fun K hK => ?_) AllReadyH.nil
                  go_simp
                  (with_reducible refine (RW9.out i hlt _).mono ?_)
                  rintro e v2 ⟨q2, m2, rfl, hm2, hq2, -, hb2⟩
                  obtain rfl := hq2 g 0 rfl (by omega)
                  rw [Nat.zero_add]
                  have X9 := Lib.hid (X9.out.keep hb2 X9.out.lt)
                  have Y9 := Lib.hid (Y9.out.trans (grown_of_below hb2 _))
                  have Z9 := Lib.hid (Z9.out.keep hb2 Z9.out.lt)
                  try dsimp only
                  refine hK.out _ _ ?_ (fun hH2 => ?_)
                  · exact ⟨hH.1.step hb2, hH.2.step hb2⟩
                  clear hK K hH
                  have hH := hH2
                  clear hH2
                  try simp only [Act.put, List.setIfInBounds_toArray, List.set_cons_zero, List.set_cons_succ]
                  have c22 : (R : Int) ≤ (C2 : Int) := by omega
                  have c23 : ¬ m2 = R := by have := HC2.out; omega
                  refine wpAnyH_take (i := 7) (v := ?_) (by simp only [List.getElem?_toArray, List.getElem?_cons_succ, List.getElem?_cons_zero]; rfl) (by kernel_rfl) (by kernel_rfl) (by kernel_rfl) (by exact fun _ _ _ h => h) (Or.inl ⟨by rfl, ?_⟩) hH ?_
                  rotate_left
                  · (intro wS hS; clear hS; go_simp; try rfl)
                  try simp only [Act.put, List.setIfInBounds_toArray, List.set_cons_zero, List.set_cons_succ]
                  rw [show C2 - R = R by have := HC2.out; omega]
                  obtain ⟨w8, hrun, hi8, hg8⟩ := copyInts v2 g2 (i * R) R m1 R (m2 - R) (some ⟨g, i * C2 + R, none⟩) (hfTo R EW.1 i 0) (rwL R fun b => EW.1.getD (i * C2 + (R + b)) 0) X9.out (Z9.out.rdAt (by rw [LE]; have := DL2.out i hlt; have := HC2.out; omega)) (rwL_length _ _) (by omega) (Nat.le_refl _) (by rw [hfTo_length]; exact DLR.out i hlt) 3
                  refine wpAnyH_ready (rs := [8]) (by kernel_rfl) (by simp) ?_
                  refine AllReadyH.cons (by simp only [List.getElem?_toArray, List.getElem?_cons_succ, List.getElem?_cons_zero]; rfl) (fun K hK => ?_) AllReadyH.nil
                  refine step_copy rfl _ _ 24 rfl _ _ rfl rfl _ _ hrun ?_
                  try dsimp only
                  refine hK.out _ _ ⟨hH.1.keepOne hg8 (by omega), hH.2.keepOne hg8 (by omega)⟩ (fun hH2 => ?_)
                  clear hK K hH hH2
                  try simp only [Act.put, List.setIfInBounds_toArray, List.set_cons_zero, List.set_cons_succ]
                  refine wpAnyH_done (by kernel_rfl) ?_ _
                  rw [EE.out] at hi8
                  have I8 := Lib.hid hi8
                  have G8 := Lib.hid (Y9.out.trans hg8)
                  clear hi8 hg8 hrun
                  go_wp2_with fail
                  go_roundw
                  case rel => exact ⟨i + 1, by go_num, by omega, I8.out, G8.out⟩
                  case measure => simp [intOf]; omega
                · obtain rfl : R = i := by omega
                  have R9 := Lib.hid (R8.out.keepOne G.out (by omega))
                  have B9 := Lib.hid (B8.out.trans (below_of_one G.out lw7 B8.out.size))
                  obtain ⟨q0, q1, q2, -, -, -⟩ := T9.out.all
                  obtain ⟨r0, r1, r2, f0, f1, f2⟩ := R9.out.all
                  have LN : (hfTo R EW.1 R 0).length = N := by rw [hfTo_length, HNN.out]
                  go_wp2_with fail
                  obtain ⟨E0, E1, E2, -, -, -⟩ := (((R9.out.set0 (.int .i64 R)).set1 (.int .i64 R)).set2 (.slice (some ⟨g2, 0, none⟩) N N)).all
                  rw [RX.out]
                  refine bodyPost_ret (v := .tuple #[.agg #[.int .i64 R, .int .i64 R, .slice (some ⟨g2, 0, none⟩) N N], .bool true]) (by simp [results, Try.results20, go_sem, E0, E1, E2]) rfl ⟨_, rfl, .inr ⟨g2, N, by rw [LN], lw7, ?_, by rw [LN]; exact Nat.le_refl _, by rw [LN]; omega⟩, ((B9.out.setCell l0 _).setCell l0 _).setCell l0 _⟩
                  exact ((I.out.far (a := ⟨rb, 0, none⟩) (by show g2 ≠ rb; omega) _).far (a := ⟨rb, 1, none⟩) (by show g2 ≠ rb; omega) _).far (a := ⟨rb, 2, none⟩) (by show g2 ≠ rb; omega) _
      · have RX := Lib.hid (N3.out h12)
        have n2 : decide ((12 : Int) < (R : Int)) = true := decide_eq_true (by omega)
        obtain ⟨r0, r1, r2, f0, f1, f2⟩ := R2.out.all
        go_wp2_with fail
        obtain ⟨E0, E1, E2, -, -, -⟩ := (((R2.out.set0 (.int .i64 0)).set1 (.int .i64 0)).set2 (.slice none 0 0)).all
        rw [RX.out]
        exact bodyPost_ret (v := .tuple #[.agg #[.int .i64 0, .int .i64 0, .slice none 0 0], .bool false]) (by simp [results, Try.results20, go_sem, E0, E1, E2]) rfl ⟨_, rfl, .inl ⟨rfl, rfl⟩, ((B2.out.setCell l0 _).setCell l0 _).setCell l0 _⟩
    · have n1 : ((R : Int) != (C : Int)) = true := by simp; omega
      have RX := Lib.hid (N2.out hRC)
      obtain ⟨r0, r1, r2, f0, f1, f2⟩ := R2.out.all
      go_wp2_with fail
      obtain ⟨E0, E1, E2, -, -, -⟩ := (((R2.out.set0 (.int .i64 0)).set1 (.int .i64 0)).set2 (.slice none 0 0)).all
      rw [RX.out]
      exact bodyPost_ret (v := .tuple #[.agg #[.int .i64 0, .int .i64 0, .slice none 0 0], .bool false]) (by simp [results, Try.results20, go_sem, E0, E1, E2]) rfl ⟨_, rfl, .inl ⟨rfl, rfl⟩, ((B2.out.setCell l0 _).setCell l0 _).setCell l0 _⟩
  · have RX : Hid (ivX r c p xs = MR.no) := ivX_no1 hh
    rw [(rkM_no hh).2.1] at RD
    obtain ⟨L, hL⟩ : ∃ L, xs.length = L := ⟨_, rfl⟩
    rw [hL] at RD K0 R0 B0 S0 ⊢
    clear h hn hh hL K0
    go_enter Try.func20, Try.ntmps20
    go_upto_region 1 with fail
    have B0' := B0.out
    go_wp2_with fail
    refine (RD.out _ B0.out).mono ?_
    rintro e w1 ⟨v, rfl, own, hb⟩
    obtain ⟨q, cap, rfl, -, -⟩ := own.form
    have s0 := S0.out
    have s1 := hb.size
    have Bx := B0.out.trans (hb.mono (by omega))
    have B2 := Lib.hid (Bx.alloc Bx.size (.cells #[.int .i64 MR.no.r, .int .i64 MR.no.c, .slice q MR.no.zs.length cap] 26))
    have R2 := Lib.hid ((R0.out.step hb).old (.cells #[.int .i64 MR.no.r, .int .i64 MR.no.c, .slice q MR.no.zs.length cap] 26))
    have l0 : w.heap.size ≤ w.heap.size + 1 := Nat.le_succ _
    clear hb own Bx B0' B0 R0
    have ok : MR.no.ok = false := rfl
    rw [ok]
    obtain ⟨r0, r1, r2, f0, f1, f2⟩ := R2.out.all
    go_wp2_with fail
    obtain ⟨E0, E1, E2, -, -, -⟩ := (((R2.out.set0 (.int .i64 0)).set1 (.int .i64 0)).set2 (.slice none 0 0)).all
    rw [RX.out]
    exact bodyPost_ret (v := .tuple #[.agg #[.int .i64 0, .int .i64 0, .slice none 0 0], .bool false]) (by simp [results, Try.results20, go_sem, E0, E1, E2]) rfl ⟨_, rfl, .inl ⟨rfl, rfl⟩, ((B2.out.setCell l0 _).setCell l0 _).setCell l0 _⟩
end Go.Proofs.Ytncplikadacjnaa
end
