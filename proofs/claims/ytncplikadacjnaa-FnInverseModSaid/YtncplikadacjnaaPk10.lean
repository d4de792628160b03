/-
  Texts of this seat, joined: MemI · MemL · ModL · SvL · SvS · SvI
-/
import Derived.BigQuiet
import Derived.Test.YtncplikadacjnaaPk1
import Derived.Test.YtncplikadacjnaaPk6
import Derived.Test.YtncplikadacjnaaPk9

section
/-
  Memory in a law's walk: slices of ints as results.
-/
namespace Go.Proofs.Ytncplikadacjnaa
open Go.RowKit

theorem eqI_g (a b : Option Addr) (c d : Nat) (zs : List Int) (w : World) (h : Rd w a zs) (h' : Rd w b zs) (hn : zs.length ≤ 16777216) :
    Calls Try.prog 40 #[.slice a zs.length c, .slice b zs.length d] w (Gives (.bool true) w) :=
  (eqI_t a b c d zs w h h' hn).mono fun _ _ ⟨h1, k, h2⟩ => ⟨h1, by rw [h2]; exact below_drewN (Below.refl _ _) k⟩
theorem heldI_g (a : Option Addr) (cap n : Nat) (c : Int) (w : World) (h : Rd w a (marks c n)) (hm : n ≤ 16777216) (hc0 : 0 ≤ c) (hc : c ≤ 16777216) :
    Calls Try.prog 42 #[.slice a n cap, .int .i64 c] w (Gives (.int .i64 (c + n)) w) :=
  (heldI a cap n c w h hm hc0 hc).mono fun _ _ ⟨h1, h2⟩ => ⟨h1, by rw [← h2]; exact Below.refl _ _⟩
/-- Marks are written into a slice of the call's own. -/
theorem markInI {B T : Nat} (a : Option Addr) (n cap : Nat) (zs : List Int) (k : Int) (w : World) (h : In B T w (.slice a n cap) zs) (hk0 : 0 ≤ k) (hk : k ≤ 16777216) :
    Calls Try.prog 41 #[.slice a n cap, .int .i64 k] w fun e w' => e = .returned (.int .i64 (k + n)) ∧ In B T w' (.slice a n cap) (marks k n) ∧ Chg B T w w' := by
  rcases h with ⟨hv, rfl⟩ | ⟨g, cap', hv, h1, h2, hi, hl, hc⟩
  · injection hv with v1 v2 v3
    subst v1 v2 v3
    exact (markI_nil 0 k w).mono fun e w' ⟨he, hw⟩ => ⟨by rw [he]; simp, .inl ⟨rfl, rfl⟩, by rw [← hw]; exact Chg.of_below (Below.refl _ _)⟩
  · injection hv with v1 v2 v3
    subst v1 v2 v3
    refine (markI g cap zs.length zs k w hi (Nat.le_refl _) hc hk0 hk).mono fun e w' ⟨he, hi', hg⟩ => ⟨he, .inr ⟨g, cap, by rw [marks_length], h1, h2, ?_, by rw [marks_length]; exact hl, by rw [marks_length]; exact hc⟩, Chg.of_one hg h1 h2⟩
    rw [List.drop_length, List.append_nil] at hi'
    exact hi'
end Go.Proofs.Ytncplikadacjnaa
end

section
/-
  A list of ints copied by the law's own helper, its block named.
-/
namespace Go.Proofs.Ytncplikadacjnaa
open Go.RowKit

theorem toIg (a : Option Addr) (cap : Nat) (zs : List Int) (w : World) (h : Rd w a zs) (hn : zs.length ≤ 1048576) :
    Calls Try.prog 39 #[.slice a zs.length cap] w (fun e w' => ∃ g : Nat, e = .returned (.slice (some ⟨g, 0, none⟩) zs.length zs.length) ∧ g = w.heap.size ∧ Ints w' g zs ∧ Below w.heap.size w w') :=
  (toI a cap zs w h hn).mono fun _ _ h => ⟨_, h.1, rfl, h.2.1, h.2.2⟩
end Go.Proofs.Ytncplikadacjnaa
end

section
/-
  Plain mathematics of chapter 8: what solutions over residues are, and what the composed laws of the chapter say of them. Nothing of a program is used.
-/
namespace Go.Proofs.Ytncplikadacjnaa

theorem cg_tmod (p a : Int) : Cg p (a.tmod p) a := by
  refine ⟨-(a.tdiv p), ?_⟩
  rw [Int.tmod_def, Int.mul_neg]
  omega
theorem tmod_smallP {p : Int} (hp : 0 < p) (a : Int) : -p < a.tmod p ∧ a.tmod p < p := by
  refine ⟨?_, Int.tmod_lt_of_pos a hp⟩
  have h1 := Int.tmod_lt_of_pos (-a) hp
  rw [Int.neg_tmod] at h1
  omega
/-- A small number that is 0 over the residues is 0. -/
theorem Cg.small {p a : Int} (h1 : -p < a) (h2 : a < p) (h : Cg p a 0) : a = 0 := by
  rcases Int.lt_or_le a 0 with h3 | h3
  · have : Cg p (-a) 0 := by simpa using h.neg
    have := Cg.eq (p := p) (a := -a) (b := 0) ⟨by omega, by omega⟩ ⟨by omega, by omega⟩ this
    omega
  · exact Cg.eq ⟨h3, h2⟩ ⟨by omega, by omega⟩ h
theorem dvd_tmod {p a b : Int} (h : Cg p a b) : (a - b).tmod p = 0 := Int.tmod_eq_zero_of_dvd h
/-- The sum that SolveMod makes for one unknown, up to a column. -/
def slF (p : Int) (u b : Nat → Int) : Nat → Int
  | 0 => 0
  | m + 1 => (slF p u b m + u m * (b m % p)) % p
theorem slF_can {p : Int} (hp : 0 < p) (u b : Nat → Int) : ∀ m, 0 ≤ slF p u b m ∧ slF p u b m < p
  | 0 => ⟨Int.le_refl _, hp⟩
  | m + 1 => ⟨Int.emod_nonneg _ (by omega), Int.emod_lt_of_pos _ hp⟩
theorem slF_cg {p : Int} (u b : Nat → Int) : ∀ m, Cg p (slF p u b m) (sumN m fun j => u j * b j)
  | 0 => Cg.refl _ _
  | m + 1 => (Cg.emod p _).trans ((slF_cg u b m).add ((Cg.refl p _).mul (Cg.emod p _)))
/-- What Go makes of it: the sums are not below 0. -/
theorem slF_go {p : Int} (hp : 0 < p) {u b : Nat → Int} {m : Nat} (hu : 0 ≤ u m) : (slF p u b m + u m * (b m % p)).tmod p = slF p u b (m + 1) := by
  have h1 := (slF_can hp u b m).1
  have h2 : 0 ≤ u m * (b m % p) := Int.mul_nonneg hu (Int.emod_nonneg _ (by omega))
  exact Int.tmod_eq_emod_of_nonneg (by omega)
theorem slF_big {p : Int} (hp : 0 < p) {u b : Nat → Int} {m : Nat} (hu : 0 ≤ u m ∧ u m < p) : 0 ≤ slF p u b m + u m * (b m % p) ∧ slF p u b m + u m * (b m % p) ≤ p * p := by
  have h1 := slF_can hp u b m
  have h2 : 0 ≤ b m % p := Int.emod_nonneg _ (by omega)
  have h3 : b m % p < p := Int.emod_lt_of_pos _ hp
  have h4 : 0 ≤ u m * (b m % p) := Int.mul_nonneg hu.1 h2
  have h5 : u m * (b m % p) ≤ (p - 1) * (p - 1) := Int.mul_le_mul (by omega) (by omega) h2 (by omega)
  have h6 : (p - 1) * (p - 1) = p * p - 2 * p + 1 := by grind
  omega
/-- The solution, as a list. -/
def solL (p : Int) (n : Nat) (vs bs : List Int) : List Int := (List.range n).map fun i => slF p (fun j => vs.getD (i * n + j) 0) (fun j => bs.getD j 0) n
theorem solL_length (p : Int) (n : Nat) (vs bs : List Int) : (solL p n vs bs).length = n := by unfold solL; rw [List.length_map, List.length_range]
theorem solL_at {p : Int} {n : Nat} {vs bs : List Int} {i : Nat} (hi : i < n) : (solL p n vs bs).getD i 0 = slF p (fun j => mxC n vs i j) (fun j => bs.getD j 0) n := by
  unfold solL mxC
  simp [List.getD, hi]
theorem solL_can {p : Int} (hp : 0 < p) {n : Nat} {vs bs : List Int} {i : Nat} (hi : i < n) : 0 ≤ (solL p n vs bs).getD i 0 ∧ (solL p n vs bs).getD i 0 < p := by
  rw [solL_at hi]
  exact slF_can hp _ _ _
/-- It solves. -/
theorem solL_cg {p : Int} {n : Nat} {xs vs bs : List Int} (h : InvX p n (mxC n xs) (mxC n vs)) {i : Nat} (hi : i < n) : Cg p (sumN n fun j => mxC n xs i j * (solL p n vs bs).getD j 0) (bs.getD i 0) := by
  have h1 : Cg p (sumN n fun j => mxC n xs i j * (solL p n vs bs).getD j 0) (sumN n fun j => sumN n fun k => mxC n xs i j * mxC n vs j k * bs.getD k 0) := by
    refine Cg.sum fun j hj => ?_
    rw [solL_at hj]
    refine ((Cg.refl p _).mul (slF_cg _ _ n)).trans (Cg.of_eq ?_)
    rw [sumN_mul_left]
    exact sumN_congr fun k _ => (Int.mul_assoc _ _ _).symm
  rw [sumN_swap] at h1
  have h2 : Cg p (sumN n fun k => sumN n fun j => mxC n xs i j * mxC n vs j k * bs.getD k 0) (sumN n fun k => idX i k * bs.getD k 0) := by
    refine Cg.sum fun k hk => ?_
    refine (Cg.of_eq ?_).trans ((h.right i k hi hk).mul (Cg.refl p (bs.getD k 0)))
    unfold mulX
    rw [← sumN_mul]
  refine (h1.trans h2).trans (Cg.of_eq ?_)
  rw [sumN_one (a := i) hi (fun k _ hne => by unfold idX; rw [if_neg (fun e => hne e.symm), Int.zero_mul])]
  unfold idX
  rw [if_pos rfl, Int.one_mul]
/-- What the composed law adds up in a row. -/
def lwF (p : Int) (M x : Nat → Int) (b : Int) : Nat → Int
  | 0 => (-b).tmod p
  | m + 1 => (lwF p M x b m + (M m).tmod p * x m).tmod p
theorem lwF_small {p : Int} (hp : 0 < p) (M x : Nat → Int) (b : Int) : ∀ m, -p < lwF p M x b m ∧ lwF p M x b m < p
  | 0 => tmod_smallP hp _
  | _ + 1 => tmod_smallP hp _
theorem lwF_cg (p : Int) (M x : Nat → Int) (b : Int) : ∀ m, Cg p (lwF p M x b m) (-b + sumN m fun j => M j * x j)
  | 0 => (cg_tmod p _).trans (Cg.of_eq (by show -b = -b + 0; omega))
  | m + 1 => by
    refine (cg_tmod p _).trans (((lwF_cg p M x b m).add ((cg_tmod p _).mul (Cg.refl p _))).trans (Cg.of_eq ?_))
    show -b + (sumN m fun j => M j * x j) + M m * x m = -b + ((sumN m fun j => M j * x j) + M m * x m)
    omega
theorem lwF_big {p : Int} (hp : 0 < p) {M x : Nat → Int} {b : Int} {m : Nat} (hx : 0 ≤ x m ∧ x m < p) : -(p * p) ≤ lwF p M x b m + (M m).tmod p * x m ∧ lwF p M x b m + (M m).tmod p * x m ≤ p * p := by
  have h1 := lwF_small hp M x b m
  have h2 := tmod_smallP hp (M m)
  have h5 : (M m).tmod p * x m ≤ (p - 1) * (p - 1) := by
    rcases Int.lt_or_le ((M m).tmod p) 0 with h | h
    · have a1 : (M m).tmod p * x m ≤ 0 := by
        have := Int.mul_nonneg (show 0 ≤ -(M m).tmod p by omega) hx.1
        rw [Int.neg_mul] at this; omega
      have a2 : 0 ≤ (p - 1) * (p - 1) := Int.mul_nonneg (by omega) (by omega)
      omega
    · exact Int.mul_le_mul (by omega) (by omega) hx.1 (by omega)
  have h7 : -((M m).tmod p) * x m ≤ (p - 1) * (p - 1) := by
    rcases Int.lt_or_le (-(M m).tmod p) 0 with h | h
    · have a1 : -(M m).tmod p * x m ≤ 0 := by
        have := Int.mul_nonneg (show 0 ≤ (M m).tmod p by omega) hx.1
        rw [Int.neg_mul]; omega
      have a2 : 0 ≤ (p - 1) * (p - 1) := Int.mul_nonneg (by omega) (by omega)
      omega
    · exact Int.mul_le_mul (by omega) (by omega) hx.1 (by omega)
  have h6 : (p - 1) * (p - 1) = p * p - 2 * p + 1 := by grind
  rw [Int.neg_mul] at h7
  omega
/-- The law's row comes out 0. -/
theorem lwF_zero {p : Int} (hp : 0 < p) {n : Nat} {xs vs bs : List Int} (h : InvX p n (mxC n xs) (mxC n vs)) {i : Nat} (hi : i < n) : lwF p (fun j => mxC n xs i j) (fun j => (solL p n vs bs).getD j 0) (bs.getD i 0) n = 0 := by
  have h1 := lwF_small hp (fun j => mxC n xs i j) (fun j => (solL p n vs bs).getD j 0) (bs.getD i 0) n
  refine Cg.small h1.1 h1.2 ((lwF_cg p _ _ _ n).trans ?_)
  refine (((Cg.refl p (-(bs.getD i 0))).add (solL_cg h hi))).trans (Cg.of_eq ?_)
  omega
/-- The product of the residues with the inverse, reduced, is the unit matrix. -/
theorem prod_unit {p : Int} (hp : Prm p) {n : Nat} {xs vs : List Int} (h : InvX p n (mxC n xs) (mxC n vs)) {i j : Nat} (hi : i < n) (hj : j < n) : (sumN n fun k => (resL p xs).getD (i * n + k) 0 * vs.getD (k * n + j) 0) % p = idX i j := by
  have hp0 : 0 < p := by have := hp.1; omega
  have e : Cg p (sumN n fun k => (resL p xs).getD (i * n + k) 0 * vs.getD (k * n + j) 0) (idX i j) := by
    refine Cg.trans (Cg.sum fun k _ => ?_) (h.right i j hi hj)
    exact (resL_cg (c := n) i k).mul (Cg.refl p _)
  rw [Cg.emod_eq hp0 e]
  unfold idX
  have := hp.1
  split
  · exact Int.emod_eq_of_lt (by omega) (by omega)
  · exact Int.zero_emod p
/-- The composed law of images: d = e over the residues. -/
theorem img_zero (p e : Int) : (e - e % p).tmod p = 0 := Int.tmod_eq_zero_of_dvd (Cg.emod p e).symm
end Go.Proofs.Ytncplikadacjnaa
end

section
/-
  Plain mathematics of chapter 8: what SolveMod gives, and how it is made cell by cell.
-/
namespace Go.Proofs.Ytncplikadacjnaa

/-- What SolveMod gives. -/
def svX (r c p : Int) (xs bs : List Int) : List Int × Bool := if ((ivX r c p xs).ok && decide ((bs.length : Int) = r) && nums bs) = true then (solL p r.toNat (ivX r c p xs).zs bs, true) else ([], false)
theorem svX_no {r c p : Int} {xs bs : List Int} (h : (ivX r c p xs).ok = false ∨ (bs.length : Int) ≠ r ∨ nums bs = false) : svX r c p xs bs = ([], false) := by
  unfold svX
  rcases h with h | h | h
  · rw [h]; rfl
  · rw [decide_eq_false h, Bool.and_false, Bool.false_and]; rfl
  · rw [h, Bool.and_false]; rfl
theorem svX_yes {n : Nat} {r c p : Int} {xs bs : List Int} (hr : r = n) (h1 : (ivX r c p xs).ok = true) (h2 : bs.length = n) (h3 : nums bs = true) : svX r c p xs bs = (solL p n (ivX r c p xs).zs bs, true) := by
  subst hr
  unfold svX
  rw [h1, h2, decide_eq_true rfl, h3]; rfl
/-- What an inverse is. -/
theorem ivX_says {r c p : Int} {xs : List Int} (h : (ivX r c p xs).ok = true) : ∃ n : Nat, r = n ∧ c = n ∧ n ≤ 12 ∧ prmB p = true ∧ xs.length = n * n ∧ (isMat r c xs && prmB p) = true ∧ (elW p n xs).2.1.length ≥ n ∧ ivX r c p xs = ⟨true, n, n, ivL p n xs⟩ ∧ (ivL p n xs).length = n * n ∧ CanL p (ivL p n xs) := by
  rcases Bool.eq_false_or_eq_true (isMat r c xs && prmB p) with hh | hh
  · by_cases h1 : r = c
    · by_cases h2 : r ≤ 12
      · obtain ⟨R, C, N, rfl, rfl, hN, hR, hC, hx, -, hp, -, -, -, -⟩ := rkM_yes hh
        have e : R = C := by omega
        subst e
        have hx2 : xs.length = R * R := by rw [hx, hN]
        have e1 := ivX_at (p := p) hh (by omega : R ≤ 12)
        obtain ⟨-, -, hc, hl⟩ := elW_inv (prmB_says hp).1 hx2
        by_cases h3 : (elW p R xs).2.1.length < R
        · rw [e1, if_pos h3] at h; cases h
        · rw [if_neg h3] at e1
          exact ⟨R, rfl, rfl, by omega, hp, hx2, hh, by omega, e1, hl, hc⟩
      · rw [ivX_no3 h2] at h; cases h
    · rw [ivX_no2 h1] at h; cases h
  · rw [ivX_no1 hh] at h; cases h
theorem ivX_zs (r c p : Int) (xs : List Int) : (ivX r c p xs).zs.length ≤ 144 := by
  rcases Bool.eq_false_or_eq_true (ivX r c p xs).ok with h | h
  · obtain ⟨n, -, -, hn, -, -, -, -, e, hl, -⟩ := ivX_says h
    rw [e]
    show (ivL p n xs).length ≤ 144
    rw [hl]
    exact Nat.mul_le_mul hn hn
  · unfold ivX at h ⊢
    split
    · rename_i h2
      rw [if_pos h2] at h
      split
      · exact Nat.zero_le _
      · rename_i h3
        rw [if_neg h3] at h; cases h
    · exact Nat.zero_le _
/-- The sum of one row, so far. -/
def svF (p : Int) (n : Nat) (vs bs : List Int) (i j : Nat) : Int := slF p (fun k => vs.getD (i * n + k) 0) (fun k => bs.getD k 0) j
theorem svF_zero (p : Int) (n : Nat) (vs bs : List Int) (i : Nat) : svF p n vs bs i 0 = 0 := rfl
theorem svF_step (p : Int) (n : Nat) (vs bs : List Int) (i j : Nat) : svF p n vs bs i (j + 1) = (svF p n vs bs i j + vs.getD (i * n + j) 0 * (bs.getD j 0 % p)) % p := rfl
theorem svF_can {p : Int} (hp : 0 < p) (n : Nat) (vs bs : List Int) (i j : Nat) : 0 ≤ svF p n vs bs i j ∧ svF p n vs bs i j < p := slF_can hp _ _ _
/-- The rows ahead of row i are done; of row i, j summands. -/
def svTo (p : Int) (n : Nat) (vs bs : List Int) (i j : Nat) : List Int := (List.range n).map fun a => if a < i then svF p n vs bs a n else if a = i then svF p n vs bs i j else 0
theorem svTo_length (p : Int) (n : Nat) (vs bs : List Int) (i j : Nat) : (svTo p n vs bs i j).length = n := by simp [svTo]
theorem svTo_zero (p : Int) (n : Nat) (vs bs : List Int) : svTo p n vs bs 0 0 = List.replicate n 0 := by
  apply List.ext_getElem (by simp [svTo])
  intro k h1 h2
  simp [svTo, svF_zero]
theorem svTo_at {p : Int} {n : Nat} {vs bs : List Int} {i j : Nat} (hi : i < n) : (svTo p n vs bs i j).getD i 0 = svF p n vs bs i j := by
  unfold svTo
  simp [List.getD, hi]
theorem svTo_set {p : Int} {n : Nat} {vs bs : List Int} {i j : Nat} : (svTo p n vs bs i j).set i (svF p n vs bs i (j + 1)) = svTo p n vs bs i (j + 1) := by
  apply List.ext_getElem (by simp [svTo])
  intro k h1 h2
  rw [List.getElem_set]
  by_cases e : i = k
  · subst e; simp [svTo]
  · rw [if_neg e]
    simp [svTo, show ¬ k = i from fun h => e h.symm]
theorem svTo_row {p : Int} {n : Nat} {vs bs : List Int} {i : Nat} : svTo p n vs bs i n = svTo p n vs bs (i + 1) 0 := by
  apply List.ext_getElem (by simp [svTo])
  intro k h1 h2
  simp only [svTo, List.getElem_map, List.getElem_range]
  by_cases h3 : k < i
  · rw [if_pos h3, if_pos (by omega)]
  · rw [if_neg h3]
    by_cases h4 : k = i
    · rw [if_pos h4, if_pos (by omega), h4]
    · rw [if_neg h4, if_neg (by omega)]
      split
      · rfl
      · rfl
theorem svTo_all (p : Int) (n : Nat) (vs bs : List Int) : svTo p n vs bs n 0 = solL p n vs bs := by
  apply List.ext_getElem (by simp [svTo, solL])
  intro k h1 h2
  have : k < n := by simpa [svTo] using h1
  simp [svTo, solL, svF, this]
/-- The first i unknowns. -/
def svUp (p : Int) (n : Nat) (vs bs : List Int) (i : Nat) : List Int := (List.range i).map fun a => svF p n vs bs a n
theorem svUp_length (p : Int) (n : Nat) (vs bs : List Int) (i : Nat) : (svUp p n vs bs i).length = i := by simp [svUp]
theorem svUp_succ (p : Int) (n : Nat) (vs bs : List Int) (i : Nat) : svUp p n vs bs (i + 1) = svUp p n vs bs i ++ [svF p n vs bs i n] := by simp [svUp, List.range_succ]
theorem svUp_all (p : Int) (n : Nat) (vs bs : List Int) : svUp p n vs bs n = solL p n vs bs := rfl
theorem nums_bad {bs : List Int} {j : Nat} (hj : j < bs.length) (h : ¬ NumP (bs.getD j 0)) : nums bs = false := by
  cases hb : nums bs with
  | false => rfl
  | true => exact absurd (nums_at hb hj) h
theorem nums_all {bs : List Int} (h : ∀ j, j < bs.length → NumP (bs.getD j 0)) : nums bs = true := nums_true h
end Go.Proofs.Ytncplikadacjnaa
end

section
/-
  Chapter 8, in the model: SolveMod.
-/
namespace Go.Proofs.Ytncplikadacjnaa
set_option maxRecDepth 100000
open Go.RowKit

/-- A list of the call's own and a bool are returned. -/
def LisRes (zs : List Int) (ok : Bool) (w : World) (e : Ending) (w' : World) : Prop := ∃ v : Value, e = .returned (.tuple #[v, .bool ok]) ∧ Own w.heap.size w' v zs ∧ Below w.heap.size w w'
theorem own_empty {B : Nat} (w : World) (hB : B ≤ w.heap.size) : Own B (w.alloc (.cells #[] 3)) (.slice (some ⟨w.heap.size, 0, none⟩) 0 0) [] := (OwnQ.none_ (B := B) hB ⟨Nat.zero_le _, [], rfl, heap_alloc_new w _⟩).own (by simp)
set_option maxHeartbeats 4000000 in
theorem sSv (r c p : Int) (a : Option Addr) (m : Nat) (xs : List Int) (ab : Option Addr) (mb : Nat) (bs : List Int) (w : World) (h : Rd w a xs) (hn : xs.length ≤ 16777216) (ha : Spot a) (hb : Rd w ab bs) (hbn : bs.length ≤ 16777216) :
    Calls Try.prog 38 #[.agg #[.int .i64 r, .int .i64 c, .slice a xs.length m], .slice ab bs.length mb, .int .i64 p] w (LisRes (svX r c p xs bs).1 (svX r c p xs bs).2 w) := by
  have IV : Hid (∀ w', Below w.heap.size w w' → Calls Try.prog 21 #[.agg #[.int .i64 r, .int .i64 c, .slice a xs.length m], .int .i64 p] w' (MatRes (ivX r c p xs) w')) := fun w' hb => sIvx r c p a m xs w' (h.below hb) hn ha
  have K0 : Hid (Blk3 (w.alloc (.cells #[.int .i64 r, .int .i64 c, .slice a xs.length m] 26)) w.heap.size 26 (.int .i64 r) (.int .i64 c) (.slice a xs.length m)) := Blk3.at_ _ _ _ _ rfl
  have B0 : Hid (Below w.heap.size w (w.alloc (.cells #[.int .i64 r, .int .i64 c, .slice a xs.length m] 26))) := (Below.refl _ _).alloc (Nat.le_refl _) _
  have S0 : Hid ((w.alloc (.cells #[.int .i64 r, .int .i64 c, .slice a xs.length m] 26)).heap.size = w.heap.size + 1) := by show _ = _; simp
  rcases Bool.eq_false_or_eq_true (ivX r c p xs).ok with hk | hk
  · obtain ⟨n, rfl, rfl, hn12, hp, hx, -, -, e1, hl, hcan⟩ := ivX_says hk
    have SY : Hid (bs.length = n → nums bs = true → svX n n p xs bs = (solL p n (ivL p n xs) bs, true)) := fun h1 h2 => by
      show _ = _
      rw [svX_yes rfl hk h1 h2, e1]
    have SN : Hid (bs.length ≠ n ∨ nums bs = false → svX n n p xs bs = ([], false)) := fun h => svX_no (.inr (h.imp (fun h => by omega) id))
    rw [e1] at IV
    obtain ⟨pp, hp2⟩ := prmB_says hp
    have hp1 := pp.1
    have np : ¬ p = 0 := by omega
    have HC := Lib.hid hcan
    have HL := Lib.hid hl
    have HB := Lib.hid hb
    generalize ivL p n xs = vs at IV SY HC HL hl
    generalize svX n n p xs bs = RES at SY SN ⊢
    generalize xs.length = L at IV K0 B0 S0 ⊢
    obtain ⟨Lb, hLb⟩ : ∃ Lb, bs.length = Lb := ⟨_, rfl⟩
    have HLb := Lib.hid hLb
    rw [hLb] at SY SN hbn ⊢
    clear h hn ha hb hk hp hx e1 hl hcan pp hLb
    go_enter Try.func38, Try.ntmps38
    go_wp2_with fail
    refine (IV.out _ B0.out).mono ?_
    rintro e w1 ⟨v, rfl, own, hb1⟩
    obtain ⟨q, cap, rfl, hq, -⟩ := own.form
    have s0 := S0.out
    have s1 := hb1.size
    have Bx := B0.out.trans (hb1.mono (by omega))
    dsimp only at hq ⊢
    rw [HL.out]
    have B2 := Lib.hid (Bx.alloc Bx.size (.cells #[.int .i64 n, .int .i64 n, .slice q (n * n) cap] 26))
    have Q2 := Lib.hid (hq.below ((Below.refl _ _).alloc (Nat.le_refl _) (.cells #[.int .i64 n, .int .i64 n, .slice q (n * n) cap] 26)))
    have A2 : Hid (Blk3 (w1.alloc (.cells #[.int .i64 n, .int .i64 n, .slice q (n * n) cap] 26)) w1.heap.size 26 (.int .i64 n) (.int .i64 n) (.slice q (n * n) cap)) := Blk3.at_ _ _ _ _ rfl
    have K2 := Lib.hid ((K0.out.step hb1).old (.cells #[.int .i64 n, .int .i64 n, .slice q (n * n) cap] 26))
    clear hb1 own Bx hq K0 B0 S0 IV
    go_upto_region 2 with fail
    generalize w1.alloc (.cells #[.int .i64 n, .int .i64 n, .slice q (n * n) cap] 26) = W at B2 Q2 A2 K2 ⊢
    obtain ⟨b8, hb8⟩ : ∃ b8, w1.heap.size = b8 := ⟨_, rfl⟩
    rw [hb8] at A2 ⊢
    clear hb8 s0 s1 w1
    obtain ⟨p0, p1, p2, -, -, -⟩ := K2.out.all
    by_cases hlb : Lb = n
    · have n1 : ((Lb : Int) != (n : Int)) = false := by simp [hlb]
      have SY : Hid (nums bs = true → RES = (solL p n vs bs, true)) := SY.out hlb
      have SN : Hid (nums bs = false → RES = ([], false)) := fun h => SN.out (.inr h)
      have HLn : Hid (bs.length = n) := by show _ = _; rw [HLb.out, hlb]
      obtain ⟨N, hN⟩ : ∃ N, n * n = N := ⟨_, rfl⟩
      have HN := Lib.hid hN
      have lN : N ≤ 144 := by rw [← hN]; exact Nat.mul_le_mul hn12 hn12
      have IY : Hid (∀ i j, i < n → j < n → ∃ P : Nat, i * n + j = P ∧ P < N ∧ IntKind.i64.wrap ((i : Int) * (n : Int)) = (i : Int) * (n : Int) ∧ IntKind.i64.wrap ((i : Int) * (n : Int) + (j : Int)) = (P : Int)) := fun i j hi hj => by
        have h1 : i * n + j < n * n := idx_lt hi hj
        have c1 : (i : Int) * (n : Int) = ((i * n : Nat) : Int) := (Int.natCast_mul _ _).symm
        refine ⟨i * n + j, rfl, by omega, IntWalk.i64_in _ (by rw [c1]; omega), ?_⟩
        rw [show (i : Int) * (n : Int) + (j : Int) = ((i * n + j : Nat) : Int) by rw [c1]; omega]
        exact IntWalk.i64_in _ (by omega)
      rw [hN] at A2 ⊢
      have HBW := Lib.hid (HB.out.below B2.out)
      clear hN
      go_upto_region 5 with fail
      have ST0 : Hid (Below W.heap.size W (W.alloc (.cells #[] 3)) ∧ OwnQ W.heap.size (W.alloc (.cells #[] 3)) (.slice (some ⟨W.heap.size, 0, none⟩) (svUp p n vs bs 0).length 0) (svUp p n vs bs 0)) := ⟨(Below.refl _ _).alloc (Nat.le_refl _) _, OwnQ.none_ (Nat.le_refl _) ⟨Nat.zero_le _, [], rfl, heap_alloc_new W _⟩⟩
      generalize W.alloc (.cells #[] 3) = W3 at ST0 ⊢
      rw [svUp_length] at ST0
      have LW := B2.out.size
      have lbW := A2.out.lt
      have lkW := K2.out.lt
      clear p0 p1 p2 hlb
      go_wp2_with fail
      go_loopw [6, 7, 10, 11, 12, 13] (fun _ _ v10 v11 _ _ wr => ∃ (i : Nat) (qo : Option Addr) (qc : Nat), v10 = .slice qo i qc ∧ v11 = .int .i64 i ∧ i ≤ n ∧ (0 < i → nums bs = true) ∧ Below W.heap.size W wr ∧ OwnQ W.heap.size wr (.slice qo i qc) (svUp p n vs bs i)) (fun _ _ _ v11 _ _ _ => n - (intOf v11).toNat)
      case atStart => exact ⟨0, _, _, rfl, rfl, by omega, fun h => absurd h (by omega), ST0.out.1, ST0.out.2⟩
      case round =>
        clear ST0
        obtain ⟨i, qo, qc, rfl, rfl, hi, hnb, hbw, hoq⟩ := hrel
        have NB := Lib.hid hnb
        have BW := Lib.hid hbw
        have OQ := Lib.hid hoq
        clear hnb hbw hoq
        obtain ⟨k0, k1, k2, -, -, -⟩ := (K2.out.keep BW.out lkW).all
        by_cases hlt : i < n
        · go_wp2_with fail
          clear k0 k1 k2
          go_loopw [6, 7, 12, 13] (fun _ _ v12 v13 wr => ∃ j : Nat, v12 = .int .i64 (svF p n vs bs i j) ∧ v13 = .int .i64 j ∧ j ≤ n ∧ (∀ k, k < j → NumP (bs.getD k 0)) ∧ Below W.heap.size W wr ∧ OwnQ W.heap.size wr (.slice qo i qc) (svUp p n vs bs i)) (fun _ _ _ v13 _ => n - (intOf v13).toNat)
          case atStart => exact ⟨0, rfl, rfl, by omega, fun k hk => absurd hk (by omega), BW.out, OQ.out⟩
          case round =>
            clear BW OQ
            obtain ⟨j, rfl, rfl, hj, hnj, hbw, hoq⟩ := hrel
            have NJ := Lib.hid hnj
            have BW := Lib.hid hbw
            have OQ := Lib.hid hoq
            clear hnj hbw hoq
            obtain ⟨k0, k1, k2, -, -, -⟩ := (K2.out.keep BW.out lkW).all
            obtain ⟨a0, a1, a2, -, -, -⟩ := (A2.out.keep BW.out lbW).all
            by_cases hjl : j < n
            · obtain ⟨b1, o1, rfl, hc1⟩ := (HBW.out.below BW.out) j (by rw [HLn.out]; exact hjl)
              have NBD : Hid (¬ NumP (bs.getD j 0) → nums bs = false) := fun h => nums_bad (by rw [HLn.out]; exact hjl) h
              have SF := Lib.hid (svF_step p n vs bs i j)
              have s2 := svF_can (show 0 < p by omega) n vs bs i j
              obtain ⟨s, hs⟩ : ∃ s, svF p n vs bs i j = s := ⟨_, rfl⟩
              rw [hs] at SF s2 ⊢
              obtain ⟨x, hx⟩ : ∃ x, bs.getD j 0 = x := ⟨_, rfl⟩
              have X := Lib.hid hx
              rw [hx] at hc1 NBD SF
              have jl1 : (j : Int) < (Lb : Int) := by have := HLn.out; have := HLb.out; omega
              clear hs hx
              by_cases hxn : NumP x
              · obtain ⟨P, hP, hPN, u1, u2⟩ := IY.out i j hlt hjl
                have Pa : (0 : Int) ≤ (P : Int) := by omega
                have Pb : (P : Int) < (N : Int) := by omega
                obtain ⟨b2, o2, rfl, hc2⟩ := (Q2.out.below BW.out) P (by rw [HL.out, HN.out]; exact hPN)
                obtain ⟨z1, z2⟩ := HC.out P (by rw [HL.out, HN.out]; exact hPN)
                rw [hP] at SF
                generalize vs.getD P 0 = u at hc2 z1 z2 SF
                have m0 : 0 ≤ x % p ∧ x % p < p := ⟨Int.emod_nonneg _ (by omega), Int.emod_lt_of_pos _ (by omega)⟩
                obtain ⟨y, hy⟩ : ∃ y, x % p = y := ⟨_, rfl⟩
                have Y := Lib.hid hy
                rw [hy] at m0 SF
                obtain ⟨m3, m4⟩ := mul_bd z1 z2 m0.1 m0.2 hp2
                obtain ⟨o, ho⟩ : ∃ o, u * y = o := ⟨_, rfl⟩
                have v2 : IntKind.i64.wrap (u * y) = o := by rw [← ho]; exact IntWalk.i64_in _ (by omega)
                rw [ho] at m3 m4 SF
                obtain ⟨f, hf⟩ : ∃ f, s + o = f := ⟨_, rfl⟩
                have v3 : IntKind.i64.wrap (s + o) = f := by rw [← hf]; exact IntWalk.i64_in _ (by omega)
                rw [hf] at SF
                have e2 : Int.tmod f p = f % p := Int.tmod_eq_emod_of_nonneg (by omega)
                have MD : Hid (∀ w', Calls Try.prog 70 #[.int .i64 x, .int .i64 p] w' fun e w2 => e = .returned (.int .i64 y) ∧ w' = w2) := fun w' => by rw [← Y.out]; exact sMod x p w' (by omega) (by omega)
                have NJ2 : Hid (∀ k, k < j + 1 → NumP (bs.getD k 0)) := fun k hk => by
                  rcases Nat.lt_or_ge k j with h3 | h3
                  · exact NJ.out k h3
                  · obtain rfl : k = j := by omega
                    rw [X.out]; exact hxn
                clear hy ho hf hP
                go_wp2_with fail
                refine (sIsNum_t x _ hxn.1 hxn.2).mono ?_
                rintro e w5 ⟨rfl, rfl⟩
                go_wp2_with fail
                go_quiet ((refine (MD.out _).mono ?_; rintro e w' ⟨rfl, rfl⟩; exact ⟨rfl, _, rfl⟩))
                have BW := Lib.hid (below_drewN BW.out nq)
                have OQ := Lib.hid (OQ.out.drewN nq)
                go_wp2_with fail
                go_roundw
                case rel => exact ⟨j + 1, by rw [SF.out], by go_num, by omega, NJ2.out, BW.out, OQ.out⟩
                case measure => simp [intOf]; omega
              · have RX := Lib.hid (SN.out (NBD.out hxn))
                have hx' : x < -400000000 ∨ 400000000 < x := by unfold NumP at hxn; omega
                have BF : Hid (Below w.heap.size w wr) := B2.out.trans (BW.out.mono LW)
                clear hxn
                go_wp2_with fail
                refine (sIsNum_f x _ hx').mono ?_
                rintro e w5 ⟨rfl, rfl⟩
                go_wp2_with fail
                rw [RX.out]
                exact bodyPost_ret (v := .tuple #[.slice (some ⟨wr.heap.size, 0, none⟩) 0 0, .bool false]) (by simp [results, Try.results38, go_sem]) rfl ⟨_, rfl, own_empty _ BF.out.size, BF.out.alloc BF.out.size _⟩
            · obtain rfl : n = j := by omega
              have NB2 : Hid (nums bs = true) := nums_all fun k hk => NJ.out k (by rw [HLn.out] at hk; exact hk)
              have SU := Lib.hid (svUp_succ p n vs bs i)
              obtain ⟨z, hz⟩ : ∃ z, svF p n vs bs i n = z := ⟨_, rfl⟩
              rw [hz] at SU ⊢
              obtain ⟨fi, hfi, hz0, hz1, hz2⟩ := facts_int
              have HO : Hid ((wr.alloc (.cells #[.int .i64 z] 3)).ownsRow W.heap.size 3 1 (.slice qo i qc) i ((svUp p n vs bs i).map (Value.int .i64))) := by
                have h1 := OQ.out.keep ((Below.refl _ _).alloc (Nat.le_refl _) (.cells #[.int .i64 z] 3))
                unfold OwnQ at h1
                rw [svUp_length] at h1
                exact h1
              have le := BW.out.size
              clear hz
              go_wp2_with (at_builtin; refine wpList_append_own_at _ rfl _ _ 24 rfl W.heap.size 3 fi (.int .i64 0) 1 8 underlying_ints hfi hz0 hz1 hz2 rfl (by decide) _ _ _ rfl HO.out ⟨wr.heap.size, 0, none⟩ 1 1 [.int .i64 z] ?hx ?hl ?hnews ?h1 ?h63 ?hbytes ?hbase ?hnext)
              case hx => rfl
              case hl => rfl
              case hnews => exact cell_one_new _ _ _
              case h1 => intro v hv; simp at hv; subst hv; rfl
              case h63 => unfold maxLen; omega
              case hbytes => omega
              case hbase => simp; omega
              case hnext =>
                rintro v' w7 ho hg7 - -
                have O7 : OwnQ W.heap.size w7 v' (svUp p n vs bs (i + 1)) := by
                  unfold OwnQ
                  rw [SU.out, List.map_append, List.length_append, svUp_length]
                  exact ho
                have B7 : Below W.heap.size W w7 := (BW.out.alloc BW.out.size _).grown hg7 (by have := BW.out.size; simp; omega) (fun k e => OQ.out.le (by exact e))
                obtain ⟨q', qc', rfl⟩ := O7.form
                rw [svUp_length] at O7 ⊢
                have O8 := Lib.hid O7
                have B8 := Lib.hid B7
                clear O7 B7 ho hg7
                go_wp2_with fail
                go_roundw
                case rel => exact ⟨i + 1, q', qc', rfl, by go_num, by omega, fun _ => NB2.out, B8.out, O8.out⟩
                case measure => simp [intOf]; omega
        · obtain rfl : n = i := by omega
          have NB2 : Hid (nums bs = true) := by
            rcases Nat.eq_zero_or_pos n with h0 | h0
            · exact nums_all fun k hk => by rw [HLn.out] at hk; omega
            · exact NB.out h0
          have RX := Lib.hid (SY.out NB2.out)
          have BF : Hid (Below w.heap.size w wr) := B2.out.trans (BW.out.mono LW)
          go_wp2_with fail
          rw [RX.out]
          refine bodyPost_ret (v := .tuple #[.slice qo n qc, .bool true]) (by simp [results, Try.results38, go_sem]) rfl ⟨_, rfl, ?_, BF.out⟩
          exact (OQ.out.lower LW).own (by rw [svUp_length]; omega)
    · have n1 : ((Lb : Int) != (n : Int)) = true := by simp; omega
      have RX := Lib.hid (SN.out (.inl hlb))
      go_wp2_with fail
      rw [RX.out]
      exact bodyPost_ret (v := .tuple #[.slice (some ⟨W.heap.size, 0, none⟩) 0 0, .bool false]) (by simp [results, Try.results38, go_sem]) rfl ⟨_, rfl, own_empty _ B2.out.size, B2.out.alloc B2.out.size _⟩
  · have RX : Hid (svX r c p xs bs = ([], false)) := svX_no (.inl hk)
    generalize ivX r c p xs = MRx at IV hk
    generalize xs.length = L at IV K0 B0 S0 ⊢
    clear h hn ha hb hbn
    go_enter Try.func38, Try.ntmps38
    go_wp2_with fail
    refine (IV.out _ B0.out).mono ?_
    rintro e w1 ⟨v, rfl, own, hb1⟩
    obtain ⟨q, cap, rfl, hq, -⟩ := own.form
    have s0 := S0.out
    have s1 := hb1.size
    have Bx := B0.out.trans (hb1.mono (by omega))
    have B2 := Lib.hid (Bx.alloc Bx.size (.cells #[.int .i64 MRx.r, .int .i64 MRx.c, .slice q MRx.zs.length cap] 26))
    rw [hk]
    have SW : Hid ((w1.alloc (.cells #[.int .i64 MRx.r, .int .i64 MRx.c, .slice q MRx.zs.length cap] 26)).heap.size = w1.heap.size + 1) := by show _ = _; simp
    clear hb1 own Bx hq K0 B0 S0 IV
    go_upto_region 2 with fail
    generalize w1.alloc (.cells #[.int .i64 MRx.r, .int .i64 MRx.c, .slice q MRx.zs.length cap] 26) = W at B2 SW ⊢
    clear s0 s1
    go_wp2_with fail
    rw [RX.out]
    exact bodyPost_ret (v := .tuple #[.slice (some ⟨W.heap.size, 0, none⟩) 0 0, .bool false]) (by simp [results, Try.results38, go_sem]) rfl ⟨_, rfl, own_empty _ B2.out.size, B2.out.alloc B2.out.size _⟩
end Go.Proofs.Ytncplikadacjnaa
end

section
/-
  Chapter 8, in the program: SolveMod.
-/
namespace Go.Proofs.Ytncplikadacjnaa
set_option maxRecDepth 100000
open Go.RowKit

theorem isMat_col {L : Nat} {bs : List Int} (hL : L ≤ 24) (hl : bs.length = L) (hn : nums bs = true) : isMat L 1 bs = true := by
  have h1 : (bs.length : Int) = (L : Int) * 1 := by omega
  unfold isMat
  simp only [Bool.and_eq_true, decide_eq_true_eq]
  exact ⟨⟨⟨⟨by omega, by omega⟩, ⟨by decide, by decide⟩⟩, h1⟩, hn⟩
set_option maxHeartbeats 4000000 in
theorem iSv (r c p : Int) (a : Option Addr) (m : Nat) (xs : List Int) (ab : Option Addr) (mb : Nat) (bs : List Int) (w : World) (h : Rd w a xs) (hn : xs.length ≤ 16777216) (hb : Rd w ab bs) (hbn : bs.length ≤ 16777216) :
    Calls Try.prog 22 #[.agg #[.int .i64 r, .int .i64 c, .slice a xs.length m], .slice ab bs.length mb, .int .i64 p] w (LisRes (svX r c p xs bs).1 (svX r c p xs bs).2 w) := by
  have IV : Hid (∀ w', Below w.heap.size w w' → Calls Try.prog 20 #[.agg #[.int .i64 r, .int .i64 c, .slice a xs.length m], .int .i64 p] w' (MatRes (ivX r c p xs) w')) := fun w' hb => iIvx r c p a m xs w' (h.below hb) hn
  have K0 : Hid (Blk3 (w.alloc (.cells #[.int .i64 r, .int .i64 c, .slice a xs.length m] 26)) w.heap.size 26 (.int .i64 r) (.int .i64 c) (.slice a xs.length m)) := Blk3.at_ _ _ _ _ rfl
  have B0 : Hid (Below w.heap.size w (w.alloc (.cells #[.int .i64 r, .int .i64 c, .slice a xs.length m] 26))) := (Below.refl _ _).alloc (Nat.le_refl _) _
  have S0 : Hid ((w.alloc (.cells #[.int .i64 r, .int .i64 c, .slice a xs.length m] 26)).heap.size = w.heap.size + 1) := by show _ = _; simp
  have RD : Hid (∀ w', Below w.heap.size w w' → Calls Try.prog 23 #[.agg #[.int .i64 (bs.length : Int), .int .i64 1, .slice ab bs.length mb], .int .i64 p] w' (MatRes (redM (bs.length : Int) 1 p bs) w')) := fun w' hb' => iRed (bs.length : Int) 1 p ab mb bs w' (hb.below hb') hbn
  obtain ⟨Lb, hLb⟩ : ∃ Lb, bs.length = Lb := ⟨_, rfl⟩
  have HLb := Lib.hid hLb
  rw [hLb] at RD hbn ⊢
  rcases Bool.eq_false_or_eq_true (ivX r c p xs).ok with hk | hk
  · obtain ⟨n, rfl, rfl, hn12, hp, hx, -, -, e1, hl, hcan⟩ := ivX_says hk
    have SY : Hid (Lb = n → nums bs = true → svX n n p xs bs = (solL p n (ivL p n xs) bs, true)) := fun h1 h2 => by
      show _ = _
      rw [svX_yes rfl hk (by rw [hLb, h1]) h2, e1]
    have SN : Hid (Lb ≠ n ∨ nums bs = false → svX n n p xs bs = ([], false)) := fun h => svX_no (.inr (h.imp (fun h => by omega) id))
    rw [e1] at IV
    obtain ⟨pp, hp2⟩ := prmB_says hp
    have hp1 := pp.1
    have np : ¬ p = 0 := by omega
    have HC := Lib.hid hcan
    have HL := Lib.hid hl
    have RNO : Hid ((isMat Lb 1 bs && prmB p) = false → redM Lb 1 p bs = MR.no) := fun h => (rkM_no h).2.1
    have RYES : Hid ((isMat Lb 1 bs && prmB p) = true → redM Lb 1 p bs = ⟨true, Lb, 1, resL p bs⟩) := fun h => by show _ = _; unfold redM; rw [if_pos h]
    have RN2 : Hid ((isMat Lb 1 bs && prmB p) = false → Lb ≠ n ∨ nums bs = false) := fun h => by
      by_cases e : Lb = n
      · right
        cases hb : nums bs with
        | false => rfl
        | true =>
          rw [hp, Bool.and_true, isMat_col (by omega) hLb hb] at h
          cases h
      · exact .inl e
    have RN3 : Hid ((isMat Lb 1 bs && prmB p) = true → nums bs = true) := fun h => by
      rw [Bool.and_eq_true] at h
      exact (isMat_says h.1).2.2.2
    generalize (isMat (Lb : Int) 1 bs && prmB p) = rok at RNO RYES RN2 RN3
    generalize ivL p n xs = vs at IV SY HC HL hl
    generalize svX n n p xs bs = RES at SY SN ⊢
    generalize xs.length = L at IV K0 B0 S0 ⊢
    generalize redM (Lb : Int) 1 p bs = RM at RD RNO RYES
    clear h hn hb hk hp hx e1 hl hcan pp hLb
    go_enter Try.func22, Try.ntmps22
    go_wp2_with fail
    refine (IV.out _ B0.out).mono ?_
    rintro e w1 ⟨v, rfl, own, hb1⟩
    obtain ⟨q, cap, rfl, hq, -⟩ := own.form
    have s0 := S0.out
    have s1 := hb1.size
    have Bx := B0.out.trans (hb1.mono (by omega))
    dsimp only at hq ⊢
    rw [HL.out]
    have QS := Lib.hid own.elim.2
    obtain ⟨-, hc1, hc2⟩ := own.celQ
    rw [HL.out] at hc1
    have QC := Lib.hid hc1
    have QN := Lib.hid hc2
    have B2 := Lib.hid (Bx.alloc Bx.size (.cells #[.int .i64 n, .int .i64 n, .slice q (n * n) cap] 26))
    have Q2 := Lib.hid (hq.below ((Below.refl _ _).alloc (Nat.le_refl _) (.cells #[.int .i64 n, .int .i64 n, .slice q (n * n) cap] 26)))
    have A2 : Hid (Blk3 (w1.alloc (.cells #[.int .i64 n, .int .i64 n, .slice q (n * n) cap] 26)) w1.heap.size 26 (.int .i64 n) (.int .i64 n) (.slice q (n * n) cap)) := Blk3.at_ _ _ _ _ rfl
    have K2 := Lib.hid ((K0.out.step hb1).old (.cells #[.int .i64 n, .int .i64 n, .slice q (n * n) cap] 26))
    clear hb1 own Bx hq K0 B0 S0 IV hc1 hc2
    go_upto_region 2 with fail
    generalize w1.alloc (.cells #[.int .i64 n, .int .i64 n, .slice q (n * n) cap] 26) = W at B2 Q2 A2 K2 ⊢
    obtain ⟨b8, hb8⟩ : ∃ b8, w1.heap.size = b8 := ⟨_, rfl⟩
    rw [hb8] at A2 ⊢
    clear hb8 s0 s1 w1
    go_wp2_with fail
    refine (RD.out _ B2.out).mono ?_
    rintro e w4 ⟨v4, rfl, own4, hb4⟩
    obtain ⟨q4, cap4, rfl, hq4, -⟩ := own4.form
    have lb8 := A2.out.lt
    have lk8 := K2.out.lt
    have Bx := B2.out.trans (hb4.mono B2.out.size)
    have B5 := Lib.hid (Bx.alloc Bx.size (.cells #[.int .i64 RM.r, .int .i64 RM.c, .slice q4 RM.zs.length cap4] 26))
    have Q5 := Lib.hid ((Q2.out.below hb4).below ((Below.refl _ _).alloc (Nat.le_refl _) (.cells #[.int .i64 RM.r, .int .i64 RM.c, .slice q4 RM.zs.length cap4] 26)))
    have C5 := Lib.hid (hq4.below ((Below.refl _ _).alloc (Nat.le_refl _) (.cells #[.int .i64 RM.r, .int .i64 RM.c, .slice q4 RM.zs.length cap4] 26)))
    have A5 := Lib.hid ((A2.out.step hb4).old (.cells #[.int .i64 RM.r, .int .i64 RM.c, .slice q4 RM.zs.length cap4] 26))
    have K5 := Lib.hid ((K2.out.step hb4).old (.cells #[.int .i64 RM.r, .int .i64 RM.c, .slice q4 RM.zs.length cap4] 26))
    have D5 : Hid (Blk3 (w4.alloc (.cells #[.int .i64 RM.r, .int .i64 RM.c, .slice q4 RM.zs.length cap4] 26)) w4.heap.size 26 (.int .i64 RM.r) (.int .i64 RM.c) (.slice q4 RM.zs.length cap4)) := Blk3.at_ _ _ _ _ rfl
    have s4 := hb4.size
    clear hb4 own4 Bx hq4 A2 K2 B2 Q2 RD
    go_upto_region 3 with fail
    generalize w4.alloc (.cells #[.int .i64 RM.r, .int .i64 RM.c, .slice q4 RM.zs.length cap4] 26) = W5 at B5 Q5 C5 A5 K5 D5 ⊢
    obtain ⟨b10, hb10⟩ : ∃ b10, w4.heap.size = b10 := ⟨_, rfl⟩
    rw [hb10] at D5 ⊢
    clear hb10 s4 lb8 lk8 w4
    obtain ⟨p0, p1, p2, -, -, -⟩ := K5.out.all
    cases rok with
    | false =>
      have RX := Lib.hid (SN.out (RN2.out rfl))
      have RE : RM = MR.no := RNO.out rfl
      subst RE
      have ok : MR.no.ok = false := rfl
      rw [ok]
      go_wp2_with fail
      rw [RX.out]
      exact bodyPost_ret (v := .tuple #[.slice none 0 0, .bool false]) (by simp [results, Try.results22, go_sem]) rfl ⟨_, rfl, .inl ⟨rfl, rfl⟩, B5.out⟩
    | true =>
      have RE : RM = ⟨true, Lb, 1, resL p bs⟩ := RYES.out rfl
      have NB := Lib.hid (RN3.out rfl)
      subst RE
      by_cases hlb : Lb = n
      · have n1 : ((Lb : Int) != (n : Int)) = false := by simp [hlb]
        have RX := Lib.hid (SY.out hlb NB.out)
        have HLn : Hid ((resL p bs).length = n) := by show _ = _; rw [resL_length, HLb.out, hlb]
        have LBn : Hid (Lb = n) := hlb
        dsimp only at D5 C5 ⊢
        rw [HLn.out] at D5 ⊢
        obtain ⟨N, hN⟩ : ∃ N, n * n = N := ⟨_, rfl⟩
        have HN := Lib.hid hN
        have lN : N ≤ 144 := by rw [← hN]; exact Nat.mul_le_mul hn12 hn12
        have DLN : Hid (∀ i, i < n → i * n + n ≤ N) := fun i hi => by rw [← HN.out, ← Nat.succ_mul]; exact Nat.mul_le_mul_right _ hi
        rw [hN] at A5 QC ⊢
        have hmk := makeInts Lb (by omega)
        have lk5 := K5.out.lt
        have la5 := A5.out.lt
        have ld5 := D5.out.lt
        have LW := B5.out.size
        have I6 : Hid (Ints (W5.alloc (.cells (madeCells #[.int .i64 0] Lb) 3)) W5.heap.size (svTo p n vs bs 0 0)) := by
          have := (IntsC.made (w := W5) Lb (by omega) rfl).ints
          rw [svTo_zero, ← LBn.out]
          exact this
        have E6 : Hid (Below W5.heap.size W5 (W5.alloc (.cells (madeCells #[.int .i64 0] Lb) 3))) := (Below.refl _ _).alloc (Nat.le_refl _) _
        clear hN hlb
        go_upto_region 6 with fail
        generalize W5.alloc (.cells (madeCells #[.int .i64 0] Lb) 3) = W6 at I6 E6 ⊢
        obtain ⟨g, hg⟩ : ∃ g, W5.heap.size = g := ⟨_, rfl⟩
        have LG : Hid (W5.heap.size = g) := hg
        rw [hg] at I6 E6 lk5 la5 ld5 LW ⊢
        have LGn : Hid (Lb = n) := LBn.out
        clear hmk hg p0 p1 p2
        have RW : Hid (∀ i, i < n → ∀ w', Calls Try.prog 55 #[.agg #[.int .i64 n, .int .i64 n, .slice q N cap], .int .i64 i] w' (RowAt q (i * n) n w')) := fun i hi w' => iRowIn n n i (i * n) N cap q w' QS.out rfl (DLN.out i hi) QC.out QN.out (by omega) (by omega)
        rw [LGn.out] at ⊢
        go_wp2_with fail
        go_loopw [13, 14, 15, 49] (fun _ _ _ v49 wr => ∃ i : Nat, v49 = .int .i64 i ∧ i ≤ n ∧ Ints wr g (svTo p n vs bs i 0) ∧ W6.grownBy wr (some g)) (fun _ _ _ v49 _ => n - (intOf v49).toNat)
        case atStart => exact ⟨0, rfl, by omega, I6.out, World.grownBy.refl _ _⟩
        case round =>
          clear I6
          obtain ⟨i, rfl, hi, hI, hgr⟩ := hrel
          have I := Lib.hid hI
          have G := Lib.hid hgr
          clear hI hgr
          by_cases hlt : i < n
          · have A7 := Lib.hid ((A5.out.keep E6.out la5).keepOne G.out (by omega))
            obtain ⟨a0, a1, a2, -, -, -⟩ := A7.out.all
            go_wp2_with fail
            refine (RW.out i hlt _).mono ?_
            rintro e w7 ⟨q7, m7, rfl, hm7, hq7, -, hb7⟩
            have I7 := Lib.hid (I.out.keep hb7 I.out.lt)
            have G7 := Lib.hid (G.out.trans (grown_of_below hb7 (some g)))
            clear hb7 a0 a1 a2
            have SRC : Hid (∀ wx, W6.grownBy wx (some g) → Rd wx q7 (rwL n (mxC n vs i))) := fun wx hgx => by
              have h0 : 0 < N := by have := DLN.out i hlt; omega
              have h1 : Rd wx q vs := (Q5.out.below (by rw [LG.out]; exact E6.out)).one hgx (fun b o e e2 => by
                subst e2
                obtain ⟨b', o', e', hc'⟩ := Q5.out 0 (by rw [HL.out, HN.out]; exact h0)
                rw [e] at e'
                injection e' with e'
                injection e' with e' _
                subst e'
                have := World.block_lt_of_cell? W5 _ hc'
                simp at this
                have := LG.out
                omega)
              exact h1.row HL.out hlt (fun g' o' e _ => hq7 g' o' e (by omega))
            have COL : Hid (∀ wx, W6.grownBy wx (some g) → Rd wx q4 (resL p bs)) := fun wx hgx =>
              (C5.out.below (by rw [LG.out]; exact E6.out)).one hgx (fun b o e e2 => by
                subst e2
                obtain ⟨b', o', e', hc'⟩ := C5.out 0 (by show 0 < (resL p bs).length; rw [HLn.out]; omega)
                rw [e] at e'
                injection e' with e'
                injection e' with e' _
                subst e'
                have := World.block_lt_of_cell? W5 _ hc'
                simp at this
                have := LG.out
                omega)
            clear hq7 A7
            go_wp2_with fail
            go_loopw [14, 15, 56] (fun _ _ v56 wr => ∃ j : Nat, v56 = .int .i64 j ∧ j ≤ n ∧ Ints wr g (svTo p n vs bs i j) ∧ W6.grownBy wr (some g)) (fun _ _ v56 _ => n - (intOf v56).toNat)
            case atStart => exact ⟨0, rfl, by omega, I7.out, G7.out⟩
            case round =>
              clear I G I7 G7
              obtain ⟨j, rfl, hj, hI, hgr⟩ := hrel
              have I := Lib.hid hI
              have G := Lib.hid hgr
              clear hI hgr
              by_cases hjl : j < n
              · have D7 := Lib.hid ((D5.out.keep E6.out ld5).keepOne G.out (by omega))
                obtain ⟨d0, d1, d2, -, -, -⟩ := D7.out.all
                obtain ⟨b1, o1, rfl, hc1⟩ := SRC.out _ G.out j (by rw [rwL_length]; exact hjl)
                rw [rwL_at hjl] at hc1
                obtain ⟨b2, o2, rfl, hc2⟩ := COL.out _ G.out j (by rw [HLn.out]; exact hjl)
                rw [resL_at] at hc2
                have hold := I.out.cell (i := i) (by rw [svTo_length]; exact hlt)
                have hfr := I.out.free i
                rw [svTo_at hlt] at hold
                have ST := Lib.hid (svTo_set (p := p) (n := n) (vs := vs) (bs := bs) (i := i) (j := j))
                have SF := svF_step p n vs bs i j
                have s2 := svF_can (show 0 < p by omega) n vs bs i j
                obtain ⟨s, hs⟩ : ∃ s, svF p n vs bs i j = s := ⟨_, rfl⟩
                rw [hs] at SF s2 hold
                obtain ⟨z1, z2⟩ := HC.out (i * n + j) (by rw [HL.out]; exact idx_lt hlt hjl)
                rw [show mxC n vs i j = vs.getD (i * n + j) 0 from rfl] at hc1
                generalize vs.getD (i * n + j) 0 = u at hc1 z1 z2 SF
                have m0 : 0 ≤ bs.getD j 0 % p ∧ bs.getD j 0 % p < p := ⟨Int.emod_nonneg _ (by omega), Int.emod_lt_of_pos _ (by omega)⟩
                generalize bs.getD j 0 % p = y at hc2 m0 SF
                obtain ⟨m3, m4⟩ := mul_bd z1 z2 m0.1 m0.2 hp2
                obtain ⟨o, ho⟩ : ∃ o, u * y = o := ⟨_, rfl⟩
                have v2 : IntKind.i64.wrap (u * y) = o := by rw [← ho]; exact IntWalk.i64_in _ (by omega)
                rw [ho] at m3 m4 SF
                obtain ⟨f, hf⟩ : ∃ f, s + o = f := ⟨_, rfl⟩
                have v3 : IntKind.i64.wrap (s + o) = f := by rw [← hf]; exact IntWalk.i64_in _ (by omega)
                rw [hf] at SF
                have e2 : Int.tmod f p = f % p := Int.tmod_eq_emod_of_nonneg (by omega)
                have IS : Hid (Ints (wr.drew.setCell ⟨g, i, none⟩ (.int .i64 (f % p))) g (svTo p n vs bs i (j + 1))) := by
                  have := I.out.drew.set i (f % p)
                  rw [← SF, ST.out] at this
                  rw [← SF]
                  exact this
                have GS := Lib.hid (grown_set_one (a := ⟨g, i, none⟩) (grown_drew_one G.out) rfl (.int .i64 (f % p)))
                clear ho hf hs SF
                go_wp2_with fail
                go_still_tail 17, (by kernel_rfl)
                go_wp2_with fail
                go_roundw
                case rel => exact ⟨j + 1, by go_num, by omega, IS.out, GS.out⟩
                case measure => simp [intOf]; omega
              · obtain rfl : n = j := by omega
                have RR : Hid (svTo p n vs bs i n = svTo p n vs bs (i + 1) 0) := svTo_row
                rw [RR.out] at I
                clear hjl
                go_wp2_with fail
                go_roundw
                case rel => exact ⟨i + 1, by go_num, by omega, I.out, G.out⟩
                case measure => simp [intOf]; omega
          · obtain rfl : n = i := by omega
            have BF : Hid (Below w.heap.size w wr) := (B5.out.trans ((by rw [LG.out]; exact E6.out : Below W5.heap.size W5 W6).mono (by rw [LG.out]; exact LW))).trans (below_of_one G.out LW (by have := E6.out.size; have := LG.out; omega))
            have LS : (svTo p n vs bs n 0).length = n := svTo_length _ _ _ _ _ _
            have SA : Hid (svTo p n vs bs n 0 = solL p n vs bs) := svTo_all _ _ _ _
            go_wp2_with fail
            rw [RX.out]
            refine bodyPost_ret (v := .tuple #[.slice (some ⟨g, 0, none⟩) n n, .bool true]) (by simp [results, Try.results22, go_sem]) rfl ⟨_, rfl, ?_, BF.out⟩
            show Own w.heap.size wr _ (solL p n vs bs)
            rw [← SA.out]
            exact .inr ⟨g, n, by rw [LS], LW, I.out, by rw [LS]; exact Nat.le_refl _, by rw [LS]; omega⟩
      · have n1 : ((Lb : Int) != (n : Int)) = true := by simp; omega
        have RX := Lib.hid (SN.out (.inl hlb))
        go_wp2_with fail
        rw [RX.out]
        exact bodyPost_ret (v := .tuple #[.slice none 0 0, .bool false]) (by simp [results, Try.results22, go_sem]) rfl ⟨_, rfl, .inl ⟨rfl, rfl⟩, B5.out⟩
  · have RX : Hid (svX r c p xs bs = ([], false)) := svX_no (.inl hk)
    generalize ivX r c p xs = MRx at IV hk
    generalize redM (Lb : Int) 1 p bs = RM at RD
    generalize xs.length = L at IV K0 B0 S0 ⊢
    clear h hn hb hbn hLb
    go_enter Try.func22, Try.ntmps22
    go_wp2_with fail
    refine (IV.out _ B0.out).mono ?_
    rintro e w1 ⟨v, rfl, own, hb1⟩
    obtain ⟨q, cap, rfl, hq, -⟩ := own.form
    have s0 := S0.out
    have s1 := hb1.size
    have Bx := B0.out.trans (hb1.mono (by omega))
    have B2 := Lib.hid (Bx.alloc Bx.size (.cells #[.int .i64 MRx.r, .int .i64 MRx.c, .slice q MRx.zs.length cap] 26))
    rw [hk]
    clear hb1 own Bx hq K0 B0 S0 IV
    go_upto_region 2 with fail
    generalize w1.alloc (.cells #[.int .i64 MRx.r, .int .i64 MRx.c, .slice q MRx.zs.length cap] 26) = W at B2 ⊢
    clear s0 s1
    go_wp2_with fail
    refine (RD.out _ B2.out).mono ?_
    rintro e w4 ⟨v4, rfl, own4, hb4⟩
    obtain ⟨q4, cap4, rfl, hq4, -⟩ := own4.form
    have Bx := B2.out.trans (hb4.mono B2.out.size)
    have B5 := Lib.hid (Bx.alloc Bx.size (.cells #[.int .i64 RM.r, .int .i64 RM.c, .slice q4 RM.zs.length cap4] 26))
    clear hb4 own4 Bx hq4
    go_wp2_with fail
    rw [RX.out]
    exact bodyPost_ret (v := .tuple #[.slice none 0 0, .bool false]) (by simp [results, Try.results22, go_sem]) rfl ⟨_, rfl, .inl ⟨rfl, rfl⟩, B5.out⟩
end Go.Proofs.Ytncplikadacjnaa
end
