/-
  Texts of this seat, joined: ModV · NumMath · NumGcdS · NumGD · NumAbs · FrB · Stp · Row2 · Row2n · RdCells · Row3 · MatNew · SolM · RatMath · RatOpM
-/
import Derived.WalkKit
import Derived.Test.YtcapddcmnjeloaaRows
import Derived.BigQuiet
import Derived.Deep.QuietTactic
import Derived.Lib.Hide
import Derived.Maps.AppendAt
import Derived.OwnWalk
import Derived.Deep.RegionHeld3
import Derived.Deep.DeepCutAuto
import Derived.Test.YtcapddcmnjeloaaPk1
import Derived.Test.YtcapddcmnjeloaaPk2

section
/-
  Plain mathematics of chapter 8: what ranks, determinants and inverses over residues are. Nothing of a program is used.
-/
namespace Go.Proofs.Ytcapddcmnjeloaa

/-- A reduced form with as many pivots as columns, and as many rows, is the unit matrix. -/
theorem inc_id {n : Nat} {q : Nat → Nat} (hc : ∀ k, k < n → q k < n) (hi : ∀ k l, k < l → l < n → q k < q l) : ∀ k, k < n → q k = k := by
  have low : ∀ k, k < n → k ≤ q k := by
    intro k
    induction k with
    | zero => intro _; exact Nat.zero_le _
    | succ k ih =>
      intro hk
      have h1 := ih (by omega)
      have h2 := hi k (k + 1) (by omega) hk
      omega
  have up : ∀ m k, k + m + 1 = n → q k ≤ k := by
    intro m
    induction m with
    | zero => intro k hk; have := hc k (by omega); omega
    | succ m ih =>
      intro k hk
      have h1 := ih (k + 1) (by omega)
      have h2 := hi k (k + 1) (by omega) (by omega)
      omega
  intro k hk
  have h1 := low k hk
  have h2 := up (n - k - 1) k (by omega)
  omega
theorem RefP.unit {n : Nat} {A : Mx} {q : Nat → Nat} (h : RefP n n A q n) {i j : Nat} (hi : i < n) (hj : j < n) : A i j = idX i j := by
  have e := inc_id h.col h.inc
  unfold idX
  by_cases hij : i = j
  · rw [if_pos hij]
    have := h.one j hj
    rw [e j hj] at this
    rw [hij]; exact this
  · rw [if_neg hij]
    have := h.only j i hj hi hij
    rw [e j hj] at this
    exact this
/-- The elimination of a matrix over the residues of p. -/
def elM (p : Int) (r c : Nat) (xs : List Int) : List Int × List Nat × Int := elP p r c c 0 (resL p xs) [] 1
theorem resL_length (p : Int) (xs : List Int) : (resL p xs).length = xs.length := List.length_map ..
theorem resL_cg {p : Int} {c : Nat} {xs : List Int} (i j : Nat) : Cg p (mxC c (resL p xs) i j) (mxC c xs i j) := by
  unfold mxC
  rw [resL_at]
  exact Cg.emod p _
/-- What it ends in. -/
theorem elM_says {p : Int} (hp : Prm p) {r c : Nat} {xs : List Int} (hx : xs.length = r * c) :
    RefP r c (mxC c (elM p r c xs).1) (fun k => (elM p r c xs).2.1.getD k 0) (elM p r c xs).2.1.length ∧ SubP p r r c (mxC c (elM p r c xs).1) (mxC c xs) ∧ SubP p r r c (mxC c xs) (mxC c (elM p r c xs).1) ∧ (0 ≤ (elM p r c xs).2.2 ∧ (elM p r c xs).2.2 < p) ∧ (r = c → Cg p (det r (mxC c xs)) ((elM p r c xs).2.2 * det r (mxC c (elM p r c xs).1))) := by
  have hp0 : 0 < p := by have := hp.1; omega
  have hr : (resL p xs).length = r * c := by rw [resL_length, hx]
  have st := PInv.start (p := p) (M := mxC c xs) hr (Nat.le_refl c) (fun i q hi hq => (resL_can hp0 xs).mx hr hi hq) (fun i q _ _ => resL_cg i q)
  obtain ⟨⟨j', h1, h2⟩, h3, h4⟩ := PInv.all hp hp.hasInv c 0 (resL p xs) [] 1 (by omega) st ⟨by decide, by have := hp.1; omega⟩
  refine ⟨h1.ref h2, h1.toM, h1.ofM, h3, fun hrc => ?_⟩
  subst hrc
  refine h4 rfl ?_
  unfold DInv
  rw [Int.one_mul]
  exact det_cg fun i j _ _ => (resL_cg i j).symm
/-- The determinant over the residues, and whether the rank is full. -/
theorem elM_det {p : Int} (hp : Prm p) {n : Nat} {xs : List Int} (hx : xs.length = n * n) :
    ((elM p n n xs).2.1.length < n ↔ det n (mxC n xs) % p = 0) ∧ (if (elM p n n xs).2.1.length < n then 0 else (elM p n n xs).2.2) = det n (mxC n xs) % p := by
  have hp0 : 0 < p := by have := hp.1; omega
  obtain ⟨h1, h2, h3, h4, h5⟩ := elM_says hp hx
  have h5 := h5 rfl
  generalize elM p n n xs = E at h1 h2 h3 h4 h5 ⊢
  by_cases hl : E.2.1.length < n
  · have e0 : Cg p (det n (mxC n E.1)) 0 := det_zero_row (i := E.2.1.length) hl fun j hj => Cg.of_eq (h1.rest _ j (Nat.le_refl _) hl hj)
    have e1 : Cg p (det n (mxC n xs)) 0 := h5.trans ((Cg.mul_left _ e0).trans (Cg.of_eq (Int.mul_zero _)))
    have e2 : det n (mxC n xs) % p = 0 := by rw [Cg.emod_eq hp0 e1]; exact Int.zero_emod p
    exact ⟨⟨fun _ => e2, fun _ => hl⟩, by rw [if_pos hl, e2]⟩
  · have hle := h1.le
    have en : E.2.1.length = n := by omega
    rw [en] at h1
    have eu : ∀ i j, i < n → j < n → mxC n E.1 i j = idX i j := fun i j hi hj => h1.unit hi hj
    have ed : det n (mxC n E.1) = 1 := by rw [det_congr (B := idX) eu, det_id]
    rw [ed, Int.mul_one] at h5
    have e1 : det n (mxC n xs) % p = E.2.2 := by
      rw [Cg.emod_eq hp0 h5]
      exact Int.emod_eq_of_lt h4.1 h4.2
    -- the unit matrix is a combination of the rows: the determinant is not 0
    have hK : ∀ i, ∃ k : Nat → Int, i < n → ∀ j, j < n → Cg p (mxC n E.1 i j) (sumN n fun a => k a * mxC n xs a j) := fun i => by
      by_cases hi : i < n
      · obtain ⟨k, hk⟩ := h2 i hi
        exact ⟨k, fun _ => hk⟩
      · exact ⟨fun _ => 0, fun h => absurd h hi⟩
    obtain ⟨K, hKK⟩ := Classical.skolem.mp hK
    have hI : InvX p n (mxC n xs) K := fun i j hi hj => (hKK i hi j hj).symm.trans (Cg.of_eq (eu i j hi hj))
    have hne := hI.ne hp
    refine ⟨⟨fun h => absurd h hl, fun h => absurd ?_ hne⟩, by rw [if_neg hl, e1]⟩
    exact Int.dvd_of_emod_eq_zero h
/-- The matrix with the unit matrix beside it. -/
def wideL (p : Int) (n : Nat) (xs : List Int) : List Int := tab n (2 * n) fun i j => if j < n then (resL p xs).getD (i * n + j) 0 else if j = n + i then 1 else 0
/-- The same, over the numbers. -/
def wideX (n : Nat) (M : Mx) : Mx := fun i j => if j < n then M i j else if j = n + i then 1 else 0
def elW (p : Int) (n : Nat) (xs : List Int) : List Int × List Nat × Int := elP p n (2 * n) n 0 (wideL p n xs) [] 1
def ivL (p : Int) (n : Nat) (xs : List Int) : List Int := tab n n fun i j => (elW p n xs).1.getD (i * (2 * n) + (n + j)) 0
theorem wideL_can {p : Int} (hp : Prm p) {n : Nat} {xs : List Int} (hx : xs.length = n * n) : CanL p (wideL p n xs) := CanL.of (tab_length _ _ _) fun i j hi hj => by
  have hp0 := hp.1
  show 0 ≤ (wideL p n xs).getD (i * (2 * n) + j) 0 ∧ (wideL p n xs).getD (i * (2 * n) + j) 0 < p
  unfold wideL
  rw [tab_at n (2 * n) _ hi hj]
  by_cases h1 : j < n
  · rw [if_pos h1]
    exact resL_can (by omega) xs _ (by rw [resL_length, hx]; exact idx_lt hi h1)
  · rw [if_neg h1]
    split <;> omega
theorem elW_says {p : Int} (hp : Prm p) {n : Nat} {xs : List Int} (hx : xs.length = n * n) :
    RefP n n (mxC (2 * n) (elW p n xs).1) (fun k => (elW p n xs).2.1.getD k 0) (elW p n xs).2.1.length ∧ SubP p n n (2 * n) (mxC (2 * n) (elW p n xs).1) (wideX n (mxC n xs)) ∧ SubP p n n (2 * n) (wideX n (mxC n xs)) (mxC (2 * n) (elW p n xs).1) ∧ (∀ i j, i < n → j < 2 * n → 0 ≤ mxC (2 * n) (elW p n xs).1 i j ∧ mxC (2 * n) (elW p n xs).1 i j < p) := by
  have hp0 : 0 < p := by have := hp.1; omega
  have hl : (wideL p n xs).length = n * (2 * n) := tab_length _ _ _
  have hM : ∀ i q, i < n → q < 2 * n → Cg p (mxC (2 * n) (wideL p n xs) i q) (wideX n (mxC n xs) i q) := fun i q hi hq => by
    have e : mxC (2 * n) (wideL p n xs) i q = if q < n then (resL p xs).getD (i * n + q) 0 else if q = n + i then 1 else 0 := tab_at n (2 * n) _ hi hq
    rw [e]
    unfold wideX
    split
    · exact resL_cg i q
    · exact Cg.refl _ _
  have st := PInv.start (p := p) (M := wideX n (mxC n xs)) hl (by omega : n ≤ 2 * n) (fun i q hi hq => (wideL_can hp hx).mx hl hi hq) hM
  obtain ⟨⟨j', h1, h2⟩, -, -⟩ := PInv.all hp hp.hasInv n 0 (wideL p n xs) [] 1 (by omega) st ⟨by decide, by have := hp.1; omega⟩
  exact ⟨h1.ref h2, h1.toM, h1.ofM, h1.can⟩
/-- There is an inverse exactly if the determinant is not 0, and it is what stands behind. -/
theorem elW_inv {p : Int} (hp : Prm p) {n : Nat} {xs : List Int} (hx : xs.length = n * n) :
    ((elW p n xs).2.1.length < n ↔ det n (mxC n xs) % p = 0) ∧ (¬ (elW p n xs).2.1.length < n → InvX p n (mxC n xs) (mxC n (ivL p n xs))) ∧ CanL p (ivL p n xs) ∧ (ivL p n xs).length = n * n := by
  have hp0 : 0 < p := by have := hp.1; omega
  obtain ⟨h1, h2, h3, h4⟩ := elW_says hp hx
  have at_ : ∀ i j, i < n → j < n → mxC n (ivL p n xs) i j = mxC (2 * n) (elW p n xs).1 i (n + j) := fun i j hi hj => tab_at n n _ hi hj
  have can : CanL p (ivL p n xs) := CanL.of (tab_length _ _ _) fun i j hi hj => by rw [at_ i j hi hj]; exact h4 i (n + j) hi (by omega)
  have inv : ¬ (elW p n xs).2.1.length < n → InvX p n (mxC n xs) (mxC n (ivL p n xs)) := fun hl i j hi hj => by
    have hle := h1.le
    have en : (elW p n xs).2.1.length = n := by omega
    rw [en] at h1
    obtain ⟨k, hk⟩ := h2 i hi
    have e1 : ∀ b, b < n → Cg p (mxC n (ivL p n xs) i b) (k b) := fun b hb => by
      rw [at_ i b hi hb]
      refine (hk (n + b) (by omega)).trans (Cg.of_eq ?_)
      rw [sumN_one (a := b) hb (fun a ha hne => by unfold wideX; rw [if_neg (by omega), if_neg (by omega), Int.mul_zero])]
      unfold wideX
      rw [if_neg (by omega), if_pos rfl, Int.mul_one]
    have e2 : Cg p (mxC (2 * n) (elW p n xs).1 i j) (sumN n fun a => k a * mxC n xs a j) := (hk j (by omega)).trans (Cg.of_eq (sumN_congr fun a _ => by unfold wideX; rw [if_pos hj]))
    rw [h1.unit hi hj] at e2
    exact (Cg.trans (Cg.sum fun a ha => (e1 a ha).mul (Cg.refl p _)) e2.symm)
  refine ⟨?_, inv, can, tab_length _ _ _⟩
  by_cases hl : (elW p n xs).2.1.length < n
  · refine ⟨fun _ => ?_, fun _ => hl⟩
    have hK : ∀ i, ∃ k : Nat → Int, i < n → ∀ j, j < 2 * n → Cg p (wideX n (mxC n xs) i j) (sumN n fun a => k a * mxC (2 * n) (elW p n xs).1 a j) := fun i => by
      by_cases hi : i < n
      · obtain ⟨k, hk⟩ := h3 i hi
        exact ⟨k, fun _ => hk⟩
      · exact ⟨fun _ => 0, fun h => absurd h hi⟩
    obtain ⟨K, hKK⟩ := Classical.skolem.mp hK
    have e1 : Cg p (det n (mxC n xs)) (det n (mulX n K (mxC (2 * n) (elW p n xs).1))) := det_cg fun i j hi hj => by
      have := hKK i hi j (by omega)
      unfold wideX at this
      rw [if_pos hj] at this
      exact this
    rw [det_mul] at e1
    have e0 : Cg p (det n (mxC (2 * n) (elW p n xs).1)) 0 := det_zero_row (i := (elW p n xs).2.1.length) hl fun j hj => Cg.of_eq (h1.rest _ j (Nat.le_refl _) hl hj)
    have e2 : Cg p (det n (mxC n xs)) 0 := e1.trans ((Cg.mul_left _ e0).trans (Cg.of_eq (Int.mul_zero _)))
    rw [Cg.emod_eq hp0 e2]
    exact Int.zero_emod p
  · exact ⟨fun h => absurd h hl, fun h => absurd (Int.dvd_of_emod_eq_zero h) ((inv hl).ne hp)⟩
/-- No other list of residues is an inverse. -/
theorem ivL_uniq {p : Int} {n : Nat} {xs us vs : List Int} (hu : us.length = n * n) (hv : vs.length = n * n) (cu : CanL p us) (cv : CanL p vs) (h : InvX p n (mxC n xs) (mxC n us)) (h' : InvX p n (mxC n xs) (mxC n vs)) : us = vs :=
  mx_ext hu hv fun i j hi hj => Cg.eq (cu.mx hu hi hj) (cv.mx hv hi hj) (h.uniq h' i j hi hj)
end Go.Proofs.Ytcapddcmnjeloaa
end

section
/-
  Plain mathematics of chapter 1: Euclid's steps on triples, their sizes, and what they lead to. Nothing of a program is imported.
-/
namespace Go.Proofs.Ytcapddcmnjeloaa

/-- Euclid's steps: (g, x, y) and (h, u, v), at most n of them. -/
def egN : Nat → Int → Int → Int → Int → Int → Int → Int × Int × Int
  | 0, g, x, y, _, _, _ => (g, x, y)
  | n + 1, g, x, y, h, u, v => if h = 0 then (g, x, y) else egN n h u v (g - g.tdiv h * h) (x - g.tdiv h * u) (y - g.tdiv h * v)

theorem rem_lt (g h : Int) (hh : h ≠ 0) : (g - g.tdiv h * h).natAbs < h.natAbs := by
  have e : g - g.tdiv h * h = g.tmod h := by have := Int.tdiv_mul_add_tmod g h; omega
  rw [e, Int.natAbs_tmod]
  exact Nat.mod_lt _ (by omega)

theorem egN_fuel : ∀ (n m : Nat) (g x y h u v : Int), h.natAbs ≤ n → h.natAbs ≤ m → egN n g x y h u v = egN m g x y h u v := by
  intro n
  induction n with
  | zero =>
    intro m g x y h u v hn _
    have h0 : h = 0 := by omega
    subst h0
    cases m <;> simp [egN]
  | succ n ih =>
    intro m g x y h u v hn hm
    by_cases h0 : h = 0
    · subst h0; cases m <;> simp [egN]
    · cases m with
      | zero => omega
      | succ m =>
        have := rem_lt g h h0
        simp only [egN, if_neg h0]
        exact ih m _ _ _ _ _ _ (by omega) (by omega)

/-- The steps to the end. -/
def eg (g x y h u v : Int) : Int × Int × Int := egN h.natAbs g x y h u v
theorem eg_end (g x y u v : Int) : eg g x y 0 u v = (g, x, y) := by simp [eg, egN]
theorem eg_step (g x y h u v : Int) (hh : h ≠ 0) : eg g x y h u v = eg h u v (g - g.tdiv h * h) (x - g.tdiv h * u) (y - g.tdiv h * v) := by
  have hl := rem_lt g h hh
  unfold eg
  obtain ⟨k, hk⟩ : ∃ k, h.natAbs = k + 1 := ⟨h.natAbs - 1, by omega⟩
  rw [hk]
  simp only [egN, if_neg hh]
  exact egN_fuel _ _ _ _ _ _ _ _ (by omega) (by omega)

/-- One column of the steps: the products g*u and h*x stand on two sides, and together they are c. -/
def Half (c g x h u : Int) : Prop := ∃ s : Int, (s = 1 ∨ s = -1) ∧ 0 ≤ s * (g * u) ∧ s * (h * x) ≤ 0 ∧ s * (g * u) - s * (h * x) = c

theorem between (k g m : Int) (h : 0 ≤ k * g) (hm : (0 ≤ m ∧ m ≤ g) ∨ (g ≤ m ∧ m ≤ 0)) : 0 ≤ k * m := by
  rcases Int.lt_trichotomy m 0 with h1 | h1 | h1
  · have hg : g < 0 := by omega
    have hk : k ≤ 0 := by
      rcases Int.lt_or_le 0 k with hp | hp
      · have := Int.mul_neg_of_pos_of_neg hp hg; omega
      · exact hp
    exact Int.mul_nonneg_of_nonpos_of_nonpos hk (by omega)
  · subst h1; simp
  · have hg : 0 < g := by omega
    have hk : 0 ≤ k := by
      rcases Int.lt_or_le k 0 with hp | hp
      · have := Int.mul_neg_of_neg_of_pos hp hg; omega
      · exact hp
    exact Int.mul_nonneg hk (by omega)

theorem tdiv_between (g h : Int) :
    ((0 ≤ g.tdiv h * h ∧ g.tdiv h * h ≤ g) ∨ (g ≤ g.tdiv h * h ∧ g.tdiv h * h ≤ 0)) ∧ ((0 ≤ g - g.tdiv h * h ∧ g - g.tdiv h * h ≤ g) ∨ (g ≤ g - g.tdiv h * h ∧ g - g.tdiv h * h ≤ 0)) := by
  have e := Int.tdiv_mul_add_tmod g h
  rcases Int.lt_or_le g 0 with hg | hg
  · have h1 : (-g).tmod h = - g.tmod h := Int.neg_tmod g h
    have h2 : 0 ≤ (-g).tmod h := Int.tmod_nonneg h (by omega)
    have h3 : (-g).tdiv h * h = - (g.tdiv h * h) := by rw [Int.neg_tdiv, Int.neg_mul]
    have h4 : (-g).tmod h ≤ -g := by
      have := Int.natAbs_tmod (-g) h
      have := Nat.mod_le (-g).natAbs h.natAbs
      omega
    omega
  · have h2 : 0 ≤ g.tmod h := Int.tmod_nonneg h hg
    have h4 : g.tmod h ≤ g := by
      have := Int.natAbs_tmod g h
      have := Nat.mod_le g.natAbs h.natAbs
      omega
    omega

theorem Half.step {c g x h u : Int} (hf : Half c g x h u) : Half c h u (g - g.tdiv h * h) (x - g.tdiv h * u) := by
  obtain ⟨s, hs, h1, h2, h3⟩ := hf
  obtain ⟨b1, b2⟩ := tdiv_between g h
  have k1 : 0 ≤ (s * u) * g := by have : (s * u) * g = s * (g * u) := by rw [Int.mul_assoc, Int.mul_comm u g]
                                  omega
  have m1 := between _ _ _ k1 b1
  have m2 := between _ _ _ k1 b2
  have e1 : -s * (h * (x - g.tdiv h * u)) = (s * u) * (g.tdiv h * h) - s * (h * x) := by
    simp only [Int.mul_sub, Int.neg_mul]
    have : s * (h * (g.tdiv h * u)) = s * u * (g.tdiv h * h) := by
      simp only [Int.mul_assoc, Int.mul_comm, Int.mul_left_comm]
    omega
  have e2 : -s * ((g - g.tdiv h * h) * u) = -((s * u) * (g - g.tdiv h * h)) := by
    rw [Int.neg_mul]; congr 1
    rw [Int.mul_assoc, Int.mul_comm u]
  have e3 : (s * u) * (g.tdiv h * h) + (s * u) * (g - g.tdiv h * h) = s * (g * u) := by
    rw [← Int.mul_add, show g.tdiv h * h + (g - g.tdiv h * h) = g from by omega, Int.mul_assoc, Int.mul_comm u]
  refine ⟨-s, by omega, ?_, ?_, ?_⟩
  · rw [e1]; omega
  · rw [e2]; omega
  · rw [e1, e2]; omega

theorem abs_le_of_mul (k x c : Int) (hk : k ≠ 0) (h1 : -c ≤ k * x) (h2 : k * x ≤ c) : -c ≤ x ∧ x ≤ c := by
  have e : (k * x).natAbs = k.natAbs * x.natAbs := Int.natAbs_mul k x
  have h3 : x.natAbs ≤ k.natAbs * x.natAbs := Nat.le_mul_of_pos_left _ (by omega)
  omega

/-- The sizes: as long as h is not 0, x is at most c. -/
theorem Half.small {c g x h u : Int} (hf : Half c g x h u) (hh : h ≠ 0) : -c ≤ x ∧ x ≤ c := by
  obtain ⟨s, hs, h1, h2, h3⟩ := hf
  refine abs_le_of_mul h x c hh ?_ ?_ <;> rcases hs with rfl | rfl <;> omega
theorem Half.small2 {c g x h u : Int} (hf : Half c g x h u) (hg : g ≠ 0) : -c ≤ u ∧ u ≤ c := by
  obtain ⟨s, hs, h1, h2, h3⟩ := hf
  refine abs_le_of_mul g u c hg ?_ ?_ <;> rcases hs with rfl | rfl <;> omega

theorem half_first (a b : Int) : Half (b.natAbs : Int) a 1 b 0 := by
  rcases Int.lt_or_le b 0 with hb | hb
  · exact ⟨1, .inl rfl, by simp, by omega, by omega⟩
  · exact ⟨-1, .inr rfl, by simp, by omega, by omega⟩
theorem half_second (a b : Int) : Half (a.natAbs : Int) a 0 b 1 := by
  rcases Int.lt_or_le a 0 with hb | hb
  · exact ⟨-1, .inr rfl, by omega, by simp, by omega⟩
  · exact ⟨1, .inl rfl, by omega, by simp, by omega⟩

/-- What holds of the numbers at each step. -/
structure Inv (a b g x y h u v : Int) : Prop where
  g0 : -400000000 ≤ g ∧ g ≤ 400000000
  h0 : -400000000 ≤ h ∧ h ≤ 400000000
  x0 : -400000000 ≤ x ∧ x ≤ 400000000
  y0 : -400000000 ≤ y ∧ y ≤ 400000000
  u0 : -400000000 ≤ u ∧ u ≤ 400000000
  v0 : -400000000 ≤ v ∧ v ≤ 400000000
  gc : a * x + b * y = g
  hc : a * u + b * v = h
  hx : Half (b.natAbs : Int) g x h u
  hy : Half (a.natAbs : Int) g y h v
  gd : Int.gcd g h = Int.gcd a b

theorem Inv.start (a b : Int) (ha : -400000000 ≤ a ∧ a ≤ 400000000) (hb : -400000000 ≤ b ∧ b ≤ 400000000) : Inv a b a 1 0 b 0 1 :=
  ⟨ha, hb, by omega, by omega, by omega, by omega, by omega, by omega, half_first a b, half_second a b, rfl⟩

theorem gcd_sub_mul (g h q : Int) : Int.gcd h (g - q * h) = Int.gcd g h := by
  rw [Int.gcd_comm g h, show g - q * h = g + h * (-q) from by rw [Int.mul_neg, Int.mul_comm h q]; omega]
  exact Int.gcd_add_mul_left_right h g (-q)

theorem Inv.step {a b g x y h u v : Int} (ha : -400000000 ≤ a ∧ a ≤ 400000000) (hb : -400000000 ≤ b ∧ b ≤ 400000000) (i : Inv a b g x y h u v) (hh : h ≠ 0) :
    Inv a b h u v (g - g.tdiv h * h) (x - g.tdiv h * u) (y - g.tdiv h * v) := by
  have hl := rem_lt g h hh
  have h0 := i.h0
  have kx := i.hx.step
  have ky := i.hy.step
  have bx := kx.small2 hh
  have by' := ky.small2 hh
  refine ⟨i.h0, by omega, i.u0, i.v0, by omega, by omega, i.hc, ?_, kx, ky, ?_⟩
  · have g1 := i.gc
    have h1 := i.hc
    rw [Int.mul_sub, Int.mul_sub]
    have e : ∀ q : Int, a * (q * u) + b * (q * v) = q * h := fun q => by
      rw [← h1, Int.mul_add, Int.mul_left_comm a, Int.mul_left_comm b]
    have e' := e (g.tdiv h)
    omega
  · rw [gcd_sub_mul]; exact i.gd

/-- What the walk needs of one step: no sum and no product is too large. -/
theorem Inv.fits {a b g x y h u v : Int} (ha : -400000000 ≤ a ∧ a ≤ 400000000) (hb : -400000000 ≤ b ∧ b ≤ 400000000) (i : Inv a b g x y h u v) (hh : h ≠ 0) :
    (-400000000 ≤ g.tdiv h ∧ g.tdiv h ≤ 400000000) ∧ (-800000000 ≤ g.tdiv h * h ∧ g.tdiv h * h ≤ 800000000) ∧ (-800000000 ≤ g.tdiv h * u ∧ g.tdiv h * u ≤ 800000000) ∧ (-800000000 ≤ g.tdiv h * v ∧ g.tdiv h * v ≤ 800000000) := by
  have j := i.step ha hb hh
  have g0 := i.g0; have x0 := i.x0; have y0 := i.y0; have h0 := i.h0
  have h1 := j.h0; have u1 := j.u0; have v1 := j.v0
  have q : (g.tdiv h).natAbs ≤ g.natAbs := by rw [Int.natAbs_tdiv]; exact Nat.div_le_self _ _
  refine ⟨by omega, by omega, by omega, by omega⟩

/-- The end: g is the greatest common divisor, but for its sign. -/
theorem Inv.last {a b g x y u v : Int} (i : Inv a b g x y 0 u v) : (g.natAbs : Int) = (Int.gcd a b : Int) := by
  have := i.gd
  rw [Int.gcd_zero_right] at this
  omega

/-! ### Remainders, quotients rounded down -/
theorem gcd_round (x y : Int) : Int.gcd y (x.tmod y) = Int.gcd x y := by
  rw [show x.tmod y = x - x.tdiv y * y from by have := Int.tdiv_mul_add_tmod x y; omega]
  exact gcd_sub_mul x y _
theorem tmod_small (x y : Int) (hy : y ≠ 0) : (x.tmod y).natAbs < y.natAbs := by
  rw [Int.natAbs_tmod]; exact Nat.mod_lt _ (by omega)

theorem ediv_of (n d q r : Int) (hd : 0 < d) (h : n = q * d + r) (h0 : 0 ≤ r) (h1 : r < d) : n / d = q ∧ n % d = r :=
  (Int.ediv_emod_unique hd).2 ⟨by rw [h, Int.mul_comm]; omega, h0, h1⟩
theorem tdiv_up (n d : Int) (hd : 0 < d) (h : 0 ≤ n.tmod d) : n / d = n.tdiv d ∧ n % d = n.tmod d := by
  have e := Int.tdiv_mul_add_tmod n d
  have l := tmod_small n d (by omega)
  exact ediv_of n d _ _ hd (by omega) h (by omega)
theorem tdiv_down (n d : Int) (hd : 0 < d) (h : n.tmod d < 0) : n / d = n.tdiv d - 1 ∧ n % d = n.tmod d + d := by
  have e := Int.tdiv_mul_add_tmod n d
  have l := tmod_small n d (by omega)
  exact ediv_of n d _ _ hd (by rw [Int.sub_mul]; omega) (by omega) (by omega)
theorem tdiv_bd (n d : Int) (h1 : -400000000 ≤ n) (h2 : n ≤ 400000000) : -400000000 ≤ n.tdiv d ∧ n.tdiv d ≤ 400000000 := by
  have q : (n.tdiv d).natAbs ≤ n.natAbs := by rw [Int.natAbs_tdiv]; exact Nat.div_le_self _ _
  omega
theorem ediv_bd (n d : Int) (hd : 0 < d) (h1 : -400000000 ≤ n) (h2 : n ≤ 400000000) : -400000001 ≤ n / d ∧ n / d ≤ 400000000 := by
  have b := tdiv_bd n d h1 h2
  rcases Int.lt_or_le (n.tmod d) 0 with h | h
  · have := (tdiv_down n d hd h).1; omega
  · have := (tdiv_up n d hd h).1; omega
theorem mul_ediv_bd (n d : Int) (hd : 0 < d) : n - d < d * (n / d) ∧ d * (n / d) ≤ n := by
  have e := Int.mul_ediv_add_emod n d
  have l := Int.emod_lt_of_pos n hd
  have l' := Int.emod_nonneg n (show d ≠ 0 by omega)
  omega

theorem iDiv_pos (n d : Int) (hd0 : d ≠ 0) (h : 0 ≤ n.tmod d) : n / d = n.tdiv d ∧ n % d = n.tmod d := by
  rcases Int.lt_or_le 0 d with hd | hd
  · exact tdiv_up n d hd h
  · obtain ⟨c, rfl⟩ : ∃ c, d = -c := ⟨-d, by omega⟩
    rw [Int.ediv_neg, Int.emod_neg, Int.tdiv_neg, Int.tmod_neg]
    rw [Int.tmod_neg] at h
    have := tdiv_up n c (by omega) h
    exact ⟨by rw [this.1], this.2⟩
theorem iDiv_neg (n c : Int) (hc : 0 < c) (h : n.tmod (-c) < 0) : n / -c = n.tdiv (-c) + 1 ∧ n % -c = n.tmod (-c) - -c := by
  rw [Int.ediv_neg, Int.emod_neg, Int.tdiv_neg, Int.tmod_neg]
  rw [Int.tmod_neg] at h
  have := tdiv_down n c hc h
  omega


end Go.Proofs.Ytcapddcmnjeloaa
end

section
/-
  Chapter 1, in the model: GcdOf.
-/
namespace Go.Proofs.Ytcapddcmnjeloaa
open Go.RowKit

set_option maxHeartbeats 400000 in
theorem sGcd (a b : Int) (w : World) (ha : -400000000 ≤ a ∧ a ≤ 400000000) (hb : -400000000 ≤ b ∧ b ≤ 400000000) :
    Calls Try.prog 120 #[.int .i64 a, .int .i64 b] w fun e w' => e = .returned (.int .i64 (Int.gcd a b : Int)) ∧ ∃ n, w' = w.drewN n := by
  obtain ⟨ha1, ha2⟩ := ha
  obtain ⟨hb1, hb2⟩ := hb
  go_enter Try.func120, Try.ntmps120
  go_wp2_with (go_at_call 59; refine (sIsNum_t _ _ (by omega) (by omega)).mono ?_; rintro e w' ⟨rfl, rfl⟩)
  go_loopw [0, 1] (fun x y wr => ∃ p q : Int, x = .int .i64 p ∧ y = .int .i64 q ∧ -400000000 ≤ p ∧ p ≤ 400000000 ∧ -400000000 ≤ q ∧ q ≤ 400000000 ∧ Int.gcd p q = Int.gcd a b ∧ ∃ n, wr = w.drewN n) (fun _ y _ => (intOf y).natAbs)
  case atStart => exact ⟨a, b, rfl, rfl, ha1, ha2, hb1, hb2, rfl, 0, rfl⟩
  case round =>
    obtain ⟨p, q, rfl, rfl, p1, p2, q1, q2, hg, n, rfl⟩ := hrel
    have HG := Lib.hid hg
    clear hg
    by_cases hq : q = 0
    · subst hq
      go_wp2
      all_goals
        go_ret
        exact ⟨by rw [← HG.out, Int.gcd_zero_right]; exact ret_int (by omega), n, rfl⟩
    · have t1 := tmod_small p q hq
      have t2 := gcd_round p q
      have b1 : -400000000 ≤ p.tmod q := by omega
      have b2 : p.tmod q ≤ 400000000 := by omega
      have T1 := Lib.hid t1
      have T2 := Lib.hid t2
      clear t1 t2
      have hq' : (q == 0) = false := by simpa using hq
      go_wp2
      go_quiet (fail)
      go_wp2
      go_roundw
      case rel => exact ⟨q, p.tmod q, rfl, rfl, q1, q2, b1, b2, T2.out.trans HG.out, _, by rw [World.drewN_drewN]⟩
      case measure => simpa [intOf] using T1.out
theorem sGcd_f (a b : Int) (w : World) (h : ¬ ((-400000000 ≤ a ∧ a ≤ 400000000) ∧ (-400000000 ≤ b ∧ b ≤ 400000000))) :
    Calls Try.prog 120 #[.int .i64 a, .int .i64 b] w fun e w' => e = .returned (.int .i64 0) ∧ w = w' := by
  by_cases ha : -400000000 ≤ a ∧ a ≤ 400000000
  · have hb : b < -400000000 ∨ 400000000 < b := by omega
    clear h
    go_enter Try.func120, Try.ntmps120
    go_wp2_with fail
    refine (sIsNum_t _ _ ha.1 ha.2).mono ?_
    rintro e w' ⟨rfl, rfl⟩
    go_wp2_with fail
    refine (sIsNum_f _ _ hb).mono ?_
    rintro e w' ⟨rfl, rfl⟩
    go_wp2_with fail
    go_ret
    exact ⟨rfl, rfl⟩
  · have ha' : a < -400000000 ∨ 400000000 < a := by omega
    clear h ha
    go_enter Try.func120, Try.ntmps120
    go_wp2_with fail
    refine (sIsNum_f _ _ ha').mono ?_
    rintro e w' ⟨rfl, rfl⟩
    go_wp2_with fail
    go_ret
    exact ⟨rfl, rfl⟩

end Go.Proofs.Ytcapddcmnjeloaa
end

section
/-
  Chapter 1, in the program: greatestDivisor.
-/
namespace Go.Proofs.Ytcapddcmnjeloaa
open Go.RowKit

set_option maxHeartbeats 400000 in
/-- The program's Euclid, of any two ints but the two smallest. -/
theorem iGD (a b : Int) (w : World) (ha : -9000000000000000000 ≤ a ∧ a ≤ 9000000000000000000) (hb : -9000000000000000000 ≤ b ∧ b ≤ 9000000000000000000) :
    Calls Try.prog 122 #[.int .i64 a, .int .i64 b] w fun e w' => e = .returned (.int .i64 (Int.gcd a b : Int)) ∧ ∃ n, w' = w.drewN n := by
  obtain ⟨ha1, ha2⟩ := ha
  obtain ⟨hb1, hb2⟩ := hb
  go_enter Try.func122, Try.ntmps122
  go_wp2_with fail
  go_loopw [0, 1] (fun x y wr => ∃ p q : Int, x = .int .i64 p ∧ y = .int .i64 q ∧ -9000000000000000000 ≤ p ∧ p ≤ 9000000000000000000 ∧ -9000000000000000000 ≤ q ∧ q ≤ 9000000000000000000 ∧ Int.gcd p q = Int.gcd a b ∧ ∃ n, wr = w.drewN n) (fun _ y _ => (intOf y).natAbs)
  case atStart => exact ⟨a, b, rfl, rfl, ha1, ha2, hb1, hb2, rfl, 0, rfl⟩
  case round =>
    obtain ⟨p, q, rfl, rfl, p1, p2, q1, q2, hg, n, rfl⟩ := hrel
    have HG := Lib.hid hg
    clear hg
    by_cases hq : q = 0
    · subst hq
      go_wp2
      all_goals
        go_ret
        exact ⟨by rw [← HG.out, Int.gcd_zero_right]; exact ret_int (by omega), n, rfl⟩
    · have t1 := tmod_small p q hq
      have t2 := gcd_round p q
      have b1 : -9000000000000000000 ≤ p.tmod q := by omega
      have b2 : p.tmod q ≤ 9000000000000000000 := by omega
      have T1 := Lib.hid t1
      have T2 := Lib.hid t2
      clear t1 t2
      have hq' : (q == 0) = false := by simpa using hq
      go_wp2
      go_quiet (fail)
      go_wp2
      go_roundw
      case rel => exact ⟨q, p.tmod q, rfl, rfl, q1, q2, b1, b2, T2.out.trans HG.out, _, by rw [World.drewN_drewN]⟩
      case measure => simpa [intOf] using T1.out
end Go.Proofs.Ytcapddcmnjeloaa
end

section
/-
  Chapter 1, in the model: |n|.
-/
namespace Go.Proofs.Ytcapddcmnjeloaa
open Go.RowKit

theorem tdiv_bdw (n d : Int) (h1 : -4000000000000000000 ≤ n) (h2 : n ≤ 4000000000000000000) : -4000000000000000000 ≤ n.tdiv d ∧ n.tdiv d ≤ 4000000000000000000 := by
  have q : (n.tdiv d).natAbs ≤ n.natAbs := by rw [Int.natAbs_tdiv]; exact Nat.div_le_self _ _
  omega
theorem sAbs_p (n : Int) (w : World) (h1 : 0 ≤ n) (h2 : n ≤ 9223372036854775807) :
    Calls Try.prog 121 #[.int .i64 n] w fun e w' => e = .returned (.int .i64 n) ∧ w = w' := by
  go_enter Try.func121, Try.ntmps121
  go_wp2
  all_goals
    go_ret
    exact ⟨ret_int (by omega), rfl⟩
theorem sAbs_n (n : Int) (w : World) (h1 : 0 < n) (h2 : n ≤ 9223372036854775807) :
    Calls Try.prog 121 #[.int .i64 (-n)] w fun e w' => e = .returned (.int .i64 n) ∧ w = w' := by
  go_enter Try.func121, Try.ntmps121
  go_wp2
  all_goals
    go_ret
    exact ⟨ret_int (by omega), rfl⟩
theorem sAbs (n : Int) (w : World) (h1 : -9000000000000000000 ≤ n) (h2 : n ≤ 9000000000000000000) :
    Calls Try.prog 121 #[.int .i64 n] w fun e w' => e = .returned (.int .i64 (n.natAbs : Int)) ∧ w = w' := by
  rcases Int.lt_or_le n 0 with h | h
  · obtain ⟨m, rfl⟩ : ∃ m, n = -m := ⟨-n, by omega⟩
    rw [show (((-m).natAbs : Nat) : Int) = m by omega]
    exact sAbs_n m w (by omega) (by omega)
  · rw [show ((n.natAbs : Nat) : Int) = n by omega]
    exact sAbs_p n w (by omega) (by omega)
end Go.Proofs.Ytcapddcmnjeloaa
end

section
/-
  Frames: of the blocks that were there only those of a given kind may have changed; rows of ints with their capacity. No function of the program is named.
-/
namespace Go.Proofs.Ytcapddcmnjeloaa
open Go.RowKit

/-- Of the blocks that were there only those with the property p may have changed. -/
structure FrS (p : Nat → Prop) (w w' : World) : Prop where
  os : w'.os = w.os
  tape : w'.tape = w.tape
  output : w'.output = w.output
  size : w.heap.size ≤ w'.heap.size
  block : ∀ k, k < w.heap.size → ¬ p k → w'.heap[k]? = w.heap[k]?
theorem FrS.refl (p : Nat → Prop) (w : World) : FrS p w w := ⟨rfl, rfl, rfl, Nat.le_refl _, fun _ _ _ => rfl⟩
theorem FrS.trans {p : Nat → Prop} {w w1 w2 : World} (h : FrS p w w1) (h' : FrS p w1 w2) : FrS p w w2 :=
  ⟨h'.os.trans h.os, h'.tape.trans h.tape, h'.output.trans h.output, Nat.le_trans h.size h'.size, fun k hk hp => (h'.block k (Nat.lt_of_lt_of_le hk h.size) hp).trans (h.block k hk hp)⟩
theorem FrS.of_one {p : Nat → Prop} {w w' : World} {g : Nat} (h : w.grownBy w' (some g)) (hp : p g) : FrS p w w' :=
  ⟨h.os, h.tape, h.output, h.size, fun k hk hn => h.block k hk (by rintro e; injection e with e; subst e; exact hn hp)⟩
theorem FrS.of_below {p : Nat → Prop} {w w' : World} (h : Below w.heap.size w w') : FrS p w w' := ⟨h.os, h.tape, h.output, h.size, fun k hk _ => h.block k hk⟩
theorem FrS.drew {p : Nat → Prop} {w w' : World} (h : FrS p w w') : FrS p w w'.drew := ⟨h.os, h.tape, h.output, h.size, h.block⟩
theorem FrS.drewN {p : Nat → Prop} {w w' : World} (h : FrS p w w') (n : Nat) : FrS p w (w'.drewN n) := ⟨h.os, h.tape, h.output, h.size, h.block⟩
theorem FrS.set {p : Nat → Prop} {w w' : World} (h : FrS p w w') {a : Addr} (ha : p a.block ∨ w.heap.size ≤ a.block) (u : Value) : FrS p w (w'.setCell a u) :=
  ⟨h.os, h.tape, h.output, by simpa [World.setCell] using h.size, fun k hk hp => (Below.heap_setCell w' a u k (by rintro rfl; rcases ha with ha | ha; exact hp ha; omega)).trans (h.block k hk hp)⟩
theorem FrS.alloc {p : Nat → Prop} {w w' : World} (h : FrS p w w') (o : Obj) : FrS p w (w'.alloc o) := h.trans (FrS.of_below ((Below.refl _ _).alloc (Nat.le_refl _) o))
theorem FrS.one {w w' : World} {g : Nat} {p : Nat → Prop} (h : FrS p w w') (hp : ∀ k, k < w.heap.size → p k → k = g) : w.grownBy w' (some g) :=
  ⟨h.os, h.tape, h.output, h.size, fun k hk hn => h.block k hk (fun hpk => hn (by rw [hp k hk hpk]))⟩
theorem FrS.below {w w' : World} {B : Nat} {p : Nat → Prop} (h : FrS p w w') (hp : ∀ k, p k → B ≤ k) (hB : B ≤ w.heap.size) : Below B w w' :=
  ⟨h.os, h.tape, h.output, h.size, fun k hk => h.block k (by omega) (fun hpk => by have := hp k hpk; omega)⟩
theorem FrS.mono {p q : Nat → Prop} {w w' : World} (h : FrS p w w') (hq : ∀ k, p k → q k) : FrS q w w' := ⟨h.os, h.tape, h.output, h.size, fun k hk hn => h.block k hk (fun hp => hn (hq k hp))⟩
theorem Blk3.frs {w w' : World} {b : Nat} {t : TypeId} {x y z : Value} {p : Nat → Prop} (h : Blk3 w b t x y z) (hf : FrS p w w') (hb : ¬ p b) : Blk3 w' b t x y z := (hf.block b h.lt hb).trans h
theorem Rd.frs {w w' : World} {a : Option Addr} {zs : List Int} {p : Nat → Prop} (h : Rd w a zs) (hf : FrS p w w') (hb : ∀ b o : Nat, a = some ⟨b, o, none⟩ → ¬ p b) : Rd w' a zs := fun i hi => by
  obtain ⟨b, o, ha, hc⟩ := h i hi
  have hl := World.block_lt_of_cell? w _ hc
  exact ⟨b, o, ha, (World.cell?_of_block (w := w) (hf.block b (by simpa using hl) (hb b o ha))).trans hc⟩
theorem Ints.frs {w w' : World} {g : Nat} {zs : List Int} {p : Nat → Prop} (h : Ints w g zs) (hf : FrS p w w') (hb : ¬ p g) : Ints w' g zs := h.move (hf.block g h.lt hb)
/-- Block g holds cap cells, none of them frozen, and begins with the ints zs. -/
def IntsC (w : World) (g cap : Nat) (zs : List Int) : Prop := cap ≤ maxLen ∧ ∃ rest : List Value, zs.length + rest.length = cap ∧ w.heap[g]? = some (.cells (zs.map (Value.int .i64) ++ rest).toArray 3 (0, 0))
theorem IntsC.ints {w : World} {g cap : Nat} {zs : List Int} (h : IntsC w g cap zs) : Ints w g zs := by
  obtain ⟨_, rest, _, h⟩ := h
  exact ⟨rest, h⟩
theorem IntsC.lt {w : World} {g cap : Nat} {zs : List Int} (h : IntsC w g cap zs) : g < w.heap.size := h.ints.lt
theorem IntsC.le {w : World} {g cap : Nat} {zs : List Int} (h : IntsC w g cap zs) : zs.length ≤ cap := by
  obtain ⟨_, rest, h, _⟩ := h
  omega
theorem IntsC.move {w w' : World} {g cap : Nat} {zs : List Int} (h : IntsC w g cap zs) (e : w'.heap[g]? = w.heap[g]?) : IntsC w' g cap zs := by
  obtain ⟨h0, rest, h1, h2⟩ := h
  exact ⟨h0, rest, h1, e.trans h2⟩
theorem IntsC.frs {w w' : World} {g cap : Nat} {zs : List Int} {p : Nat → Prop} (h : IntsC w g cap zs) (hf : FrS p w w') (hb : ¬ p g) : IntsC w' g cap zs := h.move (hf.block g h.lt hb)
theorem IntsC.drew {w : World} {g cap : Nat} {zs : List Int} (h : IntsC w g cap zs) : IntsC w.drew g cap zs := h
theorem IntsC.old {w : World} {g cap : Nat} {zs : List Int} (h : IntsC w g cap zs) (o : Obj) : IntsC (w.alloc o) g cap zs := h.move (Below.heap_alloc w o g h.lt)
theorem IntsC.far {w : World} {g cap : Nat} {zs : List Int} (h : IntsC w g cap zs) {a : Addr} (ha : g ≠ a.block) (u : Value) : IntsC (w.setCell a u) g cap zs := h.move (Below.heap_setCell w a u g ha)
theorem IntsC.set {w : World} {g cap : Nat} {zs : List Int} (h : IntsC w g cap zs) (i : Nat) (hi : i < zs.length) (z : Int) : IntsC (w.setCell ⟨g, i, none⟩ (.int .i64 z)) g cap (zs.set i z) := by
  obtain ⟨h0, rest, h1, h2⟩ := h
  refine ⟨h0, rest, by simpa using h1, ?_⟩
  simp [World.setCell, Array.getElem?_modify, h2, hi]
theorem IntsC.made {w : World} {g : Nat} (n : Nat) (hn : n ≤ 16777216) (hg : g = w.heap.size) : IntsC (w.alloc (.cells (madeCells #[.int .i64 0] n) 3)) g n (List.replicate n 0) := by
  subst hg
  refine ⟨by unfold maxLen; omega, [], by simp, ?_⟩
  rw [madeCells_ints, List.append_nil]
  exact heap_alloc_new w _
theorem IntsC.row {w : World} {B g cap : Nat} {zs : List Int} (h : IntsC w g cap zs) (hB : B ≤ g) : w.ownsRow B 3 1 (.slice (some ⟨g, 0, none⟩) zs.length cap) zs.length (zs.map (Value.int .i64)) := by
  obtain ⟨h0, rest, h1, h2⟩ := h
  refine ⟨by simp, .inr ⟨g, cap, _, rfl, hB, h2, by omega, h0, by simp; omega, by simp⟩⟩
/-- The slice value v shows the ints zs; it is nil, or it begins a block from B on, of which all is known. -/
def OwnC (B : Nat) (w : World) (v : Value) (zs : List Int) : Prop := (v = .slice none 0 0 ∧ zs = []) ∨ ∃ g cap : Nat, v = .slice (some ⟨g, 0, none⟩) zs.length cap ∧ B ≤ g ∧ IntsC w g cap zs
theorem OwnC.of_row {B : Nat} {w : World} {v : Value} {zs : List Int} (h : w.ownsRow B 3 1 v zs.length (zs.map (Value.int .i64))) : OwnC B w v zs := by
  rcases h.2 with ⟨rfl, h0⟩ | ⟨g, cap, cur, rfl, hB, hg, hc, hm, hs, ht⟩
  · exact .inl ⟨rfl, List.eq_nil_of_length_eq_zero h0⟩
  · refine .inr ⟨g, cap, rfl, hB, hm, cur.toList.drop zs.length, ?_, ?_⟩
    · have : cur.toList.length = cap := by rw [Array.length_toList, hs, Nat.mul_one]
      rw [List.length_drop]; omega
    · rw [hg]
      congr 2
      rw [Nat.mul_one] at ht
      rw [← ht, List.take_append_drop]
theorem OwnC.own {B : Nat} {w : World} {v : Value} {zs : List Int} (h : OwnC B w v zs) (hl : zs.length ≤ 16777216) : Own B w v zs := by
  rcases h with h | ⟨g, cap, hv, hB, hi⟩
  · exact .inl h
  · exact .inr ⟨g, cap, hv, hB, hi.ints, hi.le, hl⟩
theorem OwnC.frs {B : Nat} {w w' : World} {v : Value} {zs : List Int} {p : Nat → Prop} (h : OwnC B w v zs) (hf : FrS p w w') (hp : ∀ k, B ≤ k → ¬ p k) : OwnC B w' v zs := by
  rcases h with h | ⟨g, cap, hv, hB, hi⟩
  · exact .inl h
  · exact .inr ⟨g, cap, hv, hB, hi.frs hf (hp g hB)⟩
theorem OwnC.le {B B' : Nat} {w : World} {v : Value} {zs : List Int} (h : OwnC B w v zs) (hB : B' ≤ B) : OwnC B' w v zs := by
  rcases h with h | ⟨g, cap, hv, hg, hi⟩
  · exact .inl h
  · exact .inr ⟨g, cap, hv, by omega, hi⟩
end Go.Proofs.Ytcapddcmnjeloaa
end

section
/-
  Steps inside a region that draws: append of ints; frames of three stores. No function of the program is named.
-/
namespace Go.Proofs.Ytcapddcmnjeloaa
set_option maxRecDepth 100000
open Go.RowKit

theorem news_ints (ys : List Int) (j : Nat) (u : Value) (h : (ys.map (Value.int .i64))[j]? = some u) : j < ys.length ∧ u = .int .i64 (ys.getD j 0) := by
  rw [List.getElem?_map] at h
  obtain ⟨z, hz, rfl⟩ := Option.map_eq_some_iff.mp h
  obtain ⟨h1, h2⟩ := List.getElem?_eq_some_iff.mp hz
  exact ⟨h1, by simp [List.getD, hz]⟩

theorem FrS.mono2 {p q : Nat → Prop} {w w' : World} (h : FrS p w w') (hq : ∀ k, k < w.heap.size → p k → q k) : FrS q w w' := ⟨h.os, h.tape, h.output, h.size, fun k hk hn => h.block k hk (fun hp => hn (hq k hk hp))⟩
theorem FrS.set3 {p : Nat → Prop} {w w' : World} {b : Nat} (h : FrS p w w') (hb : p b ∨ w.heap.size ≤ b) (x y z : Value) : FrS p w (((w'.setCell ⟨b, 0, none⟩ x).setCell ⟨b, 1, none⟩ y).setCell ⟨b, 2, none⟩ z) := ((h.set hb x).set hb y).set hb z
theorem Blk3.set3 {w : World} {b : Nat} {t : TypeId} {p q r : Value} (h : Blk3 w b t p q r) (x y z : Value) : Blk3 (((w.setCell ⟨b, 0, none⟩ x).setCell ⟨b, 1, none⟩ y).setCell ⟨b, 2, none⟩ z) b t x y z := ((h.set0 x).set1 y).set2 z
theorem Blk3.far3 {w : World} {b c : Nat} {t : TypeId} {p q r : Value} (h : Blk3 w b t p q r) (hne : b ≠ c) (x y z : Value) : Blk3 (((w.setCell ⟨c, 0, none⟩ x).setCell ⟨c, 1, none⟩ y).setCell ⟨c, 2, none⟩ z) b t p q r := ((h.far (a := ⟨c, 0, none⟩) hne x).far (a := ⟨c, 1, none⟩) hne y).far (a := ⟨c, 2, none⟩) hne z
/-- Two matrices of whatever kind are returned; of what was there nothing has changed. -/
theorem OwnC.frs2 {B : Nat} {w w' : World} {v : Value} {zs : List Int} {p : Nat → Prop} (h : OwnC B w v zs) (hf : FrS p w w') (hp : ∀ k, B ≤ k → k < w.heap.size → ¬ p k) : OwnC B w' v zs := by
  rcases h with h | ⟨g, cap, hv, hB, hi⟩
  · exact .inl h
  · exact .inr ⟨g, cap, hv, hB, hi.frs hf (hp g hB hi.lt)⟩
theorem OwnC.frsN {B n qc : Nat} {q : Option Addr} {w w' : World} {zs : List Int} {p : Nat → Prop} (h : OwnC B w (.slice q n qc) zs) (hf : FrS p w w') (hp : ∀ g0 : Nat, q = some ⟨g0, 0, none⟩ → ¬ p g0) : OwnC B w' (.slice q n qc) zs := by
  rcases h with h | ⟨g, cap, hv, hB, hi⟩
  · exact .inl h
  · refine .inr ⟨g, cap, hv, hB, hi.frs hf (hp g ?_)⟩
    injection hv
theorem FrS.transR {p q : Nat → Prop} {w w1 w2 : World} (h : FrS p w w1) (h' : FrS q w1 w2) (hq : ∀ k, k < w.heap.size → q k → p k) : FrS p w w2 :=
  ⟨h'.os.trans h.os, h'.tape.trans h.tape, h'.output.trans h.output, Nat.le_trans h.size h'.size, fun k hk hp => (h'.block k (Nat.lt_of_lt_of_le hk h.size) (fun hqk => hp (hq k hk hqk))).trans (h.block k hk hp)⟩
theorem ownBlock_ge {w : World} {base n k : Nat} {e : TypeId} {size : Nat} {v : Value} {xs : List Value} (h : w.ownsRow base e size v n xs) (hk : v.ownBlock = some k) : base ≤ k := by
  rcases h.2 with ⟨rfl, -⟩ | ⟨g, cap, cur, rfl, hB, -⟩
  · cases hk
  · simp [Value.ownBlock] at hk; omega
theorem Own.far {B : Nat} {w : World} {v : Value} {zs : List Int} (h : Own B w v zs) {a : Addr} (ha : a.block < B) (u : Value) : Own B (w.setCell a u) v zs := by
  rcases h with h | ⟨g, cap, hv, hB, hi, hl, hc⟩
  · exact .inl h
  · exact .inr ⟨g, cap, hv, hB, hi.far (by omega) u, hl, hc⟩
theorem step_append {P : Program} {ops : Array Oper} {o : Oper} {a : Act} {w : World} {K : Act → World → Prop} {Q : Exit → Act → World → Prop} {E : Prop}
    (hg : o.guard = none) (s x : Operand) (t : TypeId) (hop : o.op = Op.call { callee := Callee.builtin Builtin.append, args := #[s, x], argTypes := #[t, t] }) (v1 v2 : Value) (hs : a.eval s = v1) (hx : a.eval x = v2) (v' : Value) (w' : World)
    (hr : (Builtin.append_ #[t, t] o.type #[v1, v2]).run P w = .ok v' w') (hK : K (a.put o.dst v') w') : if Region.wanted o (yielded ops a.tmps) = true then Oper.wp P o a w K Q else E := by
  have hw : Region.wanted o (yielded ops a.tmps) = true := by simp [Region.wanted, hg]
  rw [if_pos hw]
  unfold Oper.wp
  simp only [execOp, hop, resolve, invoke, builtin, Sem.run_bind, Sem.run_pure, Result.andThen_ok, List.map_toArray, List.map_cons, List.map_nil, hs, hx, hr]
  exact hK
/-- append of a slice that is read onto a slice of the call's own. -/
theorem appendInts (w : World) (base n m c : Nat) (v : Value) (xs ys : List Int) (ga oa : Nat) (hown : w.ownsRow base 3 1 v n (xs.map (Value.int .i64))) (h : Rd w (some ⟨ga, oa, none⟩) ys) (hy : ys.length = m) (hb : n + m ≤ 16777216) (hB : base ≤ w.heap.size) :
    ∃ v' w', (Builtin.append_ #[24, 24] 24 #[v, .slice (some ⟨ga, oa, none⟩) m c]).run Try.prog w = .ok v' w' ∧ w'.ownsRow base 3 1 v' (n + m) ((xs ++ ys).map (Value.int .i64)) ∧ w.grownBy w' v.ownBlock := by
  obtain ⟨fi, hfi, hz0, hz1, hz2⟩ := facts_int
  have news : ∀ (j : Nat) u, (ys.map (Value.int .i64))[j]? = some u → w.cell? ((⟨ga, oa, none⟩ : Addr).add j) = some u := by
    intro j u hu
    obtain ⟨hj, rfl⟩ := news_ints _ j u hu
    obtain ⟨b', o', e, hc⟩ := h j hj
    injection e with e
    injection e with e1 e2
    subst e1 e2
    rw [show (⟨ga, oa, none⟩ : Addr).add j = ⟨ga, oa + j, none⟩ by simp only [Addr.add]; split <;> simp_all]
    exact hc
  obtain ⟨v', w', hr, h2, h3, -, -⟩ := run_append_own_at (P := Try.prog) w base 24 24 3 fi (.int .i64 0) 1 8 underlying_ints hfi hz0 hz1 hz2 rfl (by decide) v n _ hown ⟨ga, oa, none⟩ m c (ys.map (Value.int .i64)) (by rw [List.length_map, hy, Nat.mul_one]) news
    (by intro u hu; obtain ⟨z, -, rfl⟩ := List.mem_map.mp hu; rfl) (by unfold maxLen; omega) (by omega) hB
  exact ⟨v', w', hr, by rw [List.map_append]; exact h2, h3⟩
theorem appendInts2 (w : World) (base n m c : Nat) (v : Value) (xs ys : List Int) (ga oa : Nat) (hown : w.ownsRow base 3 1 v n (xs.map (Value.int .i64))) (h : Rd w (some ⟨ga, oa, none⟩) ys) (hy : ys.length = m) (hb : n + m ≤ 16777216) (hB : base ≤ w.heap.size) :
    ∃ v' w', (Builtin.append_ #[24, 24] 24 #[v, .slice (some ⟨ga, oa, none⟩) m c]).run Try.prog w = .ok v' w' ∧ w'.ownsRow base 3 1 v' (n + m) ((xs ++ ys).map (Value.int .i64)) ∧ w.grownBy w' v.ownBlock ∧ (v' = .slice none 0 0 ↔ v = .slice none 0 0 ∧ m = 0) := by
  obtain ⟨fi, hfi, hz0, hz1, hz2⟩ := facts_int
  have news : ∀ (j : Nat) u, (ys.map (Value.int .i64))[j]? = some u → w.cell? ((⟨ga, oa, none⟩ : Addr).add j) = some u := by
    intro j u hu
    obtain ⟨hj, rfl⟩ := news_ints _ j u hu
    obtain ⟨b', o', e, hc⟩ := h j hj
    injection e with e
    injection e with e1 e2
    subst e1 e2
    rw [show (⟨ga, oa, none⟩ : Addr).add j = ⟨ga, oa + j, none⟩ by simp only [Addr.add]; split <;> simp_all]
    exact hc
  obtain ⟨v', w', hr, h2, h3, h4, -⟩ := run_append_own_at (P := Try.prog) w base 24 24 3 fi (.int .i64 0) 1 8 underlying_ints hfi hz0 hz1 hz2 rfl (by decide) v n _ hown ⟨ga, oa, none⟩ m c (ys.map (Value.int .i64)) (by rw [List.length_map, hy, Nat.mul_one]) news
    (by intro u hu; obtain ⟨z, -, rfl⟩ := List.mem_map.mp hu; rfl) (by unfold maxLen; omega) (by omega) hB
  exact ⟨v', w', hr, by rw [List.map_append]; exact h2, h3, h4⟩
theorem sevenF {W w' : World} {b : Nat} {t : TypeId} {p q r : Value} {pr : Nat → Prop} (h0 : Blk3 W b t p q r) (hg : FrS pr W w') (hb : ¬ pr b) :
    w'.cell? ⟨b, 0, none⟩ = some p ∧ w'.cell? ⟨b, 1, none⟩ = some q ∧ w'.cell? ⟨b, 2, none⟩ = some r :=
  ⟨(h0.frs hg hb).cell0, (h0.frs hg hb).cell1, (h0.frs hg hb).cell2⟩
end Go.Proofs.Ytcapddcmnjeloaa
end

section
/-
  Chapter 5, in the model: a copy of a matrix; an operation on rows, in place.
-/
namespace Go.Proofs.Ytcapddcmnjeloaa
set_option maxRecDepth 100000
open Go.RowKit

/-! ### l3Copy -/
set_option maxHeartbeats 1000000 in
theorem sCopy (r c : Int) (ga oa m n : Nat) (xs : List Int) (w : World) (h : Rd w (some ⟨ga, oa, none⟩) xs) (hx : xs.length = n) (hn : n ≤ 1048576) :
    Calls Try.prog 87 #[.agg #[.int .i64 r, .int .i64 c, .slice (some ⟨ga, oa, none⟩) n m]] w (fun e w' => ∃ g cap : Nat, e = .returned (.agg #[.int .i64 r, .int .i64 c, .slice (some ⟨g, 0, none⟩) n cap]) ∧ w.heap.size ≤ g ∧ IntsC w' g cap xs ∧ Below w.heap.size w w') := by
  have H := Lib.hid h
  have HX := Lib.hid hx
  clear h hx
  have BH : Hid (Below w.heap.size w ((w.alloc (.cells #[.int .i64 r, .int .i64 c, .slice (some ⟨ga, oa, none⟩) n m] 26)).alloc (.cells #[.int .i64 0, .int .i64 0, .slice none 0 0] 26))) := ((Below.refl _ _).alloc (Nat.le_refl _) _).alloc (by simp) _
  have K0 : Hid (Blk3 ((w.alloc (.cells #[.int .i64 r, .int .i64 c, .slice (some ⟨ga, oa, none⟩) n m] 26)).alloc (.cells #[.int .i64 0, .int .i64 0, .slice none 0 0] 26)) w.heap.size 26 (.int .i64 r) (.int .i64 c) (.slice (some ⟨ga, oa, none⟩) n m)) := (Blk3.at_ _ _ _ _ rfl).old _
  have K2 : Hid (Blk3 ((w.alloc (.cells #[.int .i64 r, .int .i64 c, .slice (some ⟨ga, oa, none⟩) n m] 26)).alloc (.cells #[.int .i64 0, .int .i64 0, .slice none 0 0] 26)) (w.heap.size + 1) 26 (.int .i64 0) (.int .i64 0) (.slice none 0 0)) := Blk3.at_ _ _ _ _ (by simp)
  obtain ⟨w2, hw2⟩ : ∃ w2, (w.alloc (.cells #[.int .i64 r, .int .i64 c, .slice (some ⟨ga, oa, none⟩) n m] 26)).alloc (.cells #[.int .i64 0, .int .i64 0, .slice none 0 0] 26) = w2 := ⟨_, rfl⟩
  rw [hw2] at BH K0 K2
  go_enter Try.func87, Try.ntmps87
  go_wp2_with fail
  clear hw2
  refine wp_region_held_drew (S := fun w' => FrS (fun k => k = w.heap.size + 1) w2 w') (by kernel_rfl) (FrS.refl _ _).drew (fun hH => ?_)
  refine wpAnyH_take (i := 0) (v := ?_) (by simp only [List.getElem?_toArray, List.getElem?_cons_zero]; rfl) (by kernel_rfl) (by kernel_rfl) (by kernel_rfl) (by exact fun _ _ _ h => h) (Or.inl ⟨by rfl, ?_⟩) hH ?_
  rotate_left
  · (intro wS hS; clear hS; go_simp; try rfl)
  try simp only [Act.put, List.setIfInBounds_toArray, List.set_cons_zero, List.set_cons_succ]
  refine wpAnyH_take (i := 1) (v := ?_) (by simp only [List.getElem?_toArray, List.getElem?_cons_succ, List.getElem?_cons_zero]; rfl) (by kernel_rfl) (by kernel_rfl) (by kernel_rfl) (by exact fun _ _ _ h => h) (Or.inl ⟨by rfl, ?_⟩) hH ?_
  rotate_left
  · (intro wS hS; (try dsimp only at hS); obtain ⟨k1, k2, k3⟩ := sevenF K0.out hS (by omega); go_simp; try rfl)
  try simp only [Act.put, List.setIfInBounds_toArray, List.set_cons_zero, List.set_cons_succ]
  refine wpAnyH_take (i := 2) (v := ?_) (by simp only [List.getElem?_toArray, List.getElem?_cons_succ, List.getElem?_cons_zero]; rfl) (by kernel_rfl) (by kernel_rfl) (by kernel_rfl) (by exact fun _ _ _ h => h) (Or.inl ⟨by rfl, ?_⟩) hH ?_
  rotate_left
  · (intro wS hS; clear hS; go_simp; try rfl)
  try simp only [Act.put, List.setIfInBounds_toArray, List.set_cons_zero, List.set_cons_succ]
  refine wpAnyH_take (i := 3) (v := ?_) (by simp only [List.getElem?_toArray, List.getElem?_cons_succ, List.getElem?_cons_zero]; rfl) (by kernel_rfl) (by kernel_rfl) (by kernel_rfl) (by exact fun _ _ _ h => h) (Or.inl ⟨by rfl, ?_⟩) hH ?_
  rotate_left
  · (intro wS hS; (try dsimp only at hS); obtain ⟨k1, k2, k3⟩ := sevenF K0.out hS (by omega); go_simp; try rfl)
  try simp only [Act.put, List.setIfInBounds_toArray, List.set_cons_zero, List.set_cons_succ]
  refine wpAnyH_take (i := 5) (v := ?_) (by simp only [List.getElem?_toArray, List.getElem?_cons_succ, List.getElem?_cons_zero]; rfl) (by kernel_rfl) (by kernel_rfl) (by kernel_rfl) (by exact fun _ _ _ h => h) (Or.inl ⟨by rfl, ?_⟩) hH ?_
  rotate_left
  · (intro wS hS; clear hS; go_simp; try rfl)
  try simp only [Act.put, List.setIfInBounds_toArray, List.set_cons_zero, List.set_cons_succ]
  refine wpAnyH_take (i := 6) (v := ?_) (by simp only [List.getElem?_toArray, List.getElem?_cons_succ, List.getElem?_cons_zero]; rfl) (by kernel_rfl) (by kernel_rfl) (by kernel_rfl) (by exact fun _ _ _ h => h) (Or.inl ⟨by rfl, ?_⟩) hH ?_
  rotate_left
  · (intro wS hS; (try dsimp only at hS); obtain ⟨k1, k2, k3⟩ := sevenF K0.out hS (by omega); go_simp; try rfl)
  try simp only [Act.put, List.setIfInBounds_toArray, List.set_cons_zero, List.set_cons_succ]
  refine wpAnyH_ready (rs := [4]) (by kernel_rfl) (by simp) ?_
  refine AllReadyH.cons (by simp only [List.getElem?_toArray, List.getElem?_cons_succ, List.getElem?_cons_zero]; rfl) (fun KK hKK => ?_) AllReadyH.nil
  go_simp
  try dsimp only
  refine hKK.out _ _ ?_ (fun hH2 => ?_)
  · exact (((FrS.refl _ w2).alloc _).drew)
  clear hKK KK
  have hO := hH
  clear hH
  have hH := hH2
  clear hH2
  try simp only [Act.put, List.setIfInBounds_toArray, List.set_cons_zero, List.set_cons_succ]
  have own0 : ((w2.alloc (.cells #[] 3)).drew).ownsRow w2.heap.size 3 1 (.slice (some ⟨w2.heap.size, 0, none⟩) 0 0) 0 (([] : List Int).map (Value.int .i64)) := ⟨rfl, .inr ⟨w2.heap.size, 0, #[], rfl, Nat.le_refl _, heap_alloc_new w2 _, Nat.le_refl _, by decide, rfl, rfl⟩⟩
  have BA : Hid (Below w2.heap.size w2 ((w2.alloc (.cells #[] 3)).drew)) := ((Below.refl _ _).alloc (Nat.le_refl _) _).drew
  obtain ⟨v1, wa, hr1, ho1, hg1, nn1⟩ := appendInts2 _ w2.heap.size 0 n m _ [] xs ga oa own0 (H.out.below (BH.out.trans (BA.out.mono BH.out.size))) HX.out (by omega) BA.out.size
  refine wpAnyH_ready (rs := [7]) (by kernel_rfl) (by simp) ?_
  refine AllReadyH.cons (by simp only [List.getElem?_toArray, List.getElem?_cons_succ, List.getElem?_cons_zero]; rfl) (fun KK hKK => ?_) AllReadyH.nil
  refine step_append rfl _ _ 24 rfl _ _ rfl rfl _ _ hr1 ?_
  have BA1 : Hid (Below w2.heap.size w2 wa) := BA.out.grown hg1 BA.out.size (fun k hk => ownBlock_ge own0 hk)
  try dsimp only
  refine hKK.out _ _ ?_ (fun hH2 => ?_)
  · exact FrS.of_below BA1.out
  clear hKK KK
  have hO := hH
  clear hH
  have hH := hH2
  clear hH2
  try simp only [Act.put, List.setIfInBounds_toArray, List.set_cons_zero, List.set_cons_succ]
  have O2 : Hid (OwnC w2.heap.size wa v1 xs) := OwnC.of_row (by rw [HX.out, ← Nat.zero_add n]; exact ho1)
  have O3 := O2.out
  rcases O3 with ⟨h, -⟩ | ⟨g, qc2, rfl, gB, gI⟩
  · exact absurd (nn1.mp h).1 (by simp)
  rw [HX.out] at O2 ⊢
  have GB := Lib.hid gB
  have GI := Lib.hid gI
  clear gB gI nn1
  refine wpAnyH_take (i := 8) (v := ?_) (by simp only [List.getElem?_toArray, List.getElem?_cons_succ, List.getElem?_cons_zero]; rfl) (by kernel_rfl) (by kernel_rfl) (by kernel_rfl) (by exact fun _ _ _ h => h) (Or.inl ⟨by rfl, ?_⟩) hH ?_
  rotate_left
  · (intro wS hS; clear hS; go_simp; try rfl)
  try simp only [Act.put, List.setIfInBounds_toArray, List.set_cons_zero, List.set_cons_succ]
  have K2 := Lib.hid (K2.out.step BA1.out)
  obtain ⟨s0, s1, s2, f0, f1, f2⟩ := K2.out.all
  have gs : ∀ x y z, FrS (fun k => k = w.heap.size + 1) w2 (((wa.setCell ⟨w.heap.size + 1, 0, none⟩ x).setCell ⟨w.heap.size + 1, 1, none⟩ y).setCell ⟨w.heap.size + 1, 2, none⟩ z) := fun x y z => (FrS.of_below (p := fun k => k = w.heap.size + 1) BA1.out).set3 (b := w.heap.size + 1) (.inl rfl) x y z
  have GS := Lib.hid gs
  clear gs
  refine wpAnyH_ready (rs := [9]) (by kernel_rfl) (by simp) ?_
  refine AllReadyH.cons (by simp only [List.getElem?_toArray, List.getElem?_cons_succ, List.getElem?_cons_zero]; rfl) (fun KK hKK => ?_) AllReadyH.nil
  go_simp
  try dsimp only
  refine hKK.out _ _ ?_ (fun hH2 => ?_)
  · exact GS.out _ _ _
  clear hKK KK
  have hO := hH
  clear hH
  have hH := hH2
  clear hH2
  try simp only [Act.put, List.setIfInBounds_toArray, List.set_cons_zero, List.set_cons_succ]
  refine wpAnyH_done (by kernel_rfl) ?_ _
  go_wp2_with fail
  obtain ⟨E0, E1, E2, -, -, -⟩ := (K2.out.set3 (.int .i64 r) (.int .i64 c) (.slice (some ⟨g, 0, none⟩) n qc2)).all
  have B2 := BH.out.trans (BA1.out.mono BH.out.size)
  refine bodyPost_ret (v := .agg #[.int .i64 r, .int .i64 c, .slice (some ⟨g, 0, none⟩) n qc2]) (by simp [results, Try.results87, go_sem, E0, E1, E2]) rfl ⟨g, qc2, rfl, Nat.le_trans BH.out.size GB.out, ((GI.out.far (GI.out.ints.ne_blk K2.out) _).far (GI.out.ints.ne_blk K2.out) _).far (GI.out.ints.ne_blk K2.out) _, ?_⟩
  exact (((B2.setCell (by show w.heap.size ≤ w.heap.size + 1; omega) _).setCell (by show w.heap.size ≤ w.heap.size + 1; omega) _).setCell (by show w.heap.size ≤ w.heap.size + 1; omega) _)
end Go.Proofs.Ytcapddcmnjeloaa
end

section
/-
  Chapter 5, in the model: a copy of a matrix without cells.
-/
namespace Go.Proofs.Ytcapddcmnjeloaa
set_option maxRecDepth 100000
open Go.RowKit

theorem appendNil (w : World) (g c : Nat) : (Builtin.append_ #[24, 24] 24 #[.slice (some ⟨g, 0, none⟩) 0 0, .slice none 0 c]).run Try.prog w = .ok (.slice (some ⟨g, 0, none⟩) 0 0) w := by
  obtain ⟨fi, hfi, hz0, hz1, hz2⟩ := facts_int
  simp [Builtin.append_, go_sem, Builtin.lenOf, Builtin.firstCells, storeCells]
set_option maxHeartbeats 1000000 in
theorem sCopyN (r c : Int) (m : Nat) (w : World) :
    Calls Try.prog 87 #[.agg #[.int .i64 r, .int .i64 c, .slice none 0 m]] w (fun e w' => ∃ g cap : Nat, e = .returned (.agg #[.int .i64 r, .int .i64 c, .slice (some ⟨g, 0, none⟩) 0 cap]) ∧ w.heap.size ≤ g ∧ IntsC w' g cap [] ∧ Below w.heap.size w w') := by
  have BH : Hid (Below w.heap.size w ((w.alloc (.cells #[.int .i64 r, .int .i64 c, .slice none 0 m] 26)).alloc (.cells #[.int .i64 0, .int .i64 0, .slice none 0 0] 26))) := ((Below.refl _ _).alloc (Nat.le_refl _) _).alloc (by simp) _
  have K0 : Hid (Blk3 ((w.alloc (.cells #[.int .i64 r, .int .i64 c, .slice none 0 m] 26)).alloc (.cells #[.int .i64 0, .int .i64 0, .slice none 0 0] 26)) w.heap.size 26 (.int .i64 r) (.int .i64 c) (.slice none 0 m)) := (Blk3.at_ _ _ _ _ rfl).old _
  have K2 : Hid (Blk3 ((w.alloc (.cells #[.int .i64 r, .int .i64 c, .slice none 0 m] 26)).alloc (.cells #[.int .i64 0, .int .i64 0, .slice none 0 0] 26)) (w.heap.size + 1) 26 (.int .i64 0) (.int .i64 0) (.slice none 0 0)) := Blk3.at_ _ _ _ _ (by simp)
  obtain ⟨w2, hw2⟩ : ∃ w2, (w.alloc (.cells #[.int .i64 r, .int .i64 c, .slice none 0 m] 26)).alloc (.cells #[.int .i64 0, .int .i64 0, .slice none 0 0] 26) = w2 := ⟨_, rfl⟩
  rw [hw2] at BH K0 K2
  go_enter Try.func87, Try.ntmps87
  go_wp2_with fail
  clear hw2
  refine wp_region_held_drew (S := fun w' => FrS (fun k => k = w.heap.size + 1) w2 w') (by kernel_rfl) (FrS.refl _ _).drew (fun hH => ?_)
  refine wpAnyH_take (i := 0) (v := ?_) (by simp only [List.getElem?_toArray, List.getElem?_cons_zero]; rfl) (by kernel_rfl) (by kernel_rfl) (by kernel_rfl) (by exact fun _ _ _ h => h) (Or.inl ⟨by rfl, ?_⟩) hH ?_
  rotate_left
  · (intro wS hS; clear hS; go_simp; try rfl)
  try simp only [Act.put, List.setIfInBounds_toArray, List.set_cons_zero, List.set_cons_succ]
  refine wpAnyH_take (i := 1) (v := ?_) (by simp only [List.getElem?_toArray, List.getElem?_cons_succ, List.getElem?_cons_zero]; rfl) (by kernel_rfl) (by kernel_rfl) (by kernel_rfl) (by exact fun _ _ _ h => h) (Or.inl ⟨by rfl, ?_⟩) hH ?_
  rotate_left
  · (intro wS hS; (try dsimp only at hS); obtain ⟨k1, k2, k3⟩ := sevenF K0.out hS (by omega); go_simp; try rfl)
  try simp only [Act.put, List.setIfInBounds_toArray, List.set_cons_zero, List.set_cons_succ]
  refine wpAnyH_take (i := 2) (v := ?_) (by simp only [List.getElem?_toArray, List.getElem?_cons_succ, List.getElem?_cons_zero]; rfl) (by kernel_rfl) (by kernel_rfl) (by kernel_rfl) (by exact fun _ _ _ h => h) (Or.inl ⟨by rfl, ?_⟩) hH ?_
  rotate_left
  · (intro wS hS; clear hS; go_simp; try rfl)
  try simp only [Act.put, List.setIfInBounds_toArray, List.set_cons_zero, List.set_cons_succ]
  refine wpAnyH_take (i := 3) (v := ?_) (by simp only [List.getElem?_toArray, List.getElem?_cons_succ, List.getElem?_cons_zero]; rfl) (by kernel_rfl) (by kernel_rfl) (by kernel_rfl) (by exact fun _ _ _ h => h) (Or.inl ⟨by rfl, ?_⟩) hH ?_
  rotate_left
  · (intro wS hS; (try dsimp only at hS); obtain ⟨k1, k2, k3⟩ := sevenF K0.out hS (by omega); go_simp; try rfl)
  try simp only [Act.put, List.setIfInBounds_toArray, List.set_cons_zero, List.set_cons_succ]
  refine wpAnyH_take (i := 5) (v := ?_) (by simp only [List.getElem?_toArray, List.getElem?_cons_succ, List.getElem?_cons_zero]; rfl) (by kernel_rfl) (by kernel_rfl) (by kernel_rfl) (by exact fun _ _ _ h => h) (Or.inl ⟨by rfl, ?_⟩) hH ?_
  rotate_left
  · (intro wS hS; clear hS; go_simp; try rfl)
  try simp only [Act.put, List.setIfInBounds_toArray, List.set_cons_zero, List.set_cons_succ]
  refine wpAnyH_take (i := 6) (v := ?_) (by simp only [List.getElem?_toArray, List.getElem?_cons_succ, List.getElem?_cons_zero]; rfl) (by kernel_rfl) (by kernel_rfl) (by kernel_rfl) (by exact fun _ _ _ h => h) (Or.inl ⟨by rfl, ?_⟩) hH ?_
  rotate_left
  · (intro wS hS; (try dsimp only at hS); obtain ⟨k1, k2, k3⟩ := sevenF K0.out hS (by omega); go_simp; try rfl)
  try simp only [Act.put, List.setIfInBounds_toArray, List.set_cons_zero, List.set_cons_succ]
  refine wpAnyH_ready (rs := [4]) (by kernel_rfl) (by simp) ?_
  refine AllReadyH.cons (by simp only [List.getElem?_toArray, List.getElem?_cons_succ, List.getElem?_cons_zero]; rfl) (fun KK hKK => ?_) AllReadyH.nil
  go_simp
  try dsimp only
  refine hKK.out _ _ ?_ (fun hH2 => ?_)
  · exact (((FrS.refl _ w2).alloc _).drew)
  clear hKK KK
  have hO := hH
  clear hH
  have hH := hH2
  clear hH2
  try simp only [Act.put, List.setIfInBounds_toArray, List.set_cons_zero, List.set_cons_succ]
  have own0 : ((w2.alloc (.cells #[] 3)).drew).ownsRow w2.heap.size 3 1 (.slice (some ⟨w2.heap.size, 0, none⟩) 0 0) 0 (([] : List Int).map (Value.int .i64)) := ⟨rfl, .inr ⟨w2.heap.size, 0, #[], rfl, Nat.le_refl _, heap_alloc_new w2 _, Nat.le_refl _, by decide, rfl, rfl⟩⟩
  have BA : Hid (Below w2.heap.size w2 ((w2.alloc (.cells #[] 3)).drew)) := ((Below.refl _ _).alloc (Nat.le_refl _) _).drew
  have hr1 := appendNil ((w2.alloc (.cells #[] 3)).drew) w2.heap.size m
  refine wpAnyH_ready (rs := [7]) (by kernel_rfl) (by simp) ?_
  refine AllReadyH.cons (by simp only [List.getElem?_toArray, List.getElem?_cons_succ, List.getElem?_cons_zero]; rfl) (fun KK hKK => ?_) AllReadyH.nil
  refine step_append rfl _ _ 24 rfl _ _ rfl rfl _ _ hr1 ?_
  have BA1 := BA
  try dsimp only
  refine hKK.out _ _ ?_ (fun hH2 => ?_)
  · exact FrS.of_below BA1.out
  clear hKK KK
  have hO := hH
  clear hH
  have hH := hH2
  clear hH2
  try simp only [Act.put, List.setIfInBounds_toArray, List.set_cons_zero, List.set_cons_succ]
  have O2 : Hid (OwnC w2.heap.size ((w2.alloc (.cells #[] 3)).drew) (.slice (some ⟨w2.heap.size, 0, none⟩) 0 0) []) := OwnC.of_row own0
  have O3 := O2.out
  rcases O3 with ⟨h, -⟩ | ⟨g, qc2, hv, gB, gI⟩
  · exact absurd h (by simp)
  have GB := Lib.hid gB
  have GI := Lib.hid gI
  simp only [Value.slice.injEq, Option.some.injEq, Addr.mk.injEq] at hv
  obtain ⟨⟨rfl, -, -⟩, -, rfl⟩ := hv
  clear gB gI
  obtain ⟨wa, hwa⟩ : ∃ wa, (w2.alloc (.cells #[] 3)).drew = wa := ⟨_, rfl⟩
  rw [hwa] at GI O2 BA1 own0 hr1 hH ⊢
  refine wpAnyH_take (i := 8) (v := ?_) (by simp only [List.getElem?_toArray, List.getElem?_cons_succ, List.getElem?_cons_zero]; rfl) (by kernel_rfl) (by kernel_rfl) (by kernel_rfl) (by exact fun _ _ _ h => h) (Or.inl ⟨by rfl, ?_⟩) hH ?_
  rotate_left
  · (intro wS hS; clear hS; go_simp; try rfl)
  try simp only [Act.put, List.setIfInBounds_toArray, List.set_cons_zero, List.set_cons_succ]
  have K2 := Lib.hid (K2.out.step BA1.out)
  obtain ⟨s0, s1, s2, f0, f1, f2⟩ := K2.out.all
  have gs : ∀ x y z, FrS (fun k => k = w.heap.size + 1) w2 (((wa.setCell ⟨w.heap.size + 1, 0, none⟩ x).setCell ⟨w.heap.size + 1, 1, none⟩ y).setCell ⟨w.heap.size + 1, 2, none⟩ z) := fun x y z => (FrS.of_below (p := fun k => k = w.heap.size + 1) BA1.out).set3 (b := w.heap.size + 1) (.inl rfl) x y z
  have GS := Lib.hid gs
  clear gs
  refine wpAnyH_ready (rs := [9]) (by kernel_rfl) (by simp) ?_
  refine AllReadyH.cons (by simp only [List.getElem?_toArray, List.getElem?_cons_succ, List.getElem?_cons_zero]; rfl) (fun KK hKK => ?_) AllReadyH.nil
  go_simp
  try dsimp only
  refine hKK.out _ _ ?_ (fun hH2 => ?_)
  · exact GS.out _ _ _
  clear hKK KK
  have hO := hH
  clear hH
  have hH := hH2
  clear hH2
  try simp only [Act.put, List.setIfInBounds_toArray, List.set_cons_zero, List.set_cons_succ]
  refine wpAnyH_done (by kernel_rfl) ?_ _
  go_wp2_with fail
  obtain ⟨E0, E1, E2, -, -, -⟩ := (K2.out.set3 (.int .i64 r) (.int .i64 c) (.slice (some ⟨w2.heap.size, 0, none⟩) 0 0)).all
  have B2 := BH.out.trans (BA1.out.mono BH.out.size)
  refine bodyPost_ret (v := .agg #[.int .i64 r, .int .i64 c, .slice (some ⟨w2.heap.size, 0, none⟩) 0 0]) (by simp [results, Try.results87, go_sem, E0, E1, E2]) rfl ⟨w2.heap.size, 0, rfl, Nat.le_trans BH.out.size GB.out, ((GI.out.far (GI.out.ints.ne_blk K2.out) _).far (GI.out.ints.ne_blk K2.out) _).far (GI.out.ints.ne_blk K2.out) _, ?_⟩
  exact (((B2.setCell (by show w.heap.size ≤ w.heap.size + 1; omega) _).setCell (by show w.heap.size ≤ w.heap.size + 1; omega) _).setCell (by show w.heap.size ≤ w.heap.size + 1; omega) _)
/-- Of what was there or of nil. -/
def Spot (a : Option Addr) : Prop := a = none ∨ ∃ g o : Nat, a = some ⟨g, o, none⟩
theorem Spot.of (g o : Nat) : Spot (some ⟨g, o, none⟩) := .inr ⟨g, o, rfl⟩
theorem sCopyA (r c : Int) (a : Option Addr) (m n : Nat) (xs : List Int) (w : World) (h : Rd w a xs) (ha : Spot a) (hx : xs.length = n) (hn : n ≤ 1048576) :
    Calls Try.prog 87 #[.agg #[.int .i64 r, .int .i64 c, .slice a n m]] w (fun e w' => ∃ g cap : Nat, e = .returned (.agg #[.int .i64 r, .int .i64 c, .slice (some ⟨g, 0, none⟩) n cap]) ∧ w.heap.size ≤ g ∧ IntsC w' g cap xs ∧ Below w.heap.size w w') := by
  rcases ha with rfl | ⟨g, o, rfl⟩
  · have e : xs = [] := by
      cases xs with
      | nil => rfl
      | cons x xs => obtain ⟨b, o, h1, -⟩ := h 0 (by simp); exact absurd h1 (by simp)
    subst e
    subst hx
    exact sCopyN r c m w
  · exact sCopy r c g o m n xs w h hx hn
end Go.Proofs.Ytcapddcmnjeloaa
end

section
/-
  A block of ints, cell by cell.
-/
namespace Go.Proofs.Ytcapddcmnjeloaa
open Go.RowKit

theorem Rd.cells {w : World} {b o : Nat} {zs : List Int} (h : Rd w (some ⟨b, o, none⟩) zs) (j : Nat) (hj : j < zs.length) : w.cell? ⟨b, o + j, none⟩ = some (.int .i64 (zs.getD j 0)) := by
  obtain ⟨b', o', e, hc⟩ := h j hj
  injection e with e
  injection e with e1 e2
  subst e1 e2
  exact hc
theorem Rd.addr {w : World} {a : Option Addr} {zs : List Int} (h : Rd w a zs) (hz : 0 < zs.length) : ∃ b o : Nat, a = some ⟨b, o, none⟩ := by
  obtain ⟨b, o, e, -⟩ := h 0 hz
  exact ⟨b, o, e⟩
end Go.Proofs.Ytcapddcmnjeloaa
end

section
/-
  Chapter 5, in the model: an operation on rows, in place.
-/
namespace Go.Proofs.Ytcapddcmnjeloaa
set_option maxRecDepth 100000
open Go.RowKit

/-! ### l5Do -/
/-- A statement that gives back nothing. -/
def Void (e : Ending) : Prop := e = .returned (.tuple #[])
theorem tenF {W w' : World} {b b' : Nat} {t t' : TypeId} {p q r x y z u : Value} {pr : Nat → Prop} (h0 : Blk3 W b t p q r) (h1 : Blk4 W b' t' x y z u) (hg : FrS pr W w') (hb : ¬ pr b) (hb' : ¬ pr b') :
    w'.cell? ⟨b, 0, none⟩ = some p ∧ w'.cell? ⟨b, 1, none⟩ = some q ∧ w'.cell? ⟨b, 2, none⟩ = some r ∧ w'.cell? ⟨b', 0, none⟩ = some x ∧ w'.cell? ⟨b', 1, none⟩ = some y ∧ w'.cell? ⟨b', 2, none⟩ = some z ∧ w'.cell? ⟨b', 3, none⟩ = some u := by
  have k1 : Blk4 w' b' t' x y z u := (hg.block b' h1.lt hb').trans h1
  exact ⟨(h0.frs hg hb).cell0, (h0.frs hg hb).cell1, (h0.frs hg hb).cell2, k1.cell0, k1.cell1, k1.cell2, k1.cell3⟩
/-- Ints in a block whose size is known. -/
def IntsZ (S : Nat) (w : World) (g : Nat) (zs : List Int) : Prop := Ints w g zs ∧ ∃ (cur : Array Value) (t : TypeId) (f : Nat × Nat), w.heap[g]? = some (.cells cur t f) ∧ cur.size = S
theorem IntsZ.of {w : World} {g : Nat} {zs : List Int} (h : Ints w g zs) : ∃ S, IntsZ S w g zs := by
  obtain ⟨rest, e⟩ := id h
  exact ⟨_, h, _, _, _, e, rfl⟩
theorem IntsZ.move {S : Nat} {w w' : World} {g : Nat} {zs : List Int} (h : IntsZ S w g zs) (e : w'.heap[g]? = w.heap[g]?) : IntsZ S w' g zs := by
  obtain ⟨h1, cur, t, f, h2, h3⟩ := h
  exact ⟨h1.move e, cur, t, f, e.trans h2, h3⟩
theorem IntsZ.lt {S : Nat} {w : World} {g : Nat} {zs : List Int} (h : IntsZ S w g zs) : g < w.heap.size := h.1.lt
theorem IntsZ.cell {S : Nat} {w : World} {g : Nat} {zs : List Int} (h : IntsZ S w g zs) {i : Nat} (hi : i < zs.length) : w.cell? ⟨g, i, none⟩ = some (.int .i64 (zs.getD i 0)) := h.1.cell hi
theorem IntsZ.free {S : Nat} {w : World} {g : Nat} {zs : List Int} (h : IntsZ S w g zs) (i : Nat) : w.frozen? ⟨g, i, none⟩ = false := h.1.free i
theorem IntsZ.drew {S : Nat} {w : World} {g : Nat} {zs : List Int} (h : IntsZ S w g zs) : IntsZ S w.drew g zs := h
theorem IntsZ.old {S : Nat} {w : World} {g : Nat} {zs : List Int} (h : IntsZ S w g zs) (o : Obj) : IntsZ S (w.alloc o) g zs := h.move (Below.heap_alloc w o g h.lt)
theorem IntsZ.set {S : Nat} {w : World} {g : Nat} {zs : List Int} (h : IntsZ S w g zs) (i : Nat) (z : Int) : IntsZ S (w.setCell ⟨g, i, none⟩ (.int .i64 z)) g (zs.set i z) := by
  obtain ⟨h1, cur, t, f, h2, h3⟩ := h
  refine ⟨h1.set i z, cur.setIfInBounds i (.int .i64 z), t, f, ?_, by simp [h3]⟩
  obtain ⟨hlt, hget⟩ := Array.getElem?_eq_some_iff.mp h2
  simp [World.setCell, hlt, Array.getElem_modify, hget]
theorem IntsC.z {w : World} {g cap : Nat} {zs : List Int} (h : IntsC w g cap zs) : IntsZ cap w g zs := by
  obtain ⟨-, rest, hl, e⟩ := id h
  exact ⟨h.ints, _, _, _, e, by simp; omega⟩
theorem IntsZ.c {w : World} {g cap : Nat} {zs : List Int} (h : IntsZ cap w g zs) (hc : cap ≤ maxLen) : IntsC w g cap zs := by
  obtain ⟨⟨rest, e⟩, cur, t, f, h2, h3⟩ := h
  rw [e] at h2
  simp only [Option.some.injEq, Obj.cells.injEq] at h2
  refine ⟨hc, rest, ?_, e⟩
  rw [← h3, ← h2.1]
  simp
set_option maxRecDepth 100000 in
set_option maxHeartbeats 4000000 in
theorem sDoZ (S R C Iq J g n cap : Nat) (k t : Int) (xs : List Int) (w : World) (hi : IntsZ S w g xs) (hx : xs.length = n) (hn : n = R * C) (hR : R ≤ 24) (hC : C ≤ 24) (hI : Iq < R) (hJ : J < R) (hk : k = 0 ∨ k = 1 ∨ k = 2) (hIJ : k = 0 → Iq ≠ J) :
    Calls Try.prog 88 #[.agg #[.int .i64 R, .int .i64 C, .slice (some ⟨g, 0, none⟩) n cap], .agg #[.int .i64 k, .int .i64 Iq, .int .i64 J, .int .i64 t]] w (fun e w' => Void e ∧ IntsZ S w' g (opL k Iq J t C xs) ∧ w.grownBy w' (some g)) := by
  have hle : R * C ≤ 24 * 24 := Nat.mul_le_mul hR hC
  have I0 := Lib.hid hi
  have HX := Lib.hid hx
  have HN := Lib.hid hn
  have HIJ := Lib.hid hIJ
  have gl := hi.lt
  rw [← hn] at hle
  have K0 : Hid (Blk3 ((w.alloc (.cells #[.int .i64 R, .int .i64 C, .slice (some ⟨g, 0, none⟩) n cap] 26)).alloc (.cells #[.int .i64 k, .int .i64 Iq, .int .i64 J, .int .i64 t] 105)) w.heap.size 26 (.int .i64 R) (.int .i64 C) (.slice (some ⟨g, 0, none⟩) n cap)) := (Blk3.at_ _ _ _ _ rfl).old _
  have K1 : Hid (Blk4 ((w.alloc (.cells #[.int .i64 R, .int .i64 C, .slice (some ⟨g, 0, none⟩) n cap] 26)).alloc (.cells #[.int .i64 k, .int .i64 Iq, .int .i64 J, .int .i64 t] 105)) (w.heap.size + 1) 105 (.int .i64 k) (.int .i64 Iq) (.int .i64 J) (.int .i64 t)) := Blk4.at_ _ _ _ _ _ (by simp)
  have I1 : Hid (IntsZ S ((w.alloc (.cells #[.int .i64 R, .int .i64 C, .slice (some ⟨g, 0, none⟩) n cap] 26)).alloc (.cells #[.int .i64 k, .int .i64 Iq, .int .i64 J, .int .i64 t] 105)) g xs) := (hi.old _).old _
  have G0 : Hid (w.grownBy ((w.alloc (.cells #[.int .i64 R, .int .i64 C, .slice (some ⟨g, 0, none⟩) n cap] 26)).alloc (.cells #[.int .i64 k, .int .i64 Iq, .int .i64 J, .int .i64 t] 105)) (some g)) := (World.grownBy_alloc w _ _).trans (World.grownBy_alloc _ _ _)
  clear hi hx hn hIJ
  go_enter Try.func88, Try.ntmps88
  go_wp2_with fail
  go_loopw [4, 5, 6] (fun i _ _ wr => ∃ q : Nat, i = .int .i64 q ∧ q ≤ C ∧ IntsZ S wr g (opTo k Iq J t C xs q) ∧ ((w.alloc (.cells #[.int .i64 R, .int .i64 C, .slice (some ⟨g, 0, none⟩) n cap] 26)).alloc (.cells #[.int .i64 k, .int .i64 Iq, .int .i64 J, .int .i64 t] 105)).grownBy wr (some g)) (fun i _ _ _ => C - (intOf i).toNat)
  case atStart => exact ⟨0, rfl, by omega, by rw [opTo_zero]; exact I1.out, World.grownBy.refl _ _⟩
  case round =>
    obtain ⟨q, rfl, hq, hi, hgr⟩ := hrel
    have I := Lib.hid hi
    have G := Lib.hid hgr
    have GW := Lib.hid (G0.out.trans hgr)
    clear hi hgr
    have R0 := Lib.hid (K0.out.keepOne G.out (by omega))
    have R1 := Lib.hid (K1.out.keepOne G.out (by omega))
    obtain ⟨r0, r1, r2, -, -, -⟩ := R0.out.all
    obtain ⟨o0, o1, o2, o3⟩ := R1.out.all
    by_cases hlt : q < C
    · have a1 : Iq * C + q < n := by rw [HN.out]; exact idx_lt hI hlt
      have a2 : J * C + q < n := by rw [HN.out]; exact idx_lt hJ hlt
      have c1 : (Iq : Int) * (C : Int) = ((Iq * C : Nat) : Int) := (Int.natCast_mul _ _).symm
      have c2 : (J : Int) * (C : Int) = ((J * C : Nat) : Int) := (Int.natCast_mul _ _).symm
      have d1 : 0 ≤ (Iq : Int) * (C : Int) ∧ (Iq : Int) * (C : Int) ≤ 600 := by rw [c1]; omega
      have d2 : 0 ≤ (J : Int) * (C : Int) ∧ (J : Int) * (C : Int) ≤ 600 := by rw [c2]; omega
      have e1 : 0 ≤ (Iq : Int) * (C : Int) + (q : Int) := by omega
      have e2 : (Iq : Int) * (C : Int) + (q : Int) < (n : Int) := by rw [c1]; omega
      have e3 : ((Iq : Int) * (C : Int) + (q : Int)).toNat = Iq * C + q := by rw [c1]; omega
      have f1 : 0 ≤ (J : Int) * (C : Int) + (q : Int) := by omega
      have f2 : (J : Int) * (C : Int) + (q : Int) < (n : Int) := by rw [c2]; omega
      have f3 : ((J : Int) * (C : Int) + (q : Int)).toNat = J * C + q := by rw [c2]; omega
      obtain ⟨d11, d12⟩ := d1
      obtain ⟨d21, d22⟩ := d2
      have v1 : IntKind.i64.wrap ((Iq : Int) * (C : Int)) = (Iq : Int) * (C : Int) := IntWalk.i64_in _ (by omega)
      have v2 : IntKind.i64.wrap ((Iq : Int) * (C : Int) + (q : Int)) = (Iq : Int) * (C : Int) + (q : Int) := IntWalk.i64_in _ (by omega)
      have v3 : IntKind.i64.wrap ((J : Int) * (C : Int)) = (J : Int) * (C : Int) := IntWalk.i64_in _ (by omega)
      have v4 : IntKind.i64.wrap ((J : Int) * (C : Int) + (q : Int)) = (J : Int) * (C : Int) + (q : Int) := IntWalk.i64_in _ (by omega)
      have h1 := I.out.cell (i := Iq * C + q) (by rw [opTo_length, HX.out]; exact a1)
      have h2 := I.out.cell (i := J * C + q) (by rw [opTo_length, HX.out]; exact a2)
      rw [opTo_at _ _ _ _ _ _ _ _ hlt (by rw [HX.out]; exact a1)] at h1
      rw [opTo_at _ _ _ _ _ _ _ _ hlt (by rw [HX.out]; exact a2)] at h2
      have fr1 := I.out.free (Iq * C + q)
      have fr2 := I.out.free (J * C + q)
      have hlen : xs.length = R * C := by rw [HX.out, HN.out]
      obtain ⟨x, hxx⟩ : ∃ x, xs.getD (Iq * C + q) 0 = x := ⟨_, rfl⟩
      obtain ⟨y, hyy⟩ : ∃ y, xs.getD (J * C + q) 0 = y := ⟨_, rfl⟩
      have s0 := op_swap Iq J t C R xs q hlen hI hJ hlt
      have s1 := op_one 1 Iq J t C R xs q (mulB x (-1)) hlen hI hlt (.inl rfl) (by rw [opAt_one _ _ _ _ _ hlt, hxx])
      have s2 := op_one 2 Iq J t C R xs q (addB x (mulB y t)) hlen hI hlt (.inr rfl) (by rw [opAt_two _ _ _ _ _ hlt, hxx, hyy])
      rw [hxx, hyy] at s0
      rw [hxx] at h1
      rw [hyy] at h2
      have S0 := Lib.hid s0
      have S1 := Lib.hid s1
      have S2 := Lib.hid s2
      have A1 := Lib.hid a1
      have A2 := Lib.hid a2
      clear c1 c2 hxx hyy s0 s1 s2 hlen a1 a2
      rcases hk with e0 | e0 | e0
      · have n0 : (k == 0) = true := by simpa using e0
        have n1 : (k == 1) = false := by rw [e0]; rfl
        have KE := Lib.hid e0
        clear e0
        have IS := I.out.set (Iq * C + q) y
        have fr2 := IS.free (J * C + q)
        have hold := IS.cell (i := J * C + q) (by rw [List.length_set, opTo_length, HX.out]; exact A2.out)
        have rr0 : Blk3 (wr.setCell ⟨g, Iq * C + q, none⟩ (.int .i64 y)) w.heap.size 26 (.int .i64 R) (.int .i64 C) (.slice (some ⟨g, 0, none⟩) n cap) := R0.out.far (by simp; omega) _
        have rr1 : Blk4 (wr.setCell ⟨g, Iq * C + q, none⟩ (.int .i64 y)) (w.heap.size + 1) 105 (.int .i64 k) (.int .i64 Iq) (.int .i64 J) (.int .i64 t) := (Below.heap_setCell wr ⟨g, Iq * C + q, none⟩ (.int .i64 y) (w.heap.size + 1) (by simp; omega)).trans R1.out
        obtain ⟨z0, z1, z2, -, -, -⟩ := rr0.all
        obtain ⟨y0, y1, y2, y3⟩ := rr1.all
        have IS2 := Lib.hid (IS.set (J * C + q) x)
        clear IS rr0 rr1
        go_wp2_with fail
        go_roundw
        case rel =>
          refine ⟨q + 1, by go_num, by omega, ?_, ?_⟩
          · have := S0.out
            rcases this with h | h
            · have z := IS2.out; rw [KE.out] at z ⊢; rw [← h]; exact z
            · exact absurd h (HIJ.out KE.out)
          · exact grown_set_one (a := ⟨g, J * C + q, none⟩) (grown_set_one (a := ⟨g, Iq * C + q, none⟩) G.out rfl _) rfl _
        case measure => simp [intOf]; omega
      · have n0 : (k == 0) = false := by rw [e0]; rfl
        have n1 : (k == 1) = true := by simpa using e0
        have KE := Lib.hid e0
        clear e0
        go_upto_region 12 with fail
        refine wp_region_held_drew (S := fun w' => FrS (fun k => k = g) wr w') (by kernel_rfl) (FrS.refl _ _).drew (fun hH => ?_)
        refine wpAnyH_take (i := 0) (v := ?_) (by simp only [List.getElem?_toArray, List.getElem?_cons_zero]; rfl) (by kernel_rfl) (by kernel_rfl) (by kernel_rfl) (by exact fun _ _ _ h => h) (Or.inl ⟨by rfl, ?_⟩) hH ?_
        rotate_left
        · (intro wS hS; clear hS; go_simp; try rfl)
        try simp only [Act.put, List.setIfInBounds_toArray, List.set_cons_zero, List.set_cons_succ]
        refine wpAnyH_take (i := 1) (v := ?_) (by simp only [List.getElem?_toArray, List.getElem?_cons_succ, List.getElem?_cons_zero]; rfl) (by kernel_rfl) (by kernel_rfl) (by kernel_rfl) (by exact fun _ _ _ h => h) (Or.inl ⟨by rfl, ?_⟩) hH ?_
        rotate_left
        · (intro wS hS; (try dsimp only at hS); obtain ⟨k1, k2, k3, k4, k5, k6, k7⟩ := tenF R0.out R1.out hS (by omega) (by omega); go_simp; try rfl)
        try simp only [Act.put, List.setIfInBounds_toArray, List.set_cons_zero, List.set_cons_succ]
        refine wpAnyH_take (i := 2) (v := ?_) (by simp only [List.getElem?_toArray, List.getElem?_cons_succ, List.getElem?_cons_zero]; rfl) (by kernel_rfl) (by kernel_rfl) (by kernel_rfl) (by exact fun _ _ _ h => h) (Or.inl ⟨by rfl, ?_⟩) hH ?_
        rotate_left
        · (intro wS hS; clear hS; go_simp; try rfl)
        try simp only [Act.put, List.setIfInBounds_toArray, List.set_cons_zero, List.set_cons_succ]
        refine wpAnyH_take (i := 3) (v := ?_) (by simp only [List.getElem?_toArray, List.getElem?_cons_succ, List.getElem?_cons_zero]; rfl) (by kernel_rfl) (by kernel_rfl) (by kernel_rfl) (by exact fun _ _ _ h => h) (Or.inl ⟨by rfl, ?_⟩) hH ?_
        rotate_left
        · (intro wS hS; (try dsimp only at hS); obtain ⟨k1, k2, k3, k4, k5, k6, k7⟩ := tenF R0.out R1.out hS (by omega) (by omega); go_simp; try rfl)
        try simp only [Act.put, List.setIfInBounds_toArray, List.set_cons_zero, List.set_cons_succ]
        refine wpAnyH_take (i := 4) (v := ?_) (by simp only [List.getElem?_toArray, List.getElem?_cons_succ, List.getElem?_cons_zero]; rfl) (by kernel_rfl) (by kernel_rfl) (by kernel_rfl) (by exact fun _ _ _ h => h) (Or.inl ⟨by rfl, ?_⟩) hH ?_
        rotate_left
        · (intro wS hS; clear hS; go_simp; try rfl)
        try simp only [Act.put, List.setIfInBounds_toArray, List.set_cons_zero, List.set_cons_succ]
        refine wpAnyH_take (i := 5) (v := ?_) (by simp only [List.getElem?_toArray, List.getElem?_cons_succ, List.getElem?_cons_zero]; rfl) (by kernel_rfl) (by kernel_rfl) (by kernel_rfl) (by exact fun _ _ _ h => h) (Or.inl ⟨by rfl, ?_⟩) hH ?_
        rotate_left
        · (intro wS hS; (try dsimp only at hS); obtain ⟨k1, k2, k3, k4, k5, k6, k7⟩ := tenF R0.out R1.out hS (by omega) (by omega); go_simp; try rfl)
        try simp only [Act.put, List.setIfInBounds_toArray, List.set_cons_zero, List.set_cons_succ]
        refine wpAnyH_take (i := 6) (v := ?_) (by simp only [List.getElem?_toArray, List.getElem?_cons_succ, List.getElem?_cons_zero]; rfl) (by kernel_rfl) (by kernel_rfl) (by kernel_rfl) (by exact fun _ _ _ h => h) (Or.inl ⟨by rfl, ?_⟩) hH ?_
        rotate_left
        · (intro wS hS; clear hS; go_simp; try rfl)
        try simp only [Act.put, List.setIfInBounds_toArray, List.set_cons_zero, List.set_cons_succ]
        refine wpAnyH_take (i := 7) (v := ?_) (by simp only [List.getElem?_toArray, List.getElem?_cons_succ, List.getElem?_cons_zero]; rfl) (by kernel_rfl) (by kernel_rfl) (by kernel_rfl) (by exact fun _ _ _ h => h) (Or.inl ⟨by rfl, ?_⟩) hH ?_
        rotate_left
        · (intro wS hS; clear hS; go_simp; try rfl)
        try simp only [Act.put, List.setIfInBounds_toArray, List.set_cons_zero, List.set_cons_succ]
        refine wpAnyH_take (i := 8) (v := ?_) (by simp only [List.getElem?_toArray, List.getElem?_cons_succ, List.getElem?_cons_zero]; rfl) (by kernel_rfl) (by kernel_rfl) (by kernel_rfl) (by exact fun _ _ _ h => h) (Or.inl ⟨by rfl, ?_⟩) hH ?_
        rotate_left
        · (intro wS hS; clear hS; go_simp; try rfl)
        try simp only [Act.put, List.setIfInBounds_toArray, List.set_cons_zero, List.set_cons_succ]
        refine wpAnyH_take (i := 9) (v := ?_) (by simp only [List.getElem?_toArray, List.getElem?_cons_succ, List.getElem?_cons_zero]; rfl) (by kernel_rfl) (by kernel_rfl) (by kernel_rfl) (by exact fun _ _ _ h => h) (Or.inl ⟨by rfl, ?_⟩) hH ?_
        rotate_left
        · (intro wS hS; clear hS; go_simp; try rfl)
        try simp only [Act.put, List.setIfInBounds_toArray, List.set_cons_zero, List.set_cons_succ]
        refine wpAnyH_ready (rs := [10]) (by kernel_rfl) (by simp) ?_
        refine AllReadyH.cons (by simp only [List.getElem?_toArray, List.getElem?_cons_succ, List.getElem?_cons_zero]; rfl) (fun KK hKK => ?_) AllReadyH.nil
        go_simp
        refine (sMulB x (-1) _).mono ?_
        rintro e w' ⟨rfl, rfl⟩
        try dsimp only
        refine hKK.out _ _ ?_ (fun hH2 => ?_)
        · exact (FrS.refl _ wr).drew
        clear hKK KK
        have hO := hH
        clear hH
        have hH := hH2
        clear hH2
        try simp only [Act.put, List.setIfInBounds_toArray, List.set_cons_zero, List.set_cons_succ]
        refine wpAnyH_take (i := 11) (v := ?_) (by simp only [List.getElem?_toArray, List.getElem?_cons_succ, List.getElem?_cons_zero]; rfl) (by kernel_rfl) (by kernel_rfl) (by kernel_rfl) (by exact fun _ _ _ h => h) (Or.inl ⟨by rfl, ?_⟩) hH ?_
        rotate_left
        · (intro wS hS; clear hS; go_simp; try rfl)
        try simp only [Act.put, List.setIfInBounds_toArray, List.set_cons_zero, List.set_cons_succ]
        have IX := Lib.hid (I.out.set (Iq * C + q) (mulB x (-1))).drew
        refine wpAnyH_ready (rs := [12]) (by kernel_rfl) (by simp) ?_
        refine AllReadyH.cons (by simp only [List.getElem?_toArray, List.getElem?_cons_succ, List.getElem?_cons_zero]; rfl) (fun KK hKK => ?_) AllReadyH.nil
        go_simp
        try dsimp only
        refine hKK.out _ _ ?_ (fun hH2 => ?_)
        · exact ((FrS.refl (fun k => k = g) wr).set (a := ⟨g, Iq * C + q, none⟩) (.inl rfl) _).drew
        clear hKK KK
        have hO := hH
        clear hH
        have hH := hH2
        clear hH2
        try simp only [Act.put, List.setIfInBounds_toArray, List.set_cons_zero, List.set_cons_succ]
        refine wpAnyH_done (by kernel_rfl) ?_ _
        go_wp2_with fail
        go_roundw
        case rel => exact ⟨q + 1, by go_num, by omega, by have z := IX.out; rw [KE.out] at z ⊢; rw [← S1.out]; exact z, grown_drew_one (grown_set_one (a := ⟨g, Iq * C + q, none⟩) G.out rfl _)⟩
        case measure => simp [intOf]; omega
      · have n0 : (k == 0) = false := by rw [e0]; rfl
        have n1 : (k == 1) = false := by rw [e0]; rfl
        have KE := Lib.hid e0
        clear e0
        go_upto_region 7 with fail
        refine wp_region_held_drew (S := fun w' => FrS (fun k => k = g) wr w') (by kernel_rfl) (FrS.refl _ _).drew (fun hH => ?_)
        refine wpAnyH_take (i := 0) (v := ?_) (by simp only [List.getElem?_toArray, List.getElem?_cons_zero]; rfl) (by kernel_rfl) (by kernel_rfl) (by kernel_rfl) (by exact fun _ _ _ h => h) (Or.inl ⟨by rfl, ?_⟩) hH ?_
        rotate_left
        · (intro wS hS; clear hS; go_simp; try rfl)
        try simp only [Act.put, List.setIfInBounds_toArray, List.set_cons_zero, List.set_cons_succ]
        refine wpAnyH_take (i := 1) (v := ?_) (by simp only [List.getElem?_toArray, List.getElem?_cons_succ, List.getElem?_cons_zero]; rfl) (by kernel_rfl) (by kernel_rfl) (by kernel_rfl) (by exact fun _ _ _ h => h) (Or.inl ⟨by rfl, ?_⟩) hH ?_
        rotate_left
        · (intro wS hS; (try dsimp only at hS); obtain ⟨k1, k2, k3, k4, k5, k6, k7⟩ := tenF R0.out R1.out hS (by omega) (by omega); go_simp; try rfl)
        try simp only [Act.put, List.setIfInBounds_toArray, List.set_cons_zero, List.set_cons_succ]
        refine wpAnyH_take (i := 2) (v := ?_) (by simp only [List.getElem?_toArray, List.getElem?_cons_succ, List.getElem?_cons_zero]; rfl) (by kernel_rfl) (by kernel_rfl) (by kernel_rfl) (by exact fun _ _ _ h => h) (Or.inl ⟨by rfl, ?_⟩) hH ?_
        rotate_left
        · (intro wS hS; clear hS; go_simp; try rfl)
        try simp only [Act.put, List.setIfInBounds_toArray, List.set_cons_zero, List.set_cons_succ]
        refine wpAnyH_take (i := 3) (v := ?_) (by simp only [List.getElem?_toArray, List.getElem?_cons_succ, List.getElem?_cons_zero]; rfl) (by kernel_rfl) (by kernel_rfl) (by kernel_rfl) (by exact fun _ _ _ h => h) (Or.inl ⟨by rfl, ?_⟩) hH ?_
        rotate_left
        · (intro wS hS; (try dsimp only at hS); obtain ⟨k1, k2, k3, k4, k5, k6, k7⟩ := tenF R0.out R1.out hS (by omega) (by omega); go_simp; try rfl)
        try simp only [Act.put, List.setIfInBounds_toArray, List.set_cons_zero, List.set_cons_succ]
        refine wpAnyH_take (i := 4) (v := ?_) (by simp only [List.getElem?_toArray, List.getElem?_cons_succ, List.getElem?_cons_zero]; rfl) (by kernel_rfl) (by kernel_rfl) (by kernel_rfl) (by exact fun _ _ _ h => h) (Or.inl ⟨by rfl, ?_⟩) hH ?_
        rotate_left
        · (intro wS hS; clear hS; go_simp; try rfl)
        try simp only [Act.put, List.setIfInBounds_toArray, List.set_cons_zero, List.set_cons_succ]
        refine wpAnyH_take (i := 5) (v := ?_) (by simp only [List.getElem?_toArray, List.getElem?_cons_succ, List.getElem?_cons_zero]; rfl) (by kernel_rfl) (by kernel_rfl) (by kernel_rfl) (by exact fun _ _ _ h => h) (Or.inl ⟨by rfl, ?_⟩) hH ?_
        rotate_left
        · (intro wS hS; (try dsimp only at hS); obtain ⟨k1, k2, k3, k4, k5, k6, k7⟩ := tenF R0.out R1.out hS (by omega) (by omega); go_simp; try rfl)
        try simp only [Act.put, List.setIfInBounds_toArray, List.set_cons_zero, List.set_cons_succ]
        refine wpAnyH_take (i := 6) (v := ?_) (by simp only [List.getElem?_toArray, List.getElem?_cons_succ, List.getElem?_cons_zero]; rfl) (by kernel_rfl) (by kernel_rfl) (by kernel_rfl) (by exact fun _ _ _ h => h) (Or.inl ⟨by rfl, ?_⟩) hH ?_
        rotate_left
        · (intro wS hS; clear hS; go_simp; try rfl)
        try simp only [Act.put, List.setIfInBounds_toArray, List.set_cons_zero, List.set_cons_succ]
        refine wpAnyH_take (i := 7) (v := ?_) (by simp only [List.getElem?_toArray, List.getElem?_cons_succ, List.getElem?_cons_zero]; rfl) (by kernel_rfl) (by kernel_rfl) (by kernel_rfl) (by exact fun _ _ _ h => h) (Or.inl ⟨by rfl, ?_⟩) hH ?_
        rotate_left
        · (intro wS hS; clear hS; go_simp; try rfl)
        try simp only [Act.put, List.setIfInBounds_toArray, List.set_cons_zero, List.set_cons_succ]
        refine wpAnyH_take (i := 8) (v := ?_) (by simp only [List.getElem?_toArray, List.getElem?_cons_succ, List.getElem?_cons_zero]; rfl) (by kernel_rfl) (by kernel_rfl) (by kernel_rfl) (by exact fun _ _ _ h => h) (Or.inl ⟨by rfl, ?_⟩) hH ?_
        rotate_left
        · (intro wS hS; clear hS; go_simp; try rfl)
        try simp only [Act.put, List.setIfInBounds_toArray, List.set_cons_zero, List.set_cons_succ]
        refine wpAnyH_take (i := 9) (v := ?_) (by simp only [List.getElem?_toArray, List.getElem?_cons_succ, List.getElem?_cons_zero]; rfl) (by kernel_rfl) (by kernel_rfl) (by kernel_rfl) (by exact fun _ _ _ h => h) (Or.inl ⟨by rfl, ?_⟩) hH ?_
        rotate_left
        · (intro wS hS; clear hS; go_simp; try rfl)
        try simp only [Act.put, List.setIfInBounds_toArray, List.set_cons_zero, List.set_cons_succ]
        refine wpAnyH_take (i := 10) (v := ?_) (by simp only [List.getElem?_toArray, List.getElem?_cons_succ, List.getElem?_cons_zero]; rfl) (by kernel_rfl) (by kernel_rfl) (by kernel_rfl) (by exact fun _ _ _ h => h) (Or.inl ⟨by rfl, ?_⟩) hH ?_
        rotate_left
        · (intro wS hS; clear hS; go_simp; try rfl)
        try simp only [Act.put, List.setIfInBounds_toArray, List.set_cons_zero, List.set_cons_succ]
        refine wpAnyH_take (i := 11) (v := ?_) (by simp only [List.getElem?_toArray, List.getElem?_cons_succ, List.getElem?_cons_zero]; rfl) (by kernel_rfl) (by kernel_rfl) (by kernel_rfl) (by exact fun _ _ _ h => h) (Or.inl ⟨by rfl, ?_⟩) hH ?_
        rotate_left
        · (intro wS hS; clear hS; go_simp; try rfl)
        try simp only [Act.put, List.setIfInBounds_toArray, List.set_cons_zero, List.set_cons_succ]
        refine wpAnyH_take (i := 12) (v := ?_) (by simp only [List.getElem?_toArray, List.getElem?_cons_succ, List.getElem?_cons_zero]; rfl) (by kernel_rfl) (by kernel_rfl) (by kernel_rfl) (by exact fun _ _ _ h => h) (Or.inl ⟨by rfl, ?_⟩) hH ?_
        rotate_left
        · (intro wS hS; (try dsimp only at hS); obtain ⟨k1, k2, k3, k4, k5, k6, k7⟩ := tenF R0.out R1.out hS (by omega) (by omega); go_simp; try rfl)
        try simp only [Act.put, List.setIfInBounds_toArray, List.set_cons_zero, List.set_cons_succ]
        refine wpAnyH_ready (rs := [13]) (by kernel_rfl) (by simp) ?_
        refine AllReadyH.cons (by simp only [List.getElem?_toArray, List.getElem?_cons_succ, List.getElem?_cons_zero]; rfl) (fun KK hKK => ?_) AllReadyH.nil
        go_simp
        refine (sMulB y t _).mono ?_
        rintro e w' ⟨rfl, rfl⟩
        try dsimp only
        refine hKK.out _ _ ?_ (fun hH2 => ?_)
        · exact (FrS.refl _ wr).drew
        clear hKK KK
        have hO := hH
        clear hH
        have hH := hH2
        clear hH2
        try simp only [Act.put, List.setIfInBounds_toArray, List.set_cons_zero, List.set_cons_succ]
        refine wpAnyH_ready (rs := [14]) (by kernel_rfl) (by simp) ?_
        refine AllReadyH.cons (by simp only [List.getElem?_toArray, List.getElem?_cons_succ, List.getElem?_cons_zero]; rfl) (fun KK hKK => ?_) AllReadyH.nil
        go_simp
        refine (sAddB x _ _).mono ?_
        rintro e w' ⟨rfl, rfl⟩
        try dsimp only
        refine hKK.out _ _ ?_ (fun hH2 => ?_)
        · exact (FrS.refl _ wr).drew
        clear hKK KK
        have hO := hH
        clear hH
        have hH := hH2
        clear hH2
        try simp only [Act.put, List.setIfInBounds_toArray, List.set_cons_zero, List.set_cons_succ]
        refine wpAnyH_take (i := 15) (v := ?_) (by simp only [List.getElem?_toArray, List.getElem?_cons_succ, List.getElem?_cons_zero]; rfl) (by kernel_rfl) (by kernel_rfl) (by kernel_rfl) (by exact fun _ _ _ h => h) (Or.inl ⟨by rfl, ?_⟩) hH ?_
        rotate_left
        · (intro wS hS; clear hS; go_simp; try rfl)
        try simp only [Act.put, List.setIfInBounds_toArray, List.set_cons_zero, List.set_cons_succ]
        have IX := Lib.hid (I.out.set (Iq * C + q) (addB x (mulB y t))).drew
        refine wpAnyH_ready (rs := [16]) (by kernel_rfl) (by simp) ?_
        refine AllReadyH.cons (by simp only [List.getElem?_toArray, List.getElem?_cons_succ, List.getElem?_cons_zero]; rfl) (fun KK hKK => ?_) AllReadyH.nil
        go_simp
        try dsimp only
        refine hKK.out _ _ ?_ (fun hH2 => ?_)
        · exact ((FrS.refl (fun k => k = g) wr).set (a := ⟨g, Iq * C + q, none⟩) (.inl rfl) _).drew
        clear hKK KK
        have hO := hH
        clear hH
        have hH := hH2
        clear hH2
        try simp only [Act.put, List.setIfInBounds_toArray, List.set_cons_zero, List.set_cons_succ]
        refine wpAnyH_done (by kernel_rfl) ?_ _
        go_wp2_with fail
        go_roundw
        case rel => exact ⟨q + 1, by go_num, by omega, by have z := IX.out; rw [KE.out] at z ⊢; rw [← S2.out]; exact z, grown_drew_one (grown_set_one (a := ⟨g, Iq * C + q, none⟩) G.out rfl _)⟩
        case measure => simp [intOf]; omega
    · have hq2 : decide (q < C) = false := by simpa using hlt
      have hqC : q = C := by omega
      have EQ : Hid (opTo k Iq J t C xs q = opL k Iq J t C xs) := by
        show opTo k Iq J t C xs q = opL k Iq J t C xs
        rw [hqC]
        refine opTo_all _ _ _ _ _ _ ?_
        rcases Nat.eq_zero_or_pos C with e | e
        · left; rw [HX.out, HN.out, e, Nat.mul_zero]
        · exact .inr e
      clear hqC
      go_wp2_with fail
      have II : IntsZ S wr g (opL k Iq J t C xs) := by rw [← EQ.out]; exact I.out
      go_end0
      exact ⟨rfl, II, GW.out⟩
theorem sDo (R C Iq J g n cap : Nat) (k t : Int) (xs : List Int) (w : World) (hi : Ints w g xs) (hx : xs.length = n) (hn : n = R * C) (hR : R ≤ 24) (hC : C ≤ 24) (hI : Iq < R) (hJ : J < R) (hk : k = 0 ∨ k = 1 ∨ k = 2) (hIJ : k = 0 → Iq ≠ J) :
    Calls Try.prog 88 #[.agg #[.int .i64 R, .int .i64 C, .slice (some ⟨g, 0, none⟩) n cap], .agg #[.int .i64 k, .int .i64 Iq, .int .i64 J, .int .i64 t]] w (fun e w' => Void e ∧ Ints w' g (opL k Iq J t C xs) ∧ w.grownBy w' (some g)) := by
  obtain ⟨S, h⟩ := IntsZ.of hi
  exact (sDoZ S R C Iq J g n cap k t xs w h hx hn hR hC hI hJ hk hIJ).mono fun _ _ ⟨h1, h2, h3⟩ => ⟨h1, h2.1, h3⟩
theorem sDoC (R C Iq J g n cap : Nat) (k t : Int) (xs : List Int) (w : World) (hi : IntsC w g cap xs) (hx : xs.length = n) (hn : n = R * C) (hR : R ≤ 24) (hC : C ≤ 24) (hI : Iq < R) (hJ : J < R) (hk : k = 0 ∨ k = 1 ∨ k = 2) (hIJ : k = 0 → Iq ≠ J) :
    Calls Try.prog 88 #[.agg #[.int .i64 R, .int .i64 C, .slice (some ⟨g, 0, none⟩) n cap], .agg #[.int .i64 k, .int .i64 Iq, .int .i64 J, .int .i64 t]] w (fun e w' => Void e ∧ IntsC w' g cap (opL k Iq J t C xs) ∧ w.grownBy w' (some g)) :=
  (sDoZ cap R C Iq J g n cap k t xs w hi.z hx hn hR hC hI hJ hk hIJ).mono fun _ _ ⟨h1, h2, h3⟩ => ⟨h1, h2.c hi.1, h3⟩
end Go.Proofs.Ytcapddcmnjeloaa
end

section
/-
  Chapter 3, in the model: a matrix of zeros.
-/
namespace Go.Proofs.Ytcapddcmnjeloaa
open Go.RowKit

theorem sNew (R C : Nat) (w : World) (hR : R ≤ 4096) (hC : C ≤ 4096) :
    Calls Try.prog 45 #[.int .i64 R, .int .i64 C] w (NewMat R C (List.replicate (R * C) 0) w) := by
  have hm : R * C ≤ 4096 * 4096 := Nat.mul_le_mul hR hC
  have hmk := makeProd R C (by omega)
  have hp1 : (0 : Int) ≤ (R : Int) * (C : Int) := by rw [← Int.natCast_mul]; omega
  have hp2 : (R : Int) * (C : Int) ≤ 16777216 := by rw [← Int.natCast_mul]; omega
  go_enter Try.func45, Try.ntmps45
  go_wp2_with fail
  refine bodyPost_ret (v := .agg #[.int .i64 R, .int .i64 C, .slice (some ⟨w.heap.size + 1, 0, none⟩) (R * C) (R * C)]) (by simp [results, Try.results45, go_sem]) rfl ⟨w.heap.size + 1, by simp, by omega, ?_, ?_⟩
  · exact Ints.made _ (by simp)
  · exact ((Below.refl _ _).alloc (Nat.le_refl _) _).alloc (by simp) _
end Go.Proofs.Ytcapddcmnjeloaa
end

section
/-
  Plain mathematics of chapter 11: solutions by determinants, that there is only one, and lifting. Nothing of a program is used.
-/
namespace Go.Proofs.Ytcapddcmnjeloaa

/-- A matrix with a column replaced. -/
def rcX (A : Mx) (j : Nat) (b : Nat → Int) : Mx := fun i k => if k = j then b i else A i k
theorem mnr_rcX {A : Mx} {j i : Nat} {b : Nat → Int} : mnr (rcX A j b) i j = mnr A i j := by
  funext r c
  show (if skp j c = j then _ else _) = _
  rw [if_neg (skp_ne j c)]
  rfl
/-- Quotients of determinants solve. -/
theorem cramer : ∀ {n : Nat} (A : Mx) (b : Nat → Int) {k : Nat}, k < n → (sumN n fun j => A k j * det n (rcX A j b)) = det n A * b k
  | 0, _, _, k, h => by omega
  | n + 1, A, b, k, hk => by
    have e : (sumN (n + 1) fun j => A k j * det (n + 1) (rcX A j b)) = sumN (n + 1) fun j => sumN (n + 1) fun i => A k j * adjX n A j i * b i := by
      refine sumN_congr fun j hj => ?_
      rw [det_col_at n (rcX A j b) j hj, sumN_mul_left]
      refine sumN_congr fun i _ => ?_
      rw [mnr_rcX]
      show A k j * (sg (i + j) * (if j = j then b i else A i j) * det n (mnr A i j)) = A k j * (sg (i + j) * det n (mnr A i j)) * b i
      rw [if_pos rfl]
      grind
    rw [e, sumN_swap]
    have e2 : (sumN (n + 1) fun i => sumN (n + 1) fun j => A k j * adjX n A j i * b i) = sumN (n + 1) fun i => (if k = i then det (n + 1) A else 0) * b i := by
      refine sumN_congr fun i hi => ?_
      rw [← sumN_mul, ← mul_adj n A k i hk hi]
      rfl
    rw [e2, sumN_one (a := k) hk (fun i _ hne => by rw [if_neg (fun e => hne e.symm), Int.zero_mul]), if_pos rfl]
/-- Only 0 is turned to 0 where the determinant is not 0. -/
theorem ker_zero : ∀ {n : Nat} (A : Mx) (z : Nat → Int), det n A ≠ 0 → (∀ i, i < n → (sumN n fun j => A i j * z j) = 0) → ∀ j, j < n → z j = 0
  | 0, _, _, _, _, j, hj => by omega
  | n + 1, A, z, hd, h, j, hj => by
    have e : (sumN (n + 1) fun i => adjX n A j i * sumN (n + 1) fun k => A i k * z k) = det (n + 1) A * z j := by
      have e1 : (sumN (n + 1) fun i => adjX n A j i * sumN (n + 1) fun k => A i k * z k) = sumN (n + 1) fun i => sumN (n + 1) fun k => adjX n A j i * A i k * z k := by
        refine sumN_congr fun i _ => ?_
        rw [sumN_mul_left]
        exact sumN_congr fun k _ => (Int.mul_assoc _ _ _).symm
      rw [e1, sumN_swap]
      have e2 : (sumN (n + 1) fun k => sumN (n + 1) fun i => adjX n A j i * A i k * z k) = sumN (n + 1) fun k => (if j = k then det (n + 1) A else 0) * z k := by
        refine sumN_congr fun k hk => ?_
        rw [← sumN_mul, ← adj_mul n A j k hj hk]
        rfl
      rw [e2, sumN_one (a := j) hj (fun i _ hne => by rw [if_neg (fun e => hne e.symm), Int.zero_mul]), if_pos rfl]
    rw [sumN_all_zero (fun i hi => by rw [h i hi, Int.mul_zero])] at e
    rcases Int.mul_eq_zero.mp e.symm with h1 | h1
    · exact absurd h1 hd
    · exact h1
/-- Two solutions, brought to common denominators, are one. -/
theorem sol_uniq {n : Nat} {A : Mx} {b x y : Nat → Int} {s t : Int} (hd : det n A ≠ 0) (hx : ∀ i, i < n → (sumN n fun j => A i j * x j) = s * b i) (hy : ∀ i, i < n → (sumN n fun j => A i j * y j) = t * b i) : ∀ j, j < n → t * x j = s * y j := fun j hj => by
  have := ker_zero A (fun j => t * x j - s * y j) hd (fun i hi => by
    have e : (sumN n fun j => A i j * (t * x j - s * y j)) = t * (sumN n fun j => A i j * x j) + (-s) * sumN n fun j => A i j * y j := by
      rw [sumN_mul_left, sumN_mul_left, ← sumN_add]
      exact sumN_congr fun k _ => by grind
    rw [e, hx i hi, hy i hi]
    grind) j hj
  omega

/-! ### Lifting -/
/-- The digits that are found solve up to what is left. -/
structure LInv (n : Nat) (M : Mx) (b x rest : Nat → Int) (P : Int) : Prop where
  sum : ∀ i, i < n → (sumN n fun j => M i j * x j) + P * rest i = b i
  can : ∀ j, j < n → 0 ≤ x j ∧ x j < P
theorem LInv.start {n : Nat} {M : Mx} {b : Nat → Int} : LInv n M b (fun _ => 0) b 1 where
  sum := fun i _ => by rw [sumN_all_zero (fun k _ => Int.mul_zero _)]; omega
  can := fun _ _ => by decide
theorem LInv.step {n : Nat} {M : Mx} {b x rest dg r' : Nat → Int} {P p : Int} (h : LInv n M b x rest P) (hP : 0 < P) (hd : ∀ j, j < n → 0 ≤ dg j ∧ dg j < p) (hr : ∀ i, i < n → (rest i - sumN n fun j => M i j * dg j) = p * r' i) : LInv n M b (fun j => x j + P * dg j) r' (P * p) where
  sum := fun i hi => by
    have e : (sumN n fun j => M i j * (x j + P * dg j)) = (sumN n fun j => M i j * x j) + P * sumN n fun j => M i j * dg j := by
      rw [sumN_mul_left, ← sumN_add]
      exact sumN_congr fun k _ => by grind
    have h1 := h.sum i hi
    have h2 := hr i hi
    rw [e, Int.mul_assoc, ← h2, Int.mul_sub]
    omega
  can := fun j hj => by
    have h1 := h.can j hj
    have h2 := hd j hj
    have h3 := Int.mul_nonneg (Int.le_of_lt hP) h2.1
    have h4 := Int.mul_le_mul_of_nonneg_left (show dg j + 1 ≤ p by omega) (Int.le_of_lt hP)
    rw [Int.mul_add, Int.mul_one] at h4
    exact ⟨by omega, by omega⟩
/-- What is left can be divided by p: the digits are the inverse's. -/
theorem dig_dvd {n : Nat} {M V : Mx} {p : Int} {rest dg : Nat → Int} (h : InvX p n M V) (hd : ∀ j, j < n → Cg p (dg j) (sumN n fun k => V j k * rest k)) {i : Nat} (hi : i < n) : p ∣ rest i - sumN n fun j => M i j * dg j := by
  have h1 : Cg p (sumN n fun j => M i j * dg j) (sumN n fun j => sumN n fun k => M i j * V j k * rest k) := by
    refine Cg.sum fun j hj => ?_
    refine ((Cg.refl p _).mul (hd j hj)).trans (Cg.of_eq ?_)
    rw [sumN_mul_left]
    exact sumN_congr fun k _ => (Int.mul_assoc _ _ _).symm
  rw [sumN_swap] at h1
  have h2 : Cg p (sumN n fun k => sumN n fun j => M i j * V j k * rest k) (sumN n fun k => idX i k * rest k) := by
    refine Cg.sum fun k hk => ?_
    refine (Cg.of_eq ?_).trans ((h.right i k hi hk).mul (Cg.refl p (rest k)))
    unfold mulX
    rw [← sumN_mul]
  have h3 : (sumN n fun k => idX i k * rest k) = rest i := by
    rw [sumN_one (a := i) hi (fun k _ hne => by unfold idX; rw [if_neg (fun e => hne e.symm), Int.zero_mul])]
    unfold idX
    rw [if_pos rfl, Int.one_mul]
  rw [h3] at h2
  exact (h1.trans h2).symm
end Go.Proofs.Ytcapddcmnjeloaa
end

section
/-
  Plain mathematics of chapter 2: lowest terms. Nothing of a program is imported.
-/
namespace Go.Proofs.Ytcapddcmnjeloaa

/-- A fraction in lowest terms with a denominator from 1 on, both parts within the limit. -/
def IsRatP (n d : Int) : Prop := 1 ≤ d ∧ d ≤ 400000000 ∧ -400000000 ≤ n ∧ n ≤ 400000000 ∧ Int.gcd n d = 1
instance (n d : Int) : Decidable (IsRatP n d) := by unfold IsRatP; exact inferInstance
def isRat (n d : Int) : Bool := decide (IsRatP n d)

/-- The parts of n / d, d not 0, cancelled. -/
def lowN (n d : Int) : Int := if d < 0 then -(n.tdiv (Int.gcd n d)) else n.tdiv (Int.gcd n d)
def lowD (n d : Int) : Int := if d < 0 then -(d.tdiv (Int.gcd n d)) else d.tdiv (Int.gcd n d)
def Fits (p q : Int) : Prop := -400000000 ≤ p ∧ p ≤ 400000000 ∧ -400000000 ≤ q ∧ q ≤ 400000000
instance (n d : Int) : Decidable (Fits n d) := by unfold Fits; exact inferInstance
def low (n d : Int) : Int × Int := if d = 0 then (0, 0) else if Fits (lowN n d) (lowD n d) then (lowN n d, lowD n d) else (0, 0)

theorem gcd_pos_of (n d : Int) (hd : d ≠ 0) : 0 < Int.gcd n d := by
  rcases Nat.eq_zero_or_pos (Int.gcd n d) with hz | hz
  · exact absurd (Int.gcd_eq_zero_iff.1 hz).2 hd
  · exact hz

/-- n and d as multiples of coprime parts. -/
theorem parts (n d : Int) (hd : d ≠ 0) : ∃ p q k : Int, 0 < q ∧ k ≠ 0 ∧ n = p * k ∧ d = q * k ∧ Int.gcd p q = 1 ∧ lowN n d = p ∧ lowD n d = q ∧ (Int.gcd n d : Int) = k.natAbs ∧ (d < 0 ↔ k < 0) := by
  have hg := gcd_pos_of n d hd
  have eN : lowN n d = if d < 0 then -(n.tdiv (Int.gcd n d)) else n.tdiv (Int.gcd n d) := rfl
  have eD : lowD n d = if d < 0 then -(d.tdiv (Int.gcd n d)) else d.tdiv (Int.gcd n d) := rfl
  obtain ⟨a, ha⟩ := Int.gcd_dvd_left (a := n) (b := d)
  obtain ⟨b, hb⟩ := Int.gcd_dvd_right (a := n) (b := d)
  rw [eN, eD]
  clear eN eD
  obtain ⟨g, hG⟩ : ∃ g, Int.gcd n d = g := ⟨_, rfl⟩
  rw [hG] at hg ha hb ⊢
  have hc : Int.gcd a b = 1 := by
    have e : Int.gcd ((g : Int) * a) ((g : Int) * b) = g := by rw [← ha, ← hb]; exact hG
    rw [Int.gcd_mul_left] at e
    have e : g * Int.gcd a b = g * 1 := by simpa using e
    exact Nat.eq_of_mul_eq_mul_left hg e
  have hgi : (g : Int) ≠ 0 := by omega
  have t1 : n.tdiv g = a := by rw [ha]; exact Int.mul_tdiv_cancel_left a hgi
  have t2 : d.tdiv g = b := by rw [hb]; exact Int.mul_tdiv_cancel_left b hgi
  rw [t1, t2]
  by_cases hs : d < 0
  · have hb0 : b < 0 := by
      rcases Int.lt_or_le b 0 with h | h
      · exact h
      · have := Int.mul_nonneg (show (0 : Int) ≤ (g : Int) by omega) h; omega
    rw [if_pos hs, if_pos hs]
    exact ⟨-a, -b, -(g : Int), by omega, by omega, by rw [Int.neg_mul_neg, Int.mul_comm]; exact ha, by rw [Int.neg_mul_neg, Int.mul_comm]; exact hb, by rw [Int.neg_gcd, Int.gcd_neg]; exact hc, rfl, rfl, by omega, by omega⟩
  · have hb0 : 0 < b := by
      rcases Int.lt_or_le 0 b with h | h
      · exact h
      · have := Int.mul_nonpos_of_nonneg_of_nonpos (show (0 : Int) ≤ (g : Int) by omega) h; omega
    rw [if_neg hs, if_neg hs]
    exact ⟨a, b, (g : Int), by omega, by omega, by rw [Int.mul_comm]; exact ha, by rw [Int.mul_comm]; exact hb, hc, rfl, rfl, by omega, by omega⟩

theorem dvd_of_coprime {a b c : Int} (h : a ∣ b * c) (hg : Int.gcd a b = 1) : a ∣ c := by
  rw [← Int.natAbs_dvd_natAbs] at h ⊢
  rw [Int.natAbs_mul] at h
  rw [Int.gcd_eq_natAbs_gcd_natAbs] at hg
  exact Nat.Coprime.dvd_of_dvd_mul_left hg h
theorem natAbs_mul_le (p k : Int) (hk : k ≠ 0) : p.natAbs ≤ (p * k).natAbs := by
  rw [Int.natAbs_mul]; exact Nat.le_mul_of_pos_right _ (by omega)
/-- Parts are no larger than what was cancelled. -/
theorem low_bd (n d : Int) (hd : d ≠ 0) : (lowN n d).natAbs ≤ n.natAbs ∧ 1 ≤ lowD n d ∧ (lowD n d).natAbs ≤ d.natAbs ∧ Int.gcd (lowN n d) (lowD n d) = 1 := by
  obtain ⟨p, q, k, hq, hk, hn, hd', hg, e1, e2, _, _⟩ := parts n d hd
  rw [e1, e2]
  refine ⟨by rw [hn]; exact natAbs_mul_le p k hk, by omega, by rw [hd']; exact natAbs_mul_le q k hk, hg⟩
theorem low_fits {n d : Int} (hd : d ≠ 0) (h : Fits (lowN n d) (lowD n d)) : low n d = (lowN n d, lowD n d) ∧ IsRatP (lowN n d) (lowD n d) := by
  obtain ⟨_, b, _, g⟩ := low_bd n d hd
  unfold low
  rw [if_neg hd, if_pos h]
  exact ⟨rfl, b, h.2.2.2, h.1, h.2.1, g⟩
theorem low_none {n d : Int} (h : ¬ Fits (lowN n d) (lowD n d)) : low n d = (0, 0) := by
  unfold low; rw [if_neg h]; split <;> rfl
theorem low_zero (n : Int) : low n 0 = (0, 0) := by simp [low]
theorem not_isRat_zero : ¬ IsRatP 0 0 := by unfold IsRatP; omega
theorem isRat_of_fits {n d : Int} (hd : d ≠ 0) : isRat (lowN n d) (lowD n d) = decide (Fits (lowN n d) (lowD n d)) := by
  unfold isRat
  by_cases h : Fits (lowN n d) (lowD n d)
  · simp [h, (low_fits hd h).2]
  · have : ¬ IsRatP (lowN n d) (lowD n d) := fun k => h ⟨k.2.2.1, k.2.2.2.1, by have := k.1; omega, k.2.1⟩
    simp [h, this]

/-- The lowest terms are the only ones. -/
theorem low_unique {n d p q : Int} (hd : d ≠ 0) (hr : IsRatP p q) (h : n * q = p * d) : low n d = (p, q) := by
  obtain ⟨h1, h2, h3, h4, h5⟩ := hr
  obtain ⟨p', q', k, hq, hk, hn, hd', hg, e1, e2, _, _⟩ := parts n d hd
  have e : p' * q = p * q' := by
    have : (p' * q) * k = (p * q') * k := by
      calc (p' * q) * k = (p' * k) * q := by rw [Int.mul_right_comm]
        _ = n * q := by rw [← hn]
        _ = p * d := h
        _ = p * (q' * k) := by rw [← hd']
        _ = (p * q') * k := by rw [Int.mul_assoc]
    exact Int.eq_of_mul_eq_mul_right hk this
  have d1 : q' ∣ q := by
    have : q' ∣ p' * q := ⟨p, by rw [e, Int.mul_comm]⟩
    exact dvd_of_coprime this (by rw [Int.gcd_comm]; exact hg)
  have d2 : q ∣ q' := by
    have : q ∣ p * q' := ⟨p', by rw [← e, Int.mul_comm]⟩
    exact dvd_of_coprime this (by rw [Int.gcd_comm]; exact h5)
  have eq : q' = q := by
    have l1 := Int.le_of_dvd (by omega) d1
    have l2 := Int.le_of_dvd (by omega) d2
    omega
  subst eq
  have ep : p' = p := Int.eq_of_mul_eq_mul_right (show q' ≠ 0 by omega) e
  subst ep
  unfold low
  rw [if_neg hd, e1, e2, if_pos ⟨h3, h4, by omega, h2⟩]
/-- What a ratio that is not none says. -/
theorem low_says {n d p q : Int} (h : low n d = (p, q)) (hr : IsRatP p q) : d ≠ 0 ∧ n * q = p * d := by
  by_cases hd : d = 0
  · subst hd; rw [low_zero] at h; cases h; exact absurd hr not_isRat_zero
  · refine ⟨hd, ?_⟩
    obtain ⟨p', q', k, hq, hk, hn, hd', hg, e1, e2, _, _⟩ := parts n d hd
    by_cases hf : Fits (lowN n d) (lowD n d)
    · rw [(low_fits hd hf).1, e1, e2] at h
      cases h
      calc n * q = (p * k) * q := by rw [← hn]
        _ = p * (q * k) := by rw [Int.mul_assoc, Int.mul_comm k q]
        _ = p * d := by rw [← hd']
    · rw [low_none hf] at h; cases h; exact absurd hr not_isRat_zero
theorem low_cases (n d : Int) : low n d = (0, 0) ∨ ∃ p q, low n d = (p, q) ∧ IsRatP p q := by
  by_cases hd : d = 0
  · subst hd; exact .inl (low_zero n)
  · by_cases hf : Fits (lowN n d) (lowD n d)
    · exact .inr ⟨_, _, (low_fits hd hf).1, (low_fits hd hf).2⟩
    · exact .inl (low_none hf)
theorem low_self {p q : Int} (hr : IsRatP p q) : low p q = (p, q) := low_unique (by have := hr.1; omega) hr rfl
/-- The program's own test: not none, and the same as its lowest terms. -/
theorem isRat_iff (n d : Int) (h : ¬ (n = 0 ∧ d = 0)) : IsRatP n d ↔ low n d = (n, d) := by
  constructor
  · exact low_self
  · intro e
    rcases low_cases n d with h0 | ⟨p, q, h1, h2⟩
    · rw [h0] at e; cases e; exact absurd ⟨rfl, rfl⟩ h
    · rw [h1] at e; cases e; exact h2
theorem isRat_in {n d : Int} (h : IsRatP n d) : (-400000000 ≤ n ∧ n ≤ 400000000) ∧ (-400000000 ≤ d ∧ d ≤ 400000000) := ⟨⟨h.2.2.1, h.2.2.2.1⟩, by have := h.1; omega, h.2.1⟩
/-- MakeRatio. -/
def mkRat (n d : Int) : Int × Int := if (-400000000 ≤ n ∧ n ≤ 400000000) ∧ (-400000000 ≤ d ∧ d ≤ 400000000) then low n d else (0, 0)
theorem mkRat_in {n d : Int} (h : (-400000000 ≤ n ∧ n ≤ 400000000) ∧ (-400000000 ≤ d ∧ d ≤ 400000000)) : mkRat n d = low n d := if_pos h
theorem mkRat_out {n d : Int} (h : ¬ ((-400000000 ≤ n ∧ n ≤ 400000000) ∧ (-400000000 ≤ d ∧ d ≤ 400000000))) : mkRat n d = (0, 0) := if_neg h
theorem isRat_mk (n d : Int) (h : ¬ (n = 0 ∧ d = 0)) : isRat n d = decide (mkRat n d = (n, d)) := by
  unfold isRat
  by_cases hb : (-400000000 ≤ n ∧ n ≤ 400000000) ∧ (-400000000 ≤ d ∧ d ≤ 400000000)
  · rw [mkRat_in hb]; exact decide_eq_decide.2 (isRat_iff n d h)
  · rw [mkRat_out hb]
    have h1 : ¬ IsRatP n d := fun k => hb (isRat_in k)
    have h2 : ¬ ((0, 0) = (n, d)) := fun k => h (by cases k; exact ⟨rfl, rfl⟩)
    simp [h1, h2]

/-! ### Sums and products -/
theorem mul_sm (a b : Int) (ha : -400000000 ≤ a ∧ a ≤ 400000000) (hb : -400000000 ≤ b ∧ b ≤ 400000000) : -160000000000000000 ≤ a * b ∧ a * b ≤ 160000000000000000 := by
  have e : (a * b).natAbs = a.natAbs * b.natAbs := Int.natAbs_mul a b
  have l : a.natAbs * b.natAbs ≤ 400000000 * 400000000 := Nat.mul_le_mul (by omega) (by omega)
  omega
/-- A comparison's answer. -/
def cmpI (x y : Int) : Int := if x < y then -1 else if y < x then 1 else 0
/-- Rounding: the nearest whole number. -/
theorem round_eq (n d : Int) (hd : 0 < d) : (2 * n + d) / (2 * d) = if d ≤ 2 * (n % d) then n / d + 1 else n / d := by
  have e := Int.mul_ediv_add_emod n d
  have r0 := Int.emod_nonneg n (show d ≠ 0 by omega)
  have r1 := Int.emod_lt_of_pos n hd
  by_cases h : d ≤ 2 * (n % d)
  · rw [if_pos h]
    refine ((Int.ediv_emod_unique (r := 2 * (n % d) - d) (show 0 < 2 * d by omega)).2 ⟨?_, by omega, by omega⟩).1
    rw [Int.mul_add, Int.mul_assoc]; omega
  · rw [if_neg h]
    refine ((Int.ediv_emod_unique (r := 2 * (n % d) + d) (show 0 < 2 * d by omega)).2 ⟨?_, by omega, by omega⟩).1
    rw [Int.mul_assoc]; omega
end Go.Proofs.Ytcapddcmnjeloaa
end

section
/-
  Plain mathematics of chapter 2: sums, products and quotients of ratios. Nothing of a program is used.
-/
namespace Go.Proofs.Ytcapddcmnjeloaa

def addR (a b c d : Int) : Int × Int := if (isRat a b && isRat c d) = true then low (a * d + c * b) (b * d) else (0, 0)
def mulR (a b c d : Int) : Int × Int := if (isRat a b && isRat c d) = true then low (a * c) (b * d) else (0, 0)
def divR (a b c d : Int) : Int × Int := if (isRat a b && isRat c d) = true then low (a * d) (b * c) else (0, 0)
/-- A pair that is a ratio. -/
def RatQ (z : Int × Int) : Prop := IsRatP z.1 z.2
theorem addR_back {a b c d : Int} (h : RatQ (addR a b c d)) : IsRatP a b ∧ IsRatP c d ∧ (a * d + c * b) * (addR a b c d).2 = (addR a b c d).1 * (b * d) := by
  unfold addR at h ⊢
  by_cases hh : (isRat a b && isRat c d) = true
  · rw [if_pos hh] at h ⊢
    rw [Bool.and_eq_true] at hh
    exact ⟨of_decide_eq_true hh.1, of_decide_eq_true hh.2, (low_says rfl h).2⟩
  · rw [if_neg hh] at h; exact absurd h not_isRat_zero
theorem mulR_back {a b c d : Int} (h : RatQ (mulR a b c d)) : IsRatP a b ∧ IsRatP c d ∧ a * c * (mulR a b c d).2 = (mulR a b c d).1 * (b * d) := by
  unfold mulR at h ⊢
  by_cases hh : (isRat a b && isRat c d) = true
  · rw [if_pos hh] at h ⊢
    rw [Bool.and_eq_true] at hh
    exact ⟨of_decide_eq_true hh.1, of_decide_eq_true hh.2, (low_says rfl h).2⟩
  · rw [if_neg hh] at h; exact absurd h not_isRat_zero
theorem addR_or (a b c d : Int) : addR a b c d = (0, 0) ∨ RatQ (addR a b c d) := by
  unfold addR
  split
  · rcases low_cases (a * d + c * b) (b * d) with h | ⟨p, q, h, hr⟩
    · exact .inl h
    · exact .inr (by rw [h]; exact hr)
  · exact .inl rfl
theorem mulR_or (a b c d : Int) : mulR a b c d = (0, 0) ∨ RatQ (mulR a b c d) := by
  unfold mulR
  split
  · rcases low_cases (a * c) (b * d) with h | ⟨p, q, h, hr⟩
    · exact .inl h
    · exact .inr (by rw [h]; exact hr)
  · exact .inl rfl
/-- Two ratios that say the same are one. -/
theorem rat_same {a b c d : Int} (h : IsRatP a b) (h' : IsRatP c d) (e : a * d = c * b) : a = c ∧ b = d := by
  have h1 := low_unique (by have := h.1; omega) h' e
  rw [low_self h] at h1
  cases h1
  exact ⟨rfl, rfl⟩
end Go.Proofs.Ytcapddcmnjeloaa
end
