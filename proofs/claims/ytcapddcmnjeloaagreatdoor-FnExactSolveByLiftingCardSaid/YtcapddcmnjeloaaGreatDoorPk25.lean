/-
  Texts of this seat, joined: ZCModB · ZCSpnT · ZCEchLaw · ZCModV · ZCSolE · ZCReM · ZCReL · ZCModL · ZCNumGcdS · ZCNumGD · ZCNumGcd · ZCNumFloor · ZCNumExt · ZCMdS · ZCShelf · ZCCloneI · ZCRdS · ZCPrimS · ZCAppI · ZCEchS
-/
import Derived.Test.YtcapddcmnjeloaaGreatDoorRows
import Derived.WalkKit
import Derived.BigQuiet
import Derived.Deep.QuietTactic
import Derived.Lib.Hide
import Derived.Deep.LoopGhost
import Derived.Deep.RegionHeld3
import Derived.Deep.RegionWith
import Derived.StillTailTactics
import Derived.Shelf.Slices.Turned
import Derived.Ground.Names2Prog
import Derived.Shelf.Slices.Clone
import Derived.Test.YtcapddcmnjeloaaGreatDoorProg
import Derived.Deep.DeepCutAuto
import Derived.IntWalk
import Derived.Test.YtcapddcmnjeloaaGreatDoorPk23
import Derived.Test.YtcapddcmnjeloaaGreatDoorPk24

section
/-
  Plain mathematics of chapter 8: primes up to the limit, inverses of residues. Nothing of a program is used.
-/
namespace Go.Proofs.YtcapddcmnjeloaaGreatDoor
def prmB (p : Int) : Bool := decide (2 ≤ p ∧ p ≤ 10000) && (List.range 101).all fun d => decide (¬ (2 ≤ d ∧ ((d : Nat) : Int) * (d : Int) ≤ p ∧ (d : Int) ∣ p))
theorem prmB_says {p : Int} (h : prmB p = true) : Prm p ∧ p ≤ 10000 := by
  unfold prmB at h
  rw [Bool.and_eq_true, decide_eq_true_eq, List.all_eq_true] at h
  obtain ⟨⟨h1, h2⟩, h3⟩ := h
  refine ⟨⟨h1, fun d hd hdd hdv => ?_⟩, h2⟩
  have hd1 : d ≤ 100 := by
    rcases Int.lt_or_le 100 d with h4 | h4
    · have : (101 : Int) * 101 ≤ d * d := Int.mul_le_mul (by omega) (by omega) (by omega) (by omega)
      omega
    · exact h4
  obtain ⟨e, rfl⟩ := Int.eq_ofNat_of_zero_le (show 0 ≤ d by omega)
  have h4 := of_decide_eq_true (h3 e (List.mem_range.mpr (by omega)))
  exact h4 ⟨by omega, hdd, hdv⟩
theorem prmB_true {p : Int} (h1 : 2 ≤ p ∧ p ≤ 10000) (h2 : ∀ d : Nat, 2 ≤ d → (d : Int) * (d : Int) ≤ p → ¬ (d : Int) ∣ p) : prmB p = true := by
  unfold prmB
  rw [Bool.and_eq_true, decide_eq_true_eq, List.all_eq_true]
  exact ⟨h1, fun d _ => decide_eq_true fun h => h2 d h.1 h.2.1 h.2.2⟩
theorem prmB_out {p : Int} (h : p < 2 ∨ 10000 < p) : prmB p = false := by
  unfold prmB
  rw [decide_eq_false (by omega), Bool.false_and]
theorem prmB_div {p : Int} {d : Nat} (hd : 2 ≤ d) (hdd : (d : Int) * (d : Int) ≤ p) (hdv : (d : Int) ∣ p) : prmB p = false := by
  cases h : prmB p with
  | false => rfl
  | true => exact absurd hdv ((prmB_says h).1.2 d (by omega) hdd)
theorem bez : ∀ b a : Nat, ∃ x y : Int, (a : Int) * x + (b : Int) * y = (Nat.gcd a b : Nat) := by
  intro b
  induction b using Nat.strongRecOn with
  | ind b ih =>
    intro a
    rcases Nat.eq_zero_or_pos b with h | h
    · subst h
      exact ⟨1, 0, by simp⟩
    · obtain ⟨x, y, e⟩ := ih (a % b) (Nat.mod_lt a h) b
      refine ⟨y, x - ((a / b : Nat) : Int) * y, ?_⟩
      have e1 : Nat.gcd a b = Nat.gcd b (a % b) := by rw [Nat.gcd_comm a b, Nat.gcd_rec b a, Nat.gcd_comm]
      have e2 : (a : Int) = (b : Int) * ((a / b : Nat) : Int) + ((a % b : Nat) : Int) := by
        rw [← Int.natCast_mul, ← Int.natCast_add, Nat.div_add_mod]
      rw [e1, ← e]
      generalize ((a / b : Nat) : Int) = u at e2 ⊢
      generalize ((a % b : Nat) : Int) = v at e2 ⊢
      rw [e2]
      grind
theorem Prm.hasInv {p : Int} (h : Prm p) : HasInv p := fun a ha => by
  have hp0 : 0 < p := by have := h.1; omega
  obtain ⟨n, hn⟩ := Int.eq_ofNat_of_zero_le (Int.emod_nonneg a (show p ≠ 0 by omega))
  obtain ⟨q, hq⟩ := Int.eq_ofNat_of_zero_le (show 0 ≤ p by omega)
  obtain ⟨x, y, e⟩ := bez q n
  have hna : ¬ p ∣ (n : Int) := fun hd => ha (by
    have h1 : Cg p a (a % p) := (Cg.emod p a).symm
    rw [hn] at h1
    exact Cg.zero.mp (h1.trans (Cg.zero.mpr hd)))
  have hg := h.gcd hna
  have hg2 : (Nat.gcd n q : Nat) = 1 := by
    have : ((n : Int).gcd p) = Nat.gcd n q := by rw [hq]; rfl
    omega
  rw [hg2] at e
  refine ⟨x % p, Int.emod_nonneg _ (by omega), Int.emod_lt_of_pos _ hp0, ?_⟩
  have h1 : Cg p (a * (x % p)) ((n : Int) * x) := by
    rw [← hn]
    exact (Cg.emod p a).symm.mul (Cg.emod p x)
  refine Cg.trans h1 ⟨-y, ?_⟩
  rw [hq, Int.mul_neg]
  have e' : (n : Int) * x + (q : Int) * y = 1 := e
  omega
def ivM (p a : Int) : Int × Bool := if (prmB p && decide (NumP a) && decide (a % p ≠ 0)) = true then (invF p (a % p), true) else (0, false)
theorem invF_ext {p a g x y : Int} (hp : Prm p) (h : a * x + p * y = g) (hg : g = 1) : invF p a = x % p := by
  have hp0 : 0 < p := by have := hp.1; omega
  refine invF_of hp (Int.emod_nonneg _ (by omega)) (Int.emod_lt_of_pos _ hp0) ?_
  refine ((Cg.refl p a).mul (Cg.emod p x)).trans ⟨-y, ?_⟩
  rw [Int.mul_neg]
  omega
def resL (p : Int) (xs : List Int) : List Int := xs.map fun z => z % p
theorem resL_at {p : Int} {xs : List Int} (k : Nat) : (resL p xs).getD k 0 = xs.getD k 0 % p := by
  unfold resL
  rcases Nat.lt_or_ge k xs.length with h | h
  · simp [List.getD, h]
  · simp [List.getD, List.getElem?_eq_none h]
def redM (r c p : Int) (xs : List Int) : MR := if (isMat r c xs && prmB p) = true then ⟨true, r, c, resL p xs⟩ else MR.no
def CanL (p : Int) (xs : List Int) : Prop := ∀ k, k < xs.length → 0 ≤ xs.getD k 0 ∧ xs.getD k 0 < p
theorem resL_can {p : Int} (hp : 0 < p) (xs : List Int) : CanL p (resL p xs) := fun k _ => by rw [resL_at]; exact res_can hp _
theorem CanL.mx {p : Int} {r c : Nat} {xs : List Int} (h : CanL p xs) (hx : xs.length = r * c) {i j : Nat} (hi : i < r) (hj : j < c) : 0 ≤ mxC c xs i j ∧ mxC c xs i j < p := h _ (by rw [hx]; exact idx_lt hi hj)
theorem CanL.of {p : Int} {r c : Nat} {xs : List Int} (hx : xs.length = r * c) (h : ∀ i j, i < r → j < c → 0 ≤ mxC c xs i j ∧ mxC c xs i j < p) : CanL p xs := fun k hk => by
  rw [hx] at hk
  have hc : 0 < c := by
    rcases Nat.eq_zero_or_pos c with e | e
    · subst e; omega
    · exact e
  have e : k = k / c * c + k % c := by rw [Nat.mul_comm]; exact (Nat.div_add_mod k c).symm
  have := h (k / c) (k % c) (Nat.div_lt_of_lt_mul (by rw [Nat.mul_comm]; exact hk)) (Nat.mod_lt k hc)
  unfold mxC at this
  rw [← e] at this
  exact this
theorem CanL.sw {p : Int} {r c s t : Nat} {xs : List Int} (h : CanL p xs) (hx : xs.length = r * c) (hs : s < r) (ht : t < r) : CanL p (swC s t c xs) := CanL.of (by rw [swC_length]; exact hx) fun i j hi hj => by
  rw [swC_at hx hi hj]
  refine h.mx hx ?_ hj
  split
  · exact ht
  · split <;> omega
theorem CanL.row {p : Int} {r c i : Nat} {v : Nat → Int} {xs : List Int} (h : CanL p xs) (hx : xs.length = r * c) (hv : ∀ q, q < c → 0 ≤ v q ∧ v q < p) : CanL p (rowL r c i v xs) := CanL.of (rowL_length _ _ _ _ _) fun a j ha hj => by
  by_cases e : a = i
  · rw [e, rowL_own (by omega) hj]; exact hv j hj
  · rw [rowL_oth ha hj e]; exact h.mx hx ha hj
end Go.Proofs.YtcapddcmnjeloaaGreatDoor
end

section
/-
  Plain mathematics of chapter 7: the rank of a matrix turned over; products. Nothing of a program is used.
-/
namespace Go.Proofs.YtcapddcmnjeloaaGreatDoor
end Go.Proofs.YtcapddcmnjeloaaGreatDoor
end

section
/-
  Plain mathematics of chapter 7: what the laws ask of echelon forms. Nothing of a program is used.
-/
namespace Go.Proofs.YtcapddcmnjeloaaGreatDoor
end Go.Proofs.YtcapddcmnjeloaaGreatDoor
end

section
/-
  Plain mathematics of chapter 8: what ranks, determinants and inverses over residues are. Nothing of a program is used.
-/
namespace Go.Proofs.YtcapddcmnjeloaaGreatDoor
theorem inc_id {n : Nat} {q : Nat → Nat} (hc : ∀ k, k < n → q k < n) (hi : ∀ k l, k < l → l < n → q k < q l) : ∀ k, k < n → q k = k := by
  have low : ∀ k, k < n → k ≤ q k := by
    intro k
    induction k with
    | zero => intro _; exact Nat.zero_le _
    | succ k ih =>
      intro hk
      have h1 := ih (by omega)
      have h2 := hi k (k + 1) (by omega) hk
      omega
  have up : ∀ m k, k + m + 1 = n → q k ≤ k := by
    intro m
    induction m with
    | zero => intro k hk; have := hc k (by omega); omega
    | succ m ih =>
      intro k hk
      have h1 := ih (k + 1) (by omega)
      have h2 := hi k (k + 1) (by omega) (by omega)
      omega
  intro k hk
  have h1 := low k hk
  have h2 := up (n - k - 1) k (by omega)
  omega
theorem RefP.unit {n : Nat} {A : Mx} {q : Nat → Nat} (h : RefP n n A q n) {i j : Nat} (hi : i < n) (hj : j < n) : A i j = idX i j := by
  have e := inc_id h.col h.inc
  unfold idX
  by_cases hij : i = j
  · rw [if_pos hij]
    have := h.one j hj
    rw [e j hj] at this
    rw [hij]; exact this
  · rw [if_neg hij]
    have := h.only j i hj hi hij
    rw [e j hj] at this
    exact this
def elM (p : Int) (r c : Nat) (xs : List Int) : List Int × List Nat × Int := elP p r c c 0 (resL p xs) [] 1
theorem resL_length (p : Int) (xs : List Int) : (resL p xs).length = xs.length := List.length_map ..
theorem resL_cg {p : Int} {c : Nat} {xs : List Int} (i j : Nat) : Cg p (mxC c (resL p xs) i j) (mxC c xs i j) := by
  unfold mxC
  rw [resL_at]
  exact Cg.emod p _
theorem elM_says {p : Int} (hp : Prm p) {r c : Nat} {xs : List Int} (hx : xs.length = r * c) :
    RefP r c (mxC c (elM p r c xs).1) (fun k => (elM p r c xs).2.1.getD k 0) (elM p r c xs).2.1.length ∧ SubP p r r c (mxC c (elM p r c xs).1) (mxC c xs) ∧ SubP p r r c (mxC c xs) (mxC c (elM p r c xs).1) ∧ (0 ≤ (elM p r c xs).2.2 ∧ (elM p r c xs).2.2 < p) ∧ (r = c → Cg p (det r (mxC c xs)) ((elM p r c xs).2.2 * det r (mxC c (elM p r c xs).1))) := by
  have hp0 : 0 < p := by have := hp.1; omega
  have hr : (resL p xs).length = r * c := by rw [resL_length, hx]
  have st := PInv.start (p := p) (M := mxC c xs) hr (Nat.le_refl c) (fun i q hi hq => (resL_can hp0 xs).mx hr hi hq) (fun i q _ _ => resL_cg i q)
  obtain ⟨⟨j', h1, h2⟩, h3, h4⟩ := PInv.all hp hp.hasInv c 0 (resL p xs) [] 1 (by omega) st ⟨by decide, by have := hp.1; omega⟩
  refine ⟨h1.ref h2, h1.toM, h1.ofM, h3, fun hrc => ?_⟩
  subst hrc
  refine h4 rfl ?_
  unfold DInv
  rw [Int.one_mul]
  exact det_cg fun i j _ _ => (resL_cg i j).symm
theorem elM_det {p : Int} (hp : Prm p) {n : Nat} {xs : List Int} (hx : xs.length = n * n) :
    ((elM p n n xs).2.1.length < n ↔ det n (mxC n xs) % p = 0) ∧ (if (elM p n n xs).2.1.length < n then 0 else (elM p n n xs).2.2) = det n (mxC n xs) % p := by
  have hp0 : 0 < p := by have := hp.1; omega
  obtain ⟨h1, h2, h3, h4, h5⟩ := elM_says hp hx
  have h5 := h5 rfl
  generalize elM p n n xs = E at h1 h2 h3 h4 h5 ⊢
  by_cases hl : E.2.1.length < n
  · have e0 : Cg p (det n (mxC n E.1)) 0 := det_zero_row (i := E.2.1.length) hl fun j hj => Cg.of_eq (h1.rest _ j (Nat.le_refl _) hl hj)
    have e1 : Cg p (det n (mxC n xs)) 0 := h5.trans ((Cg.mul_left _ e0).trans (Cg.of_eq (Int.mul_zero _)))
    have e2 : det n (mxC n xs) % p = 0 := by rw [Cg.emod_eq hp0 e1]; exact Int.zero_emod p
    exact ⟨⟨fun _ => e2, fun _ => hl⟩, by rw [if_pos hl, e2]⟩
  · have hle := h1.le
    have en : E.2.1.length = n := by omega
    rw [en] at h1
    have eu : ∀ i j, i < n → j < n → mxC n E.1 i j = idX i j := fun i j hi hj => h1.unit hi hj
    have ed : det n (mxC n E.1) = 1 := by rw [det_congr (B := idX) eu, det_id]
    rw [ed, Int.mul_one] at h5
    have e1 : det n (mxC n xs) % p = E.2.2 := by
      rw [Cg.emod_eq hp0 h5]
      exact Int.emod_eq_of_lt h4.1 h4.2
    -- the unit matrix is a combination of the rows: the determinant is not 0
    have hK : ∀ i, ∃ k : Nat → Int, i < n → ∀ j, j < n → Cg p (mxC n E.1 i j) (sumN n fun a => k a * mxC n xs a j) := fun i => by
      by_cases hi : i < n
      · obtain ⟨k, hk⟩ := h2 i hi
        exact ⟨k, fun _ => hk⟩
      · exact ⟨fun _ => 0, fun h => absurd h hi⟩
    obtain ⟨K, hKK⟩ := Classical.skolem.mp hK
    have hI : InvX p n (mxC n xs) K := fun i j hi hj => (hKK i hi j hj).symm.trans (Cg.of_eq (eu i j hi hj))
    have hne := hI.ne hp
    refine ⟨⟨fun h => absurd h hl, fun h => absurd ?_ hne⟩, by rw [if_neg hl, e1]⟩
    exact Int.dvd_of_emod_eq_zero h
def wideL (p : Int) (n : Nat) (xs : List Int) : List Int := tab n (2 * n) fun i j => if j < n then (resL p xs).getD (i * n + j) 0 else if j = n + i then 1 else 0
def wideX (n : Nat) (M : Mx) : Mx := fun i j => if j < n then M i j else if j = n + i then 1 else 0
def elW (p : Int) (n : Nat) (xs : List Int) : List Int × List Nat × Int := elP p n (2 * n) n 0 (wideL p n xs) [] 1
def ivL (p : Int) (n : Nat) (xs : List Int) : List Int := tab n n fun i j => (elW p n xs).1.getD (i * (2 * n) + (n + j)) 0
theorem wideL_can {p : Int} (hp : Prm p) {n : Nat} {xs : List Int} (hx : xs.length = n * n) : CanL p (wideL p n xs) := CanL.of (tab_length _ _ _) fun i j hi hj => by
  have hp0 := hp.1
  show 0 ≤ (wideL p n xs).getD (i * (2 * n) + j) 0 ∧ (wideL p n xs).getD (i * (2 * n) + j) 0 < p
  unfold wideL
  rw [tab_at n (2 * n) _ hi hj]
  by_cases h1 : j < n
  · rw [if_pos h1]
    exact resL_can (by omega) xs _ (by rw [resL_length, hx]; exact idx_lt hi h1)
  · rw [if_neg h1]
    split <;> omega
theorem elW_says {p : Int} (hp : Prm p) {n : Nat} {xs : List Int} (hx : xs.length = n * n) :
    RefP n n (mxC (2 * n) (elW p n xs).1) (fun k => (elW p n xs).2.1.getD k 0) (elW p n xs).2.1.length ∧ SubP p n n (2 * n) (mxC (2 * n) (elW p n xs).1) (wideX n (mxC n xs)) ∧ SubP p n n (2 * n) (wideX n (mxC n xs)) (mxC (2 * n) (elW p n xs).1) ∧ (∀ i j, i < n → j < 2 * n → 0 ≤ mxC (2 * n) (elW p n xs).1 i j ∧ mxC (2 * n) (elW p n xs).1 i j < p) := by
  have hp0 : 0 < p := by have := hp.1; omega
  have hl : (wideL p n xs).length = n * (2 * n) := tab_length _ _ _
  have hM : ∀ i q, i < n → q < 2 * n → Cg p (mxC (2 * n) (wideL p n xs) i q) (wideX n (mxC n xs) i q) := fun i q hi hq => by
    have e : mxC (2 * n) (wideL p n xs) i q = if q < n then (resL p xs).getD (i * n + q) 0 else if q = n + i then 1 else 0 := tab_at n (2 * n) _ hi hq
    rw [e]
    unfold wideX
    split
    · exact resL_cg i q
    · exact Cg.refl _ _
  have st := PInv.start (p := p) (M := wideX n (mxC n xs)) hl (by omega : n ≤ 2 * n) (fun i q hi hq => (wideL_can hp hx).mx hl hi hq) hM
  obtain ⟨⟨j', h1, h2⟩, -, -⟩ := PInv.all hp hp.hasInv n 0 (wideL p n xs) [] 1 (by omega) st ⟨by decide, by have := hp.1; omega⟩
  exact ⟨h1.ref h2, h1.toM, h1.ofM, h1.can⟩
theorem elW_inv {p : Int} (hp : Prm p) {n : Nat} {xs : List Int} (hx : xs.length = n * n) :
    ((elW p n xs).2.1.length < n ↔ det n (mxC n xs) % p = 0) ∧ (¬ (elW p n xs).2.1.length < n → InvX p n (mxC n xs) (mxC n (ivL p n xs))) ∧ CanL p (ivL p n xs) ∧ (ivL p n xs).length = n * n := by
  have hp0 : 0 < p := by have := hp.1; omega
  obtain ⟨h1, h2, h3, h4⟩ := elW_says hp hx
  have at_ : ∀ i j, i < n → j < n → mxC n (ivL p n xs) i j = mxC (2 * n) (elW p n xs).1 i (n + j) := fun i j hi hj => tab_at n n _ hi hj
  have can : CanL p (ivL p n xs) := CanL.of (tab_length _ _ _) fun i j hi hj => by rw [at_ i j hi hj]; exact h4 i (n + j) hi (by omega)
  have inv : ¬ (elW p n xs).2.1.length < n → InvX p n (mxC n xs) (mxC n (ivL p n xs)) := fun hl i j hi hj => by
    have hle := h1.le
    have en : (elW p n xs).2.1.length = n := by omega
    rw [en] at h1
    obtain ⟨k, hk⟩ := h2 i hi
    have e1 : ∀ b, b < n → Cg p (mxC n (ivL p n xs) i b) (k b) := fun b hb => by
      rw [at_ i b hi hb]
      refine (hk (n + b) (by omega)).trans (Cg.of_eq ?_)
      rw [sumN_one (a := b) hb (fun a ha hne => by unfold wideX; rw [if_neg (by omega), if_neg (by omega), Int.mul_zero])]
      unfold wideX
      rw [if_neg (by omega), if_pos rfl, Int.mul_one]
    have e2 : Cg p (mxC (2 * n) (elW p n xs).1 i j) (sumN n fun a => k a * mxC n xs a j) := (hk j (by omega)).trans (Cg.of_eq (sumN_congr fun a _ => by unfold wideX; rw [if_pos hj]))
    rw [h1.unit hi hj] at e2
    exact (Cg.trans (Cg.sum fun a ha => (e1 a ha).mul (Cg.refl p _)) e2.symm)
  refine ⟨?_, inv, can, tab_length _ _ _⟩
  by_cases hl : (elW p n xs).2.1.length < n
  · refine ⟨fun _ => ?_, fun _ => hl⟩
    have hK : ∀ i, ∃ k : Nat → Int, i < n → ∀ j, j < 2 * n → Cg p (wideX n (mxC n xs) i j) (sumN n fun a => k a * mxC (2 * n) (elW p n xs).1 a j) := fun i => by
      by_cases hi : i < n
      · obtain ⟨k, hk⟩ := h3 i hi
        exact ⟨k, fun _ => hk⟩
      · exact ⟨fun _ => 0, fun h => absurd h hi⟩
    obtain ⟨K, hKK⟩ := Classical.skolem.mp hK
    have e1 : Cg p (det n (mxC n xs)) (det n (mulX n K (mxC (2 * n) (elW p n xs).1))) := det_cg fun i j hi hj => by
      have := hKK i hi j (by omega)
      unfold wideX at this
      rw [if_pos hj] at this
      exact this
    rw [det_mul] at e1
    have e0 : Cg p (det n (mxC (2 * n) (elW p n xs).1)) 0 := det_zero_row (i := (elW p n xs).2.1.length) hl fun j hj => Cg.of_eq (h1.rest _ j (Nat.le_refl _) hl hj)
    have e2 : Cg p (det n (mxC n xs)) 0 := e1.trans ((Cg.mul_left _ e0).trans (Cg.of_eq (Int.mul_zero _)))
    rw [Cg.emod_eq hp0 e2]
    exact Int.zero_emod p
  · exact ⟨fun h => absurd h hl, fun h => absurd (Int.dvd_of_emod_eq_zero h) ((inv hl).ne hp)⟩
end Go.Proofs.YtcapddcmnjeloaaGreatDoor
end

section
/-
  Plain mathematics of chapter 11: what IsRational, SolveByDeterminants and SolveByEchelon answer, and that they agree.
-/
namespace Go.Proofs.YtcapddcmnjeloaaGreatDoor
def sysB (r c : Int) (xs bs : List Int) : Bool := isSq r c xs && decide ((bs.length : Int) = r) && nums bs
theorem sysB_says {r c : Int} {xs bs : List Int} (h : sysB r c xs bs = true) : ∃ n : Nat, r = n ∧ c = n ∧ n ≤ 6 ∧ xs.length = n * n ∧ nums xs = true ∧ bs.length = n ∧ nums bs = true := by
  unfold sysB at h
  simp only [Bool.and_eq_true, decide_eq_true_eq] at h
  obtain ⟨n, rfl, rfl, h6, hl, hn⟩ := isSq_says h.1.1
  exact ⟨n, rfl, rfl, h6, hl, hn, by omega, h.2⟩
theorem sysB_true {r c : Int} {xs bs : List Int} (h1 : isSq r c xs = true) (h2 : (bs.length : Int) = r) (h3 : nums bs = true) : sysB r c xs bs = true := by
  unfold sysB; rw [h1, decide_eq_true h2, h3]; rfl
theorem sysB_false {r c : Int} {xs bs : List Int} (h : isSq r c xs = false ∨ (bs.length : Int) ≠ r ∨ nums bs = false) : sysB r c xs bs = false := by
  unfold sysB
  rcases h with h | h | h
  · rw [h]; rfl
  · rw [decide_eq_false h, Bool.and_false]; rfl
  · rw [h, Bool.and_false]
def atR (zs : List (Int × Int)) (j : Nat) : Int × Int := zs.getD j (0, 0)
def rowB (c : Nat) (xs bs : List Int) (zs : List (Int × Int)) (i : Nat) : Bool := decide (sumR (mxC c xs i) (atR zs) c = (bs.getD i 0, 1))
def irB (r c : Int) (xs bs : List Int) (zs : List (Int × Int)) : Bool := isMat r c xs && decide ((bs.length : Int) = r) && decide ((zs.length : Int) = c) && (List.range r.toNat).all (rowB c.toNat xs bs zs)
theorem irB_false {r c : Int} {xs bs : List Int} {zs : List (Int × Int)} (h : isMat r c xs = false ∨ (bs.length : Int) ≠ r ∨ (zs.length : Int) ≠ c) : irB r c xs bs zs = false := by
  unfold irB
  rcases h with h | h | h
  · rw [h]; rfl
  · rw [decide_eq_false h, Bool.and_false]; rfl
  · rw [decide_eq_false h, Bool.and_false]; rfl
theorem irB_row {r c i : Nat} {xs bs : List Int} {zs : List (Int × Int)} (hi : i < r) (h : rowB c xs bs zs i = false) : irB r c xs bs zs = false := by
  cases hb : irB r c xs bs zs with
  | false => rfl
  | true =>
    unfold irB at hb
    rw [Bool.and_eq_true, List.all_eq_true] at hb
    have := hb.2 i (List.mem_range.mpr hi)
    rw [show (c : Int).toNat = c from rfl, h] at this
    cases this
theorem irB_true {r c : Nat} {xs bs : List Int} {zs : List (Int × Int)} (h1 : isMat r c xs = true) (h2 : bs.length = r) (h3 : zs.length = c) (h : ∀ i, i < r → rowB c xs bs zs i = true) : irB r c xs bs zs = true := by
  unfold irB
  rw [h1, decide_eq_true (show (bs.length : Int) = r by omega), decide_eq_true (show (zs.length : Int) = c by omega)]
  exact List.all_eq_true.mpr fun i hi => h i (List.mem_range.mp hi)
theorem irB_says {r c : Int} {xs bs : List Int} {zs : List (Int × Int)} (h : irB r c xs bs zs = true) : ∃ R C : Nat, r = R ∧ c = C ∧ R ≤ 24 ∧ C ≤ 24 ∧ isMat r c xs = true ∧ bs.length = R ∧ zs.length = C ∧ ((0 < R ∨ C = 0) → RSol R C (mxC C xs) (fun i => bs.getD i 0) (atR zs)) := by
  unfold irB at h
  simp only [Bool.and_eq_true, decide_eq_true_eq, List.all_eq_true] at h
  obtain ⟨⟨⟨h1, h2⟩, h3⟩, h4⟩ := h
  obtain ⟨⟨r0, r1⟩, ⟨c0, c1⟩, -, -⟩ := isMat_says h1
  obtain ⟨R, rfl⟩ := Int.eq_ofNat_of_zero_le r0
  obtain ⟨C, rfl⟩ := Int.eq_ofNat_of_zero_le c0
  refine ⟨R, C, rfl, rfl, by omega, by omega, h1, by omega, by omega, fun hr => RSol.sums hr fun i hi => ?_⟩
  have := h4 i (List.mem_range.mpr hi)
  unfold rowB at this
  exact of_decide_eq_true this
theorem irB_sol {n : Nat} {xs bs : List Int} {zs : List (Int × Int)} (h : irB n n xs bs zs = true) : zs.length = n ∧ RSol n n (mxC n xs) (fun i => bs.getD i 0) (atR zs) := by
  obtain ⟨R, C, h1, h2, -, -, -, -, h3, h4⟩ := irB_says h
  obtain rfl : n = R := by omega
  obtain rfl : n = C := by omega
  exact ⟨h3, h4 (by omega)⟩
end Go.Proofs.YtcapddcmnjeloaaGreatDoor
end

section
/-
  Plain mathematics of chapter 10: ratios and their residues, the ratio with small parts that has a residue. Nothing of a program is used.
-/
namespace Go.Proofs.YtcapddcmnjeloaaGreatDoor
def ImgP (n d y m : Int) : Prop := Cg m (y * d) n
theorem img_iff {n d y m : Int} (hm : 0 < m) : (y % m * (d % m) - n) % m = 0 ↔ ImgP n d y m := by
  have e : Cg m (y % m * (d % m) - n) (y * d - n) := ((Cg.emod m y).mul (Cg.emod m d)).sub (Cg.refl m n)
  rw [Cg.emod_eq hm e]
  unfold ImgP Cg
  exact ⟨fun h => Int.dvd_of_emod_eq_zero h, fun h => Int.emod_eq_zero_of_dvd h⟩
structure RInv (m a g x h u : Int) : Prop where
  low : 0 ≤ h
  less : h < g
  gx : Cg m g (x * a)
  hu : Cg m h (u * a)
  sg : (0 < u ∧ x ≤ 0 ∧ g * u - h * x = m) ∨ (u < 0 ∧ 0 ≤ x ∧ g * u - h * x = -m)
theorem RInv.start {m a : Int} (hm : 0 < m) : RInv m a m 0 (a % m) 1 where
  low := Int.emod_nonneg _ (by omega)
  less := Int.emod_lt_of_pos _ hm
  gx := by rw [Int.zero_mul]; exact Cg.zero.mpr (Int.dvd_refl m)
  hu := by rw [Int.one_mul]; exact Cg.emod m a
  sg := .inl ⟨by decide, by decide, by omega⟩
theorem RInv.step {m a g x h u : Int} (I : RInv m a g x h u) (hp : 0 < h) : RInv m a h u (g - g / h * h) (x - g / h * u) := by
  have hq : 1 ≤ g / h := by
    have := Int.ediv_mul_le g (show h ≠ 0 by omega)
    rw [Int.le_ediv_iff_mul_le hp]
    have := I.less
    omega
  have e : g - g / h * h = g % h := by rw [Int.emod_def, Int.mul_comm h]
  have e2 : h * (x - g / h * u) - (g - g / h * h) * u = -(g * u - h * x) := by generalize g / h = q; grind
  refine ⟨?_, ?_, I.hu, ?_, ?_⟩
  · rw [e]; exact Int.emod_nonneg _ (by omega)
  · rw [e]; exact Int.emod_lt_of_pos _ hp
  · have := I.gx.sub (Cg.mul_left (g / h) I.hu)
    refine this.trans (Cg.of_eq ?_)
    rw [Int.sub_mul, Int.mul_assoc]
  · rw [e2]
    generalize g / h = q at hq ⊢
    rcases I.sg with ⟨h1, h2, h3⟩ | ⟨h1, h2, h3⟩
    · right
      have := Int.mul_le_mul_of_nonneg_right hq (show 0 ≤ u by omega)
      refine ⟨by omega, by omega, by omega⟩
    · left
      have := Int.mul_le_mul_of_nonneg_right hq (show 0 ≤ -u by omega)
      simp only [Int.mul_neg, Int.one_mul] at this
      refine ⟨by omega, by omega, by omega⟩
theorem RInv.small {m a g x h u : Int} (I : RInv m a g x h u) : (-m ≤ u ∧ u ≤ m) ∧ (0 < h → -m ≤ x ∧ x ≤ m) := by
  have l := I.low
  have hg : 1 ≤ g := by have := I.less; omega
  rcases I.sg with ⟨h1, h2, h3⟩ | ⟨h1, h2, h3⟩
  · have a1 := Int.mul_le_mul_of_nonneg_right hg (show 0 ≤ u by omega)
    have a2 := Int.mul_nonneg l (show 0 ≤ -x by omega)
    simp only [Int.mul_neg] at a2
    refine ⟨by omega, fun h0 => ?_⟩
    have a3 := Int.mul_le_mul_of_nonneg_right (show 1 ≤ h from h0) (show 0 ≤ -x by omega)
    simp only [Int.mul_neg, Int.one_mul] at a3
    omega
  · have a1 := Int.mul_le_mul_of_nonneg_right hg (show 0 ≤ -u by omega)
    have a2 := Int.mul_nonneg l h2
    simp only [Int.mul_neg, Int.one_mul] at a1
    refine ⟨by omega, fun h0 => ?_⟩
    have a3 := Int.mul_le_mul_of_nonneg_right (show 1 ≤ h from h0) h2
    omega
theorem RInv.parts {m a g x h u : Int} (I : RInv m a g x h u) (hp : 0 < h) : (0 ≤ g / h ∧ g / h ≤ g) ∧ (0 ≤ g / h * h ∧ g / h * h ≤ g) ∧ (-m ≤ g / h * u ∧ g / h * u ≤ m) := by
  have hg : 0 ≤ g := by have := I.less; omega
  have hq : 0 ≤ g / h := Int.ediv_nonneg hg (by omega)
  have hs := I.step hp
  refine ⟨⟨hq, Int.ediv_le_self h hg⟩, ⟨Int.mul_nonneg hq (by omega), Int.ediv_mul_le g (by omega)⟩, ?_⟩
  have h4 := hs.small.1
  generalize g / h = q at hq h4 ⊢
  rcases I.sg with ⟨h1, h2, -⟩ | ⟨h1, h2, -⟩
  · have := Int.mul_nonneg hq (show 0 ≤ u by omega)
    omega
  · have := Int.mul_nonneg hq (show 0 ≤ -u by omega)
    rw [Int.mul_neg] at this
    omega
theorem mul_abs {a b A B : Int} (ha : -A ≤ a ∧ a ≤ A) (hb : -B ≤ b ∧ b ≤ B) : -(A * B) ≤ a * b ∧ a * b ≤ A * B := by
  have h : (a * b).natAbs ≤ A.natAbs * B.natAbs := by
    rw [Int.natAbs_mul]
    exact Nat.mul_le_mul (by omega) (by omega)
  have e : ((A.natAbs * B.natAbs : Nat) : Int) = A * B := by
    rw [Int.natCast_mul, Int.natAbs_of_nonneg (by omega), Int.natAbs_of_nonneg (by omega)]
  omega
theorem pos_of_mul {u b : Int} (h : 0 < u * b) (hu : 0 < u) : 0 < b := by
  rcases Int.lt_or_le 0 b with h1 | h1
  · exact h1
  · have := Int.mul_nonneg (show 0 ≤ u by omega) (show 0 ≤ -b by omega)
    rw [Int.mul_neg] at this
    omega
theorem ratio_pos {m a g x h u B n d : Int} (hh : 0 ≤ h) (gx : Cg m g (x * a)) (hu : Cg m h (u * a)) (up : 0 < u) (xn : x ≤ 0) (dt : g * u - h * x = m) (hB : h ≤ B) (gB : B < g) (hm : 2 * (B * B) < m) (hn : -B ≤ n ∧ n ≤ B) (hd : 0 < d ∧ d ≤ B) (hg : n.gcd d = 1) (hi : Cg m (a * d) n) : h = n ∧ u = d := by
  have hmp : 0 < m := by have := Int.mul_nonneg (show 0 ≤ B by omega) (show 0 ≤ B by omega); omega
  obtain ⟨k, hk⟩ : m ∣ n * u - d * h := by
    have e1 : Cg m (n * u) (a * d * u) := hi.symm.mul (Cg.refl m u)
    have e2 : Cg m (d * h) (d * (u * a)) := Cg.mul_left d hu
    exact e1.trans ((Cg.of_eq (by grind)).trans e2.symm)
  obtain ⟨l, hl⟩ : m ∣ g * d - x * n := by
    have e1 : Cg m (g * d) (x * a * d) := gx.mul (Cg.refl m d)
    have e2 : Cg m (x * n) (x * (a * d)) := Cg.mul_left x hi.symm
    exact e1.trans ((Cg.of_eq (by grind)).trans e2.symm)
  have en : n = g * k + h * l := by
    refine Int.eq_of_mul_eq_mul_left (show m ≠ 0 by omega) ?_
    have e1 : (g * u - h * x) * n = g * (n * u - d * h) + h * (g * d - x * n) := by grind
    rw [dt, hk, hl] at e1
    rw [e1]
    grind
  have ed : d = x * k + u * l := by
    refine Int.eq_of_mul_eq_mul_left (show m ≠ 0 by omega) ?_
    have e1 : (g * u - h * x) * d = x * (n * u - d * h) + u * (g * d - x * n) := by grind
    rw [dt, hk, hl] at e1
    rw [e1]
    grind
  have hk0 : k = 0 := by
    rcases Int.lt_trichotomy k 0 with h1 | h1 | h1
    · exfalso
      have b1 := Int.mul_le_mul_of_nonneg_left (show 1 ≤ -k by omega) (show 0 ≤ g by omega)
      have b3 := Int.mul_le_mul_of_nonneg_left (show 1 ≤ -k by omega) (show 0 ≤ m by omega)
      have b2 := Int.mul_nonneg (show 0 ≤ -x by omega) (show 0 ≤ -k by omega)
      simp only [Int.mul_neg, Int.neg_mul, Int.mul_one] at b1 b2 b3
      rcases Int.lt_or_le 0 l with h2 | h2
      · have c1 := Int.mul_le_mul_of_nonneg_left (show 1 ≤ l from h2) (show 0 ≤ u by omega)
        have c2 := mul_abs (a := n) (b := u) (A := B) (B := B) (by omega) (by omega)
        have c3 := mul_abs (a := d) (b := h) (A := B) (B := B) (by omega) (by omega)
        omega
      · have c1 := Int.mul_nonneg hh (show 0 ≤ -l by omega)
        simp only [Int.mul_neg] at c1
        omega
    · exact h1
    · exfalso
      have b1 := Int.mul_le_mul_of_nonneg_left (show 1 ≤ k from h1) (show 0 ≤ g by omega)
      have b2 := Int.mul_nonneg (show 0 ≤ -x by omega) (show 0 ≤ k by omega)
      simp only [Int.neg_mul, Int.mul_one] at b1 b2
      rcases Int.lt_or_le l 0 with h2 | h2
      · have c1 := Int.mul_le_mul_of_nonneg_left (show 1 ≤ -l by omega) (show 0 ≤ u by omega)
        simp only [Int.mul_neg, Int.mul_one] at c1
        omega
      · have c1 := Int.mul_nonneg hh h2
        omega
  subst hk0
  rw [Int.mul_zero, Int.zero_add] at en ed
  have hl0 : 0 < l := pos_of_mul (by omega) up
  have hl1 : l = 1 := by
    have g1 : l ∣ n := ⟨h, by rw [en, Int.mul_comm]⟩
    have g2 : l ∣ d := ⟨u, by rw [ed, Int.mul_comm]⟩
    have := Int.dvd_coe_gcd g1 g2
    rw [hg] at this
    have := Int.le_of_dvd (by decide) this
    omega
  rw [hl1, Int.mul_one] at en ed
  exact ⟨en.symm, ed.symm⟩
theorem RInv.found {m a g x h u B n d : Int} (I : RInv m a g x h u) (hB : h ≤ B) (gB : B < g) (hm : 2 * (B * B) < m) (hn : -B ≤ n ∧ n ≤ B) (hd : 0 < d ∧ d ≤ B) (hg : n.gcd d = 1) (hi : Cg m (a * d) n) : (0 < u ∧ h = n ∧ u = d) ∨ (u < 0 ∧ -h = n ∧ -u = d) := by
  rcases I.sg with ⟨h1, h2, h3⟩ | ⟨h1, h2, h3⟩
  · exact .inl ⟨h1, ratio_pos I.low I.gx I.hu h1 h2 h3 hB gB hm hn hd hg hi⟩
  · have := ratio_pos (a := -a) (x := -x) (u := -u) (n := -n) I.low (by rw [Int.neg_mul_neg]; exact I.gx) (by rw [Int.neg_mul_neg]; exact I.hu) (by omega) (by omega) (by rw [Int.mul_neg, Int.mul_neg]; omega) hB gB hm (by omega) hd (by rw [Int.neg_gcd]; exact hg) (by rw [Int.neg_mul]; exact hi.neg)
    exact .inr ⟨h1, by omega, this.2⟩
def RatP (a m B n d : Int) : Prop := (-B ≤ n ∧ n ≤ B) ∧ (0 < d ∧ d ≤ B) ∧ n.gcd d = 1 ∧ d.gcd m = 1 ∧ Cg m (a * d) n
open Classical in
noncomputable def ratM (a m B : Int) : Int × Int × Bool := if h : ∃ z : Int × Int, RatP a m B z.1 z.2 then (h.choose.1, h.choose.2, true) else (0, 0, false)
theorem RInv.end_ {m a g x h u B n d : Int} (I : RInv m a g x h u) (hB : h ≤ B) (gB : B < g) (hm : 2 * (B * B) < m) (hr : RatP a m B n d) : (if u < 0 then -h else h) = n ∧ (if u < 0 then -u else u) = d := by
  rcases I.found hB gB hm hr.1 hr.2.1 hr.2.2.1 hr.2.2.2.2 with ⟨h1, h2, h3⟩ | ⟨h1, h2, h3⟩
  · rw [if_neg (by omega), if_neg (by omega)]; exact ⟨h2, h3⟩
  · rw [if_pos h1, if_pos h1]; exact ⟨h2, h3⟩
theorem RInv.yes {m a g x h u B s t : Int} (I : RInv m a g x h u) (hB : h ≤ B) (gB : B < g) (hm : 2 * (B * B) < m) (hs : (if u < 0 then -h else h) = s) (ht : (if u < 0 then -u else u) = t) (hr : RatP a m B s t) : ratM a m B = (s, t, true) := by
  have hx : ∃ z : Int × Int, RatP a m B z.1 z.2 := ⟨(s, t), hr⟩
  unfold ratM
  rw [dif_pos hx]
  have := I.end_ hB gB hm hx.choose_spec
  rw [hs, ht] at this
  rw [← this.1, ← this.2]
theorem RInv.no {m a g x h u B s t : Int} (I : RInv m a g x h u) (hB : h ≤ B) (gB : B < g) (hm : 2 * (B * B) < m) (hs : (if u < 0 then -h else h) = s) (ht : (if u < 0 then -u else u) = t) (hr : ¬ RatP a m B s t) : ratM a m B = (0, 0, false) := by
  unfold ratM
  rw [dif_neg]
  rintro ⟨z, hz⟩
  have := I.end_ hB gB hm hz
  rw [hs, ht] at this
  rw [← this.1, ← this.2] at hz
  exact hr hz
end Go.Proofs.YtcapddcmnjeloaaGreatDoor
end

section
/-
  Plain mathematics of chapter 10: what its functions answer. Nothing of a program is used.
-/
namespace Go.Proofs.YtcapddcmnjeloaaGreatDoor
def imA (n d m : Int) : Bool := isRat n d && decide (1 ≤ m ∧ m ≤ 400000000) && decide (d.gcd m = 1)
theorem imA_says {n d m : Int} (h : imA n d m = true) : IsRatP n d ∧ (1 ≤ m ∧ m ≤ 400000000) ∧ d.gcd m = 1 := by
  unfold imA isRat at h
  simp only [Bool.and_eq_true, decide_eq_true_eq] at h
  exact ⟨h.1.1, h.1.2, h.2⟩
theorem imA_true {n d m : Int} (h1 : isRat n d = true) (h2 : 1 ≤ m ∧ m ≤ 400000000) (h3 : d.gcd m = 1) : imA n d m = true := by
  unfold imA; rw [h1, decide_eq_true h2, decide_eq_true h3]; rfl
theorem imA_rat {n d m : Int} (h : isRat n d = false) : imA n d m = false := by unfold imA; rw [h]; rfl
theorem imA_mod {n d m : Int} (h : ¬ (1 ≤ m ∧ m ≤ 400000000)) : imA n d m = false := by unfold imA; rw [decide_eq_false h, Bool.and_false]; rfl
theorem imA_gcd {n d m : Int} (h : d.gcd m ≠ 1) : imA n d m = false := by unfold imA; rw [decide_eq_false h, Bool.and_false]
def imB (n d a m : Int) : Bool := imA n d m && decide (NumP a) && decide ((a * d - n) % m = 0)
theorem imB_iff {n d a m : Int} : imB n d a m = true ↔ imA n d m = true ∧ NumP a ∧ ImgP n d a m := by
  unfold imB
  simp only [Bool.and_eq_true, decide_eq_true_eq, and_assoc]
  refine and_congr_right fun h => and_congr_right fun _ => ?_
  unfold ImgP Cg
  exact ⟨fun h => Int.dvd_of_emod_eq_zero h, fun h => Int.emod_eq_zero_of_dvd h⟩
theorem imB_no {n d a m : Int} (h : imA n d m = false ∨ ¬ NumP a) : imB n d a m = false := by
  unfold imB
  rcases h with h | h
  · rw [h]; rfl
  · rw [decide_eq_false h, Bool.and_false]; rfl
theorem imB_eq {n d a m : Int} (h : imA n d m = true) (ha : NumP a) {b : Bool} (hb : b = decide ((a % m * (d % m) - n) % m = 0)) : imB n d a m = b := by
  have hm : 0 < m := by have := (imA_says h).2.1.1; omega
  cases hB : imB n d a m with
  | true => rw [hb, decide_eq_true ((img_iff hm).mpr (imB_iff.mp hB).2.2)]
  | false =>
    rw [hb, decide_eq_false]
    intro hz
    rw [imB_iff.mpr ⟨h, ha, (img_iff hm).mp hz⟩] at hB; cases hB
theorem imB_eq2 {n d a m : Int} (h : imA n d m = true) (ha : NumP a) {b : Bool} (hb : b = decide ((a * d - n) % m = 0)) : imB n d a m = b := by
  unfold imB; rw [h, decide_eq_true ha, hb]; rfl
def RtA (a m B : Int) : Prop := NumP a ∧ (1 ≤ m ∧ m ≤ 400000000) ∧ (1 ≤ B ∧ B ≤ 20000) ∧ 2 * B * B < m
instance (a m B : Int) : Decidable (RtA a m B) := by unfold RtA; exact inferInstance
theorem RtA.sq {a m B : Int} (h : RtA a m B) : 2 * (B * B) < m := by rw [← Int.mul_assoc]; exact h.2.2.2
noncomputable def rtX (a m B : Int) : Int × Int × Bool := if RtA a m B then ratM a m B else (0, 0, false)
theorem rtX_no {a m B : Int} (h : ¬ RtA a m B) : rtX a m B = (0, 0, false) := if_neg h
theorem RtA.start {a m B : Int} (h : RtA a m B) : RInv m a m 0 (a % m) 1 ∧ B < m := by
  refine ⟨RInv.start (by have := h.2.1.1; omega), ?_⟩
  have h1 := h.sq
  have h2 := Int.mul_le_mul_of_nonneg_right h.2.2.1.1 (show 0 ≤ B by have := h.2.2.1.1; omega)
  have := h.2.2.1.1
  omega
theorem RatP_iff {a m B n d : Int} (h : RtA a m B) (hn : -B ≤ n ∧ n ≤ B) : RatP a m B n d ↔ d ≤ B ∧ imB n d a m = true := by
  rw [imB_iff]
  have hB := h.2.2.1.2
  constructor
  · rintro ⟨-, h2, h3, h4, h5⟩
    exact ⟨h2.2, imA_true (decide_eq_true ⟨by omega, by omega, by omega, by omega, h3⟩) h.2.1 h4, h.1, h5⟩
  · rintro ⟨h1, h2, -, h4⟩
    obtain ⟨r1, -, r3⟩ := imA_says h2
    exact ⟨hn, ⟨by have := r1.1; omega, h1⟩, r1.2.2.2.2, r3, h4⟩
theorem RInv.ans {m a g x h u B s t : Int} (A : RtA a m B) (I : RInv m a g x h u) (hB : h ≤ B) (gB : B < g) (hs : (if u < 0 then -h else h) = s) (ht : (if u < 0 then -u else u) = t) : rtX a m B = if t ≤ B ∧ imB s t a m = true then (s, t, true) else (0, 0, false) := by
  have hl := I.low
  have hb : -B ≤ s ∧ s ≤ B := by rw [← hs]; split <;> omega
  unfold rtX
  rw [if_pos A]
  split
  · next h1 => exact I.yes hB gB A.sq hs ht ((RatP_iff A hb).mpr h1)
  · next h1 => exact I.no hB gB A.sq hs ht fun h2 => h1 ((RatP_iff A hb).mp h2)
theorem RInv.ans_yes {m a g x h u B s t : Int} (A : RtA a m B) (I : RInv m a g x h u) (hB : h ≤ B) (gB : B < g) (hs : (if u < 0 then -h else h) = s) (ht : (if u < 0 then -u else u) = t) (h1 : t ≤ B) (h2 : imB s t a m = true) : rtX a m B = (s, t, true) := by
  rw [I.ans A hB gB hs ht, if_pos ⟨h1, h2⟩]
theorem RInv.ans_no {m a g x h u B s t : Int} (A : RtA a m B) (I : RInv m a g x h u) (hB : h ≤ B) (gB : B < g) (hs : (if u < 0 then -h else h) = s) (ht : (if u < 0 then -u else u) = t) (h1 : B < t ∨ imB s t a m = false) : rtX a m B = (0, 0, false) := by
  rw [I.ans A hB gB hs ht, if_neg]
  rintro ⟨h2, h3⟩
  rcases h1 with h1 | h1
  · omega
  · rw [h1] at h3; cases h3
end Go.Proofs.YtcapddcmnjeloaaGreatDoor
end

section
/-
  Plain mathematics of chapter 8: what solutions over residues are, and what the composed laws of the chapter say of them. Nothing of a program is used.
-/
namespace Go.Proofs.YtcapddcmnjeloaaGreatDoor
def slF (p : Int) (u b : Nat → Int) : Nat → Int
  | 0 => 0
  | m + 1 => (slF p u b m + u m * (b m % p)) % p
theorem slF_can {p : Int} (hp : 0 < p) (u b : Nat → Int) : ∀ m, 0 ≤ slF p u b m ∧ slF p u b m < p
  | 0 => ⟨Int.le_refl _, hp⟩
  | m + 1 => ⟨Int.emod_nonneg _ (by omega), Int.emod_lt_of_pos _ hp⟩
theorem slF_cg {p : Int} (u b : Nat → Int) : ∀ m, Cg p (slF p u b m) (sumN m fun j => u j * b j)
  | 0 => Cg.refl _ _
  | m + 1 => (Cg.emod p _).trans ((slF_cg u b m).add ((Cg.refl p _).mul (Cg.emod p _)))
def solL (p : Int) (n : Nat) (vs bs : List Int) : List Int := (List.range n).map fun i => slF p (fun j => vs.getD (i * n + j) 0) (fun j => bs.getD j 0) n
theorem solL_length (p : Int) (n : Nat) (vs bs : List Int) : (solL p n vs bs).length = n := by unfold solL; rw [List.length_map, List.length_range]
theorem solL_at {p : Int} {n : Nat} {vs bs : List Int} {i : Nat} (hi : i < n) : (solL p n vs bs).getD i 0 = slF p (fun j => mxC n vs i j) (fun j => bs.getD j 0) n := by
  unfold solL mxC
  simp [List.getD, hi]
theorem solL_can {p : Int} (hp : 0 < p) {n : Nat} {vs bs : List Int} {i : Nat} (hi : i < n) : 0 ≤ (solL p n vs bs).getD i 0 ∧ (solL p n vs bs).getD i 0 < p := by
  rw [solL_at hi]
  exact slF_can hp _ _ _
end Go.Proofs.YtcapddcmnjeloaaGreatDoor
end

section
/-
  Chapter 1, in the model: GcdOf.
-/
namespace Go.Proofs.YtcapddcmnjeloaaGreatDoor
open Go.RowKit
set_option maxHeartbeats 400000 in
theorem sGcd (a b : Int) (w : World) (ha : -400000000 ≤ a ∧ a ≤ 400000000) (hb : -400000000 ≤ b ∧ b ≤ 400000000) :
    Calls Tryz.prog 143 #[.int .i64 a, .int .i64 b] w fun e w' => e = .returned (.int .i64 (Int.gcd a b : Int)) ∧ ∃ n, w' = w.drewN n := by
  obtain ⟨ha1, ha2⟩ := ha
  obtain ⟨hb1, hb2⟩ := hb
  go_enter Tryz.func143, Tryz.ntmps143
  go_wp2_with (go_at_call 56; refine (sIsNum_t _ _ (by omega) (by omega)).mono ?_; rintro e w' ⟨rfl, rfl⟩)
  go_loopw [0, 1] (fun x y wr => ∃ p q : Int, x = .int .i64 p ∧ y = .int .i64 q ∧ -400000000 ≤ p ∧ p ≤ 400000000 ∧ -400000000 ≤ q ∧ q ≤ 400000000 ∧ Int.gcd p q = Int.gcd a b ∧ ∃ n, wr = w.drewN n) (fun _ y _ => (intOf y).natAbs)
  case atStart => exact ⟨a, b, rfl, rfl, ha1, ha2, hb1, hb2, rfl, 0, rfl⟩
  case round =>
    obtain ⟨p, q, rfl, rfl, p1, p2, q1, q2, hg, n, rfl⟩ := hrel
    have HG := Lib.hid hg
    clear hg
    by_cases hq : q = 0
    · subst hq
      go_wp2
      all_goals
        go_ret
        exact ⟨by rw [← HG.out, Int.gcd_zero_right]; exact ret_int (by omega), n, rfl⟩
    · have t1 := tmod_small p q hq
      have t2 := gcd_round p q
      have b1 : -400000000 ≤ p.tmod q := by omega
      have b2 : p.tmod q ≤ 400000000 := by omega
      have T1 := Lib.hid t1
      have T2 := Lib.hid t2
      clear t1 t2
      have hq' : (q == 0) = false := by simpa using hq
      go_wp2
      go_quiet (fail)
      go_wp2
      go_roundw
      case rel => exact ⟨q, p.tmod q, rfl, rfl, q1, q2, b1, b2, T2.out.trans HG.out, _, by rw [World.drewN_drewN]⟩
      case measure => simpa [intOf] using T1.out
end Go.Proofs.YtcapddcmnjeloaaGreatDoor
end

section
/-
  Chapter 1, in the program: greatestDivisor.
-/
namespace Go.Proofs.YtcapddcmnjeloaaGreatDoor
open Go.RowKit
set_option maxHeartbeats 400000 in
theorem iGD (a b : Int) (w : World) (ha : -9000000000000000000 ≤ a ∧ a ≤ 9000000000000000000) (hb : -9000000000000000000 ≤ b ∧ b ≤ 9000000000000000000) :
    Calls Tryz.prog 142 #[.int .i64 a, .int .i64 b] w fun e w' => e = .returned (.int .i64 (Int.gcd a b : Int)) ∧ ∃ n, w' = w.drewN n := by
  obtain ⟨ha1, ha2⟩ := ha
  obtain ⟨hb1, hb2⟩ := hb
  go_enter Tryz.func142, Tryz.ntmps142
  go_wp2_with fail
  go_loopw [0, 1] (fun x y wr => ∃ p q : Int, x = .int .i64 p ∧ y = .int .i64 q ∧ -9000000000000000000 ≤ p ∧ p ≤ 9000000000000000000 ∧ -9000000000000000000 ≤ q ∧ q ≤ 9000000000000000000 ∧ Int.gcd p q = Int.gcd a b ∧ ∃ n, wr = w.drewN n) (fun _ y _ => (intOf y).natAbs)
  case atStart => exact ⟨a, b, rfl, rfl, ha1, ha2, hb1, hb2, rfl, 0, rfl⟩
  case round =>
    obtain ⟨p, q, rfl, rfl, p1, p2, q1, q2, hg, n, rfl⟩ := hrel
    have HG := Lib.hid hg
    clear hg
    by_cases hq : q = 0
    · subst hq
      go_wp2
      all_goals
        go_ret
        exact ⟨by rw [← HG.out, Int.gcd_zero_right]; exact ret_int (by omega), n, rfl⟩
    · have t1 := tmod_small p q hq
      have t2 := gcd_round p q
      have b1 : -9000000000000000000 ≤ p.tmod q := by omega
      have b2 : p.tmod q ≤ 9000000000000000000 := by omega
      have T1 := Lib.hid t1
      have T2 := Lib.hid t2
      clear t1 t2
      have hq' : (q == 0) = false := by simpa using hq
      go_wp2
      go_quiet (fail)
      go_wp2
      go_roundw
      case rel => exact ⟨q, p.tmod q, rfl, rfl, q1, q2, b1, b2, T2.out.trans HG.out, _, by rw [World.drewN_drewN]⟩
      case measure => simpa [intOf] using T1.out
end Go.Proofs.YtcapddcmnjeloaaGreatDoor
end

section
/-
  Chapter 1, in the program: GcdOf.
-/
namespace Go.Proofs.YtcapddcmnjeloaaGreatDoor
open Go.RowKit
theorem iGcd (a b : Int) (w : World) (ha : -400000000 ≤ a ∧ a ≤ 400000000) (hb : -400000000 ≤ b ∧ b ≤ 400000000) :
    Calls Tryz.prog 153 #[.int .i64 a, .int .i64 b] w fun e w' => e = .returned (.int .i64 (Int.gcd a b : Int)) ∧ ∃ n, w' = w.drewN n := by
  go_enter Tryz.func153, Tryz.ntmps153
  go_wp2_with fail
  refine (iIsNum_t _ _ ha.1 ha.2).mono ?_
  rintro e w' ⟨rfl, rfl⟩
  go_wp2_with fail
  refine (iIsNum_t _ _ hb.1 hb.2).mono ?_
  rintro e w' ⟨rfl, rfl⟩
  go_wp2_with fail
  refine (iGD a b _ (by omega) (by omega)).mono ?_
  rintro e w' ⟨rfl, n, rfl⟩
  go_wp2_with fail
  go_ret
  exact ⟨rfl, n, rfl⟩
end Go.Proofs.YtcapddcmnjeloaaGreatDoor
end

section
/-
  The model's quotient rounded down.
-/
namespace Go.Proofs.YtcapddcmnjeloaaGreatDoor
open Go.RowKit
end Go.Proofs.YtcapddcmnjeloaaGreatDoor
end

section
/-
  Chapter 1: Euclid's algorithm with coefficients, in the model and in the program.
-/
namespace Go.Proofs.YtcapddcmnjeloaaGreatDoor
open Go.RowKit
def egOut (r : Int × Int × Int) : Int × Int × Int := if r.1 < 0 then (-r.1, -r.2.1, -r.2.2) else r
def egAns (a b : Int) : Int × Int × Int := egOut (eg a 1 0 b 0 1)
def egVal (r : Int × Int × Int) : Value := .tuple #[.int .i64 r.1, .int .i64 r.2.1, .int .i64 r.2.2, .bool true]
theorem eg_neg {a b g x y : Int} (h : eg a 1 0 b 0 1 = (g, x, y)) (hg : g < 0) : egVal (egAns a b) = .tuple #[.int .i64 (-g), .int .i64 (-x), .int .i64 (-y), .bool true] := by
  unfold egAns; rw [h]; simp [egOut, hg, egVal]
theorem eg_pos {a b g x y : Int} (h : eg a 1 0 b 0 1 = (g, x, y)) (hg : ¬ g < 0) : egVal (egAns a b) = .tuple #[.int .i64 g, .int .i64 x, .int .i64 y, .bool true] := by
  unfold egAns; rw [h]; simp [egOut, hg, egVal]
set_option maxHeartbeats 400000 in
theorem sExt (a b : Int) (w : World) (ha : -400000000 ≤ a ∧ a ≤ 400000000) (hb : -400000000 ≤ b ∧ b ≤ 400000000) :
    Calls Tryz.prog 183 #[.int .i64 a, .int .i64 b] w fun e w' => e = .returned (egVal (egAns a b)) ∧ ∃ n, w' = w.drewN n := by
  have i0 := Inv.start a b ha hb
  have A := Lib.hid ha
  have B := Lib.hid hb
  have I0 := Lib.hid i0
  clear i0
  obtain ⟨ha1, ha2⟩ := ha
  obtain ⟨hb1, hb2⟩ := hb
  go_enter Tryz.func183, Tryz.ntmps183
  go_wp2_with (go_at_call 56; refine (sIsNum_t _ _ (by omega) (by omega)).mono ?_; rintro e w' ⟨rfl, rfl⟩)
  go_loopw [8, 9, 10, 11, 12, 13] (fun sg sx sy sh su sv wr => ∃ g x y h u v : Int, sg = .int .i64 g ∧ sx = .int .i64 x ∧ sy = .int .i64 y ∧ sh = .int .i64 h ∧ su = .int .i64 u ∧ sv = .int .i64 v ∧ Inv a b g x y h u v ∧ eg g x y h u v = eg a 1 0 b 0 1 ∧ ∃ n, wr = w.drewN n) (fun _ _ _ sh _ _ _ => (intOf sh).natAbs)
  case atStart => exact ⟨a, 1, 0, b, 0, 1, rfl, rfl, rfl, rfl, rfl, rfl, I0.out, rfl, 0, rfl⟩
  case round =>
    obtain ⟨g, x, y, h, u, v, rfl, rfl, rfl, rfl, rfl, rfl, i, hE, n, rfl⟩ := hrel
    have HE := Lib.hid hE
    have I := Lib.hid i
    clear hE
    have ⟨g1, g2⟩ := i.g0
    have ⟨h1, h2⟩ := i.h0
    have ⟨x1, x2⟩ := i.x0
    have ⟨y1, y2⟩ := i.y0
    have ⟨u1, u2⟩ := i.u0
    have ⟨v1, v2⟩ := i.v0
    clear i
    by_cases hh : h = 0
    · subst hh
      have HE2 : Hid (eg a 1 0 b 0 1 = (g, x, y)) := by rw [← HE.out, eg_end]; exact rfl
      by_cases hg : g < 0
      · go_wp2
        refine bodyPost_ret (retFour rfl _ _ _) rfl ?_
        exact ⟨by rw [eg_neg HE2.out hg]; rfl, n, rfl⟩
      · go_wp2
        refine bodyPost_ret (retFour rfl _ _ _) rfl ?_
        exact ⟨by rw [eg_pos HE2.out (by omega)]; rfl, n, rfl⟩
    · have hh' : (h == 0) = false := by simpa using hh
      obtain ⟨⟨m1, m2⟩, ⟨m3, m4⟩, ⟨m5, m6⟩, m7, m8⟩ := I.out.fits A.out B.out hh
      have J := Lib.hid (I.out.step A.out B.out hh)
      have E := Lib.hid (eg_step g x y h u v hh)
      have L := Lib.hid (rem_lt g h hh)
      go_wp2
      go_roundw
      case rel => exact ⟨h, u, v, _, _, _, rfl, rfl, rfl, rfl, rfl, rfl, J.out, E.out.symm.trans HE.out, n, rfl⟩
      case measure => simpa [intOf] using L.out
set_option maxHeartbeats 400000 in
theorem lessT (g x y h u v q : Int) (w : World) (g1 : -1000000000 ≤ g) (g2 : g ≤ 1000000000) (x1 : -1000000000 ≤ x) (x2 : x ≤ 1000000000) (y1 : -1000000000 ≤ y) (y2 : y ≤ 1000000000)
    (h1 : -1000000000 ≤ q * h) (h2 : q * h ≤ 1000000000) (u1 : -1000000000 ≤ q * u) (u2 : q * u ≤ 1000000000) (v1 : -1000000000 ≤ q * v) (v2 : q * v ≤ 1000000000) :
    Calls Tryz.prog 166 #[.agg #[.int .i64 g, .int .i64 x, .int .i64 y], .agg #[.int .i64 h, .int .i64 u, .int .i64 v], .int .i64 q] w fun e w' =>
      e = .returned (.agg #[.int .i64 (g - q * h), .int .i64 (x - q * u), .int .i64 (y - q * v)]) ∧ Below w.heap.size w w' := by
  go_enter Tryz.func166, Tryz.ntmps166
  go_wp2
  refine bodyPost_ret (v := .agg #[.int .i64 (g - q * h), .int .i64 (x - q * u), .int .i64 (y - q * v)]) (by simp [results, Tryz.results166, go_sem]) rfl ⟨rfl, ?_⟩
  exact (((Below.refl _ _).alloc (Nat.le_refl _) _).alloc (by simp) _).alloc (by simp; omega) _
set_option maxHeartbeats 4000000 in
theorem iExt (a b : Int) (w : World) (ha : -400000000 ≤ a ∧ a ≤ 400000000) (hb : -400000000 ≤ b ∧ b ≤ 400000000) :
    Calls Tryz.prog 180 #[.int .i64 a, .int .i64 b] w fun e w' => e = .returned (egVal (egAns a b)) ∧ Below w.heap.size w w' := by
  have i0 := Inv.start a b ha hb
  have A := Lib.hid ha
  have B := Lib.hid hb
  have I0 := Lib.hid i0
  clear i0
  obtain ⟨ha1, ha2⟩ := ha
  obtain ⟨hb1, hb2⟩ := hb
  go_enter Tryz.func180, Tryz.ntmps180
  go_wp2_with (go_at_call 90; refine (iIsNum_t _ _ (by omega) (by omega)).mono ?_; rintro e w' ⟨rfl, rfl⟩)
  go_loopg [] b.natAbs (fun k wr => ∃ g x y h u v : Int, k = h.natAbs ∧ Inv a b g x y h u v ∧ eg g x y h u v = eg a 1 0 b 0 1 ∧ Below w.heap.size w wr ∧
      Blk3 wr w.heap.size 182 (.int .i64 g) (.int .i64 x) (.int .i64 y) ∧ Blk3 wr (w.heap.size + 1) 182 (.int .i64 h) (.int .i64 u) (.int .i64 v))
  case atStart =>
    refine ⟨a, 1, 0, b, 0, 1, rfl, I0.out, rfl, ?_, (Blk3.new _ _ _ _ _).old _, ?_⟩
    · exact ((Below.refl _ _).alloc (Nat.le_refl _) _).alloc (by simp) _
    · have := Blk3.new (w.alloc (.cells #[.int .i64 a, .int .i64 1, .int .i64 0] 182)) 182 (.int .i64 b) (.int .i64 0) (.int .i64 1)
      simpa using this
  case round =>
    obtain ⟨g, x, y, h, u, v, hk, i, hE, hbel, k1, k2⟩ := hrel
    have HK := Lib.hid hk
    have HE := Lib.hid hE
    have I := Lib.hid i
    have K1 := Lib.hid k1
    have K2 := Lib.hid k2
    have BEL := Lib.hid hbel
    have c0 := k1.cell0
    have c1 := k1.cell1
    have c2 := k1.cell2
    have d0 := k2.cell0
    have d1 := k2.cell1
    have d2 := k2.cell2
    have f0 := k1.free 0
    have f1 := k1.free 1
    have f2 := k1.free 2
    have e0 := k2.free 0
    have e1 := k2.free 1
    have e2 := k2.free 2
    have hz := k2.lt
    have hz1 := k1.lt
    clear hE k1 k2 hbel hk
    have ⟨g1, g2⟩ := i.g0
    have ⟨h1, h2⟩ := i.h0
    have ⟨x1, x2⟩ := i.x0
    have ⟨y1, y2⟩ := i.y0
    have ⟨u1, u2⟩ := i.u0
    have ⟨v1, v2⟩ := i.v0
    clear i
    by_cases hh : h = 0
    · subst hh
      have HE2 : Hid (eg a 1 0 b 0 1 = (g, x, y)) := by rw [← HE.out, eg_end]; exact rfl
      by_cases hg : g < 0
      · go_wp2_with fail
        refine (lessT 0 0 0 g x y 1 _ (by omega) (by omega) (by omega) (by omega) (by omega) (by omega) (by omega) (by omega) (by omega) (by omega) (by omega) (by omega)).mono ?_
        rintro e w1 ⟨rfl, hb1⟩
        obtain ⟨C0, C1, C2, F0, F1, F2⟩ := (K1.out.keep hb1 hz1).all
        clear c0 c1 c2 d0 d1 d2 f0 f1 f2 e0 e1 e2
        go_wp2_with fail
        go_quiet (fail)
        go_wp2_with fail
        refine bodyPost_ret (retFour rfl _ _ _) rfl ?_
        exact ⟨by rw [eg_neg HE2.out hg]; rfl, below_drewN ((((BEL.out.trans (hb1.mono (by omega))).setCell (Nat.le_refl _) _).setCell (Nat.le_refl _) _).setCell (Nat.le_refl _) _) _⟩
      · go_wp2_with fail
        go_quiet (fail)
        go_wp2_with fail
        refine bodyPost_ret (retFour rfl _ _ _) rfl ?_
        exact ⟨by rw [eg_pos HE2.out (by omega)]; rfl, below_drewN BEL.out _⟩
    · have hh' : (h == 0) = false := by simpa using hh
      obtain ⟨⟨m1, m2⟩, ⟨m3, m4⟩, ⟨m5, m6⟩, m7, m8⟩ := I.out.fits A.out B.out hh
      have J := Lib.hid (I.out.step A.out B.out hh)
      have E := Lib.hid (eg_step g x y h u v hh)
      have L := Lib.hid (rem_lt g h hh)
      go_wp2_with fail
      go_region_with (go_at_call 166; refine (lessT _ _ _ _ _ _ _ _ (by omega) (by omega) (by omega) (by omega) (by omega) (by omega) (by omega) (by omega) (by omega) (by omega) (by omega) (by omega)).mono ?_; rintro e w1 ⟨rfl, hb1⟩; obtain ⟨C0, C1, C2, F0, F1, F2⟩ := ((K1.out.drewN _).keep hb1 hz1).all; obtain ⟨D0, D1, D2, G0, G1, G2⟩ := ((K2.out.drewN _).keep hb1 hz).all)
      all_goals
        go_wp2_with fail
        go_roundg (g - g.tdiv h * h).natAbs
        case measure => rw [HK.out]; exact L.out
        case rel =>
          refine ⟨h, u, v, _, _, _, rfl, J.out, E.out.symm.trans HE.out, ?_, ?_, ?_⟩
          · exact (((((((below_drewN BEL.out _).trans (hb1.mono (Nat.le_of_lt hz1))).setCell (Nat.le_refl _) _).setCell (Nat.le_refl _) _).setCell (Nat.le_refl _) _).setCell (Nat.le_succ _) _).setCell (Nat.le_succ _) _).setCell (Nat.le_succ _) _
          · exact (((((((K1.out.drewN _).keep hb1 hz1).set0 _).set1 _).set2 _).far (by simp) _).far (by simp) _).far (by simp) _
          · exact (((((((K2.out.drewN _).keep hb1 hz).far (by simp) _).far (by simp) _).far (by simp) _).set0 _).set1 _).set2 _
theorem sExt_f (a b : Int) (w : World) (h : ¬ ((-400000000 ≤ a ∧ a ≤ 400000000) ∧ (-400000000 ≤ b ∧ b ≤ 400000000))) :
    Calls Tryz.prog 183 #[.int .i64 a, .int .i64 b] w fun e w' => e = .returned (.tuple #[.int .i64 0, .int .i64 0, .int .i64 0, .bool false]) ∧ w = w' := by
  by_cases ha : -400000000 ≤ a ∧ a ≤ 400000000
  · have hb : b < -400000000 ∨ 400000000 < b := by omega
    clear h
    go_enter Tryz.func183, Tryz.ntmps183
    go_wp2_with fail
    refine (sIsNum_t _ _ ha.1 ha.2).mono ?_
    rintro e w' ⟨rfl, rfl⟩
    go_wp2_with fail
    refine (sIsNum_f _ _ hb).mono ?_
    rintro e w' ⟨rfl, rfl⟩
    go_wp2_with fail
    refine bodyPost_ret (retFour rfl _ _ _) rfl ?_
    exact ⟨rfl, rfl⟩
  · have ha' : a < -400000000 ∨ 400000000 < a := by omega
    clear h ha
    go_enter Tryz.func183, Tryz.ntmps183
    go_wp2_with fail
    refine (sIsNum_f _ _ ha').mono ?_
    rintro e w' ⟨rfl, rfl⟩
    go_wp2_with fail
    refine bodyPost_ret (retFour rfl _ _ _) rfl ?_
    exact ⟨rfl, rfl⟩
theorem iExt_f (a b : Int) (w : World) (h : ¬ ((-400000000 ≤ a ∧ a ≤ 400000000) ∧ (-400000000 ≤ b ∧ b ≤ 400000000))) :
    Calls Tryz.prog 180 #[.int .i64 a, .int .i64 b] w fun e w' => e = .returned (.tuple #[.int .i64 0, .int .i64 0, .int .i64 0, .bool false]) ∧ w = w' := by
  by_cases ha : -400000000 ≤ a ∧ a ≤ 400000000
  · have hb : b < -400000000 ∨ 400000000 < b := by omega
    clear h
    go_enter Tryz.func180, Tryz.ntmps180
    go_wp2_with fail
    refine (iIsNum_t _ _ ha.1 ha.2).mono ?_
    rintro e w' ⟨rfl, rfl⟩
    go_wp2_with fail
    refine (iIsNum_f _ _ hb).mono ?_
    rintro e w' ⟨rfl, rfl⟩
    go_wp2_with fail
    refine bodyPost_ret (retFour rfl _ _ _) rfl ?_
    exact ⟨rfl, rfl⟩
  · have ha' : a < -400000000 ∨ 400000000 < a := by omega
    clear h ha
    go_enter Tryz.func180, Tryz.ntmps180
    go_wp2_with fail
    refine (iIsNum_f _ _ ha').mono ?_
    rintro e w' ⟨rfl, rfl⟩
    go_wp2_with fail
    refine bodyPost_ret (retFour rfl _ _ _) rfl ?_
    exact ⟨rfl, rfl⟩
theorem eg_last (n : Nat) : ∀ a b g x y h u v : Int, h.natAbs = n → -400000000 ≤ a ∧ a ≤ 400000000 → -400000000 ≤ b ∧ b ≤ 400000000 → Inv a b g x y h u v →
    ∃ g' x' y' u' v' : Int, eg g x y h u v = (g', x', y') ∧ Inv a b g' x' y' 0 u' v' := by
  induction n using Nat.strongRecOn with
  | ind n ih =>
    intro a b g x y h u v hn ha hb i
    by_cases hh : h = 0
    · subst hh
      exact ⟨g, x, y, u, v, eg_end _ _ _ _ _, i⟩
    · have l := rem_lt g h hh
      rw [eg_step g x y h u v hh]
      exact ih _ (by omega) a b _ _ _ _ _ _ rfl ha hb (i.step ha hb hh)
theorem egAns_is (a b : Int) (ha : -400000000 ≤ a ∧ a ≤ 400000000) (hb : -400000000 ≤ b ∧ b ≤ 400000000) :
    ∃ x y : Int, egAns a b = ((Int.gcd a b : Int), x, y) ∧ a * x + b * y = (Int.gcd a b : Int) ∧ -400000000 ≤ x ∧ x ≤ 400000000 ∧ -400000000 ≤ y ∧ y ≤ 400000000 := by
  obtain ⟨g, x, y, u, v, he, i⟩ := eg_last _ a b a 1 0 b 0 1 rfl ha hb (Inv.start a b ha hb)
  have l := i.last
  have gc := i.gc
  have x0 := i.x0
  have y0 := i.y0
  unfold egAns egOut
  rw [he]
  by_cases hg : g < 0
  · refine ⟨-x, -y, ?_, ?_, by omega, by omega, by omega, by omega⟩
    · simp only [hg, if_true]
      rw [show -g = (Int.gcd a b : Int) from by omega]
    · rw [Int.mul_neg, Int.mul_neg]; omega
  · refine ⟨x, y, ?_, by omega, by omega, by omega, by omega, by omega⟩
    simp only [hg, if_false]
    rw [show g = (Int.gcd a b : Int) from by omega]
end Go.Proofs.YtcapddcmnjeloaaGreatDoor
end

section
/-
  Chapter 8, in the model: residues from 0 on, IsPrime, InverseModulo.
-/
namespace Go.Proofs.YtcapddcmnjeloaaGreatDoor
set_option maxRecDepth 100000
open Go.RowKit
theorem tmod_in {n p : Int} (hp : 0 < p) : -p < n.tmod p ∧ n.tmod p < p := by
  refine ⟨?_, Int.tmod_lt_of_pos n hp⟩
  have h1 := Int.tmod_lt_of_pos (-n) hp
  rw [Int.neg_tmod] at h1
  omega
theorem sMod (n p : Int) (w : World) (hp : 0 < p) (hp2 : p ≤ 1000000000) :
    Calls Tryz.prog 67 #[.int .i64 n, .int .i64 p] w fun e w' => e = .returned (.int .i64 (n % p)) ∧ w = w' := by
  have t1 := tmod_in (n := n) hp
  have E : Hid ((n.tmod p + p) % p = n % p) := by
    show _ = _
    rw [← mod_go (n := n) hp, Int.tmod_eq_emod_of_nonneg (a := n.tmod p + p) (by omega)]
  have h0 : (p == 0) = false := by simp; omega
  go_enter Tryz.func67, Tryz.ntmps67
  go_wp2_with fail
  go_ret
  exact ⟨by show Ending.returned (Value.int .i64 ((n.tmod p + p) % p)) = _; rw [E.out], rfl⟩
theorem sPrime (p : Int) (w : World) : Calls Tryz.prog 155 #[.int .i64 p] w fun e w' => e = .returned (.bool (prmB p)) ∧ w = w' := by
  by_cases h : 2 ≤ p ∧ p ≤ 10000
  · have FB : Hid (∀ d : Nat, 2 ≤ d → (d : Int) * (d : Int) ≤ p → (d : Int) ∣ p → prmB p = false) := fun d => prmB_div
    have FT : Hid ((∀ d : Nat, 2 ≤ d → (d : Int) * (d : Int) ≤ p → ¬ (d : Int) ∣ p) → prmB p = true) := prmB_true h
    generalize prmB p = b at FB FT ⊢
    obtain ⟨h1, h2⟩ := h
    go_enter Tryz.func155, Tryz.ntmps155
    go_wp2_with fail
    refine (sIn_t p 2 10000 _ h1 h2).mono ?_
    rintro e w' ⟨rfl, rfl⟩
    go_wp2_with fail
    go_loopw [3] (fun v3 wr => ∃ d : Nat, v3 = .int .i64 d ∧ 2 ≤ d ∧ d ≤ 101 ∧ (∀ k : Nat, 2 ≤ k → k < d → (k : Int) * (k : Int) ≤ p → ¬ (k : Int) ∣ p) ∧ wr = w) (fun v3 _ => 200 - (intOf v3).toNat)
    case atStart => exact ⟨2, rfl, by omega, by omega, fun k _ h => by omega, rfl⟩
    case round =>
      obtain ⟨d, rfl, d1, d2, hd, rfl⟩ := hrel
      have HD := Lib.hid hd
      clear hd
      have q0 : (d : Int) * (d : Int) = ((d * d : Nat) : Int) := (Int.natCast_mul _ _).symm
      have q1 : d * d ≤ 101 * 101 := Nat.mul_le_mul d2 d2
      have Q := Lib.hid q0
      obtain ⟨q, hq⟩ : ∃ q, d * d = q := ⟨_, rfl⟩
      have HQ := Lib.hid hq
      rw [hq] at q0 q1
      have w1 : IntKind.i64.wrap ((d : Int) * (d : Int)) = (q : Int) := by rw [q0]; exact IntWalk.i64_in _ (by omega)
      clear q0 hq
      by_cases hp : (q : Int) ≤ p
      · have d3 : d ≤ 100 := by
          rcases Nat.lt_or_ge 100 d with h | h
          · have : 101 * 101 ≤ d * d := Nat.mul_le_mul h h
            have := HQ.out
            omega
          · exact h
        have n0 : ((d : Int) == 0) = false := by simp; omega
        have X : Hid ((d : Int) ∣ p ↔ p % (d : Int) = 0) := ⟨Int.emod_eq_zero_of_dvd, Int.dvd_of_emod_eq_zero⟩
        by_cases h0 : p % (d : Int) = 0
        · have n1 : (p % (d : Int) == 0) = true := by simp [h0]
          have R : Hid (b = false) := FB.out d d1 (by rw [Q.out, HQ.out]; exact hp) (X.out.mpr h0)
          clear h0
          go_wp2_with fail
          go_ret
          exact ⟨by rw [R.out]; rfl, rfl⟩
        · have n1 : (p % (d : Int) == 0) = false := by simpa using h0
          have ND : Hid (¬ (d : Int) ∣ p) := fun hdv => h0 (X.out.mp hdv)
          have HD2 : Hid (∀ k : Nat, 2 ≤ k → k < d + 1 → (k : Int) * (k : Int) ≤ p → ¬ (k : Int) ∣ p) := fun k k1 k2 k3 => by
            rcases Nat.lt_or_ge k d with h | h
            · exact HD.out k k1 h k3
            · obtain rfl : k = d := by omega
              exact ND.out
          clear h0
          go_wp2_with fail
          go_roundw
          case rel => exact ⟨d + 1, by go_num, by omega, by omega, HD2.out, trivial⟩
          case measure => simp [intOf]; omega
      · have R : Hid (b = true) := FT.out fun k k1 k2 => by
          rcases Nat.lt_or_ge k d with h | h
          · exact HD.out k k1 h k2
          · have h3 : d * d ≤ k * k := Nat.mul_le_mul h h
            have h4 := HQ.out
            rw [← Int.natCast_mul] at k2
            have h5 : ((d * d : Nat) : Int) ≤ ((k * k : Nat) : Int) := Int.ofNat_le.mpr h3
            rw [h4] at h5
            omega
        go_wp2_with fail
        go_ret
        exact ⟨by rw [R.out]; rfl, rfl⟩
  · have E : Hid (prmB p = false) := prmB_out (by omega)
    have h' : p < 2 ∨ 10000 < p := by omega
    clear h
    go_enter Tryz.func155, Tryz.ntmps155
    go_wp2_with fail
    refine (sIn_f p 2 10000 _ h').mono ?_
    rintro e w' ⟨rfl, rfl⟩
    go_wp2_with fail
    go_ret
    exact ⟨by rw [E.out]; rfl, rfl⟩
theorem ivM_no1 {p a : Int} (h : prmB p = false) : ivM p a = (0, false) := by unfold ivM; rw [h]; rfl
theorem ivM_no2 {p a : Int} (h : ¬ NumP a) : ivM p a = (0, false) := by unfold ivM; rw [decide_eq_false h, Bool.and_false, Bool.false_and]; rfl
theorem ivM_no3 {p a : Int} (h : a % p = 0) : ivM p a = (0, false) := by unfold ivM; rw [decide_eq_false (by omega : ¬ a % p ≠ 0), Bool.and_false]; rfl
theorem ivM_yes {p a y : Int} (h1 : prmB p = true) (h2 : NumP a) (h : a % p = y) (h3 : y ≠ 0) : ivM p a = (invF p y, true) := by
  unfold ivM
  rw [h1, decide_eq_true h2, h, decide_eq_true h3]; rfl
theorem ext_res {p y : Int} (hp : Prm p) (hp2 : p ≤ 10000) (h0 : 0 ≤ y) (hy : y < p) (hn : y ≠ 0) : ∃ x z : Int, egAns y p = (1, x, z) ∧ invF p y = x % p ∧ -400000000 ≤ x ∧ x ≤ 400000000 := by
  have hp1 := hp.1
  obtain ⟨x, z, e, hxz, b1, b2, -, -⟩ := egAns_is y p ⟨by omega, by omega⟩ ⟨by omega, by omega⟩
  have hg : (Int.gcd y p : Int) = 1 := by have := hp.gcd (can_nd ⟨h0, hy⟩ hn); omega
  rw [hg] at e hxz
  exact ⟨x, z, e, invF_ext hp hxz rfl, b1, b2⟩
theorem sInvM (a p : Int) (w : World) : Calls Tryz.prog 157 #[.int .i64 a, .int .i64 p] w fun e w' => e = .returned (.tuple #[.int .i64 (ivM p a).1, .bool (ivM p a).2]) ∧ ∃ n, w' = w.drewN n := by
  have W0 : Hid (∃ n, w = w.drewN n) := ⟨0, rfl⟩
  rcases Bool.eq_false_or_eq_true (prmB p) with h1 | h1
  · obtain ⟨hp, hp2⟩ := prmB_says h1
    have hp1 := hp.1
    have P1 := Lib.hid h1
    by_cases h2 : NumP a
    · obtain ⟨y, hy⟩ : ∃ y, a % p = y := ⟨_, rfl⟩
      have Y := Lib.hid hy
      by_cases h3 : y = 0
      · have V : Hid (ivM p a = (0, false)) := ivM_no3 (by rw [hy, h3])
        have n3 : (y == 0) = true := by simp [h3]
        clear h1 h3 hy hp
        go_enter Tryz.func157, Tryz.ntmps157
        go_wp2_with fail
        refine (sPrime p _).mono ?_
        rintro e w' ⟨rfl, rfl⟩
        rw [P1.out]
        go_wp2_with fail
        refine (sIsNum_t a _ h2.1 h2.2).mono ?_
        rintro e w' ⟨rfl, rfl⟩
        go_wp2_with fail
        refine (sMod a p _ (by omega) (by omega)).mono ?_
        rintro e w' ⟨rfl, rfl⟩
        rw [Y.out]
        go_wp2_with fail
        exact bodyPost_ret (v := .tuple #[.int .i64 0, .bool false]) (by simp [results, Tryz.results157, go_sem]) rfl ⟨by rw [V.out], W0.out⟩
      · have V := Lib.hid (ivM_yes h1 h2 hy h3)
        have n3 : (y == 0) = false := by simpa using h3
        have y0 : 0 ≤ y := by rw [← hy]; exact Int.emod_nonneg _ (by omega)
        have y1 : y < p := by rw [← hy]; exact Int.emod_lt_of_pos _ (by omega)
        obtain ⟨x, z, hx, hi, b1, b2⟩ := ext_res hp hp2 y0 y1 h3
        have HI := Lib.hid hi
        have HX : Hid (egVal (egAns y p) = .tuple #[.int .i64 1, .int .i64 x, .int .i64 z, .bool true]) := by show _ = _; rw [hx]; rfl
        clear h1 h3 hy hp hi hx
        go_enter Tryz.func157, Tryz.ntmps157
        go_wp2_with fail
        refine (sPrime p _).mono ?_
        rintro e w' ⟨rfl, rfl⟩
        rw [P1.out]
        go_wp2_with fail
        refine (sIsNum_t a _ h2.1 h2.2).mono ?_
        rintro e w' ⟨rfl, rfl⟩
        go_wp2_with fail
        refine (sMod a p _ (by omega) (by omega)).mono ?_
        rintro e w' ⟨rfl, rfl⟩
        rw [Y.out]
        go_wp2_with fail
        refine (sMod a p _ (by omega) (by omega)).mono ?_
        rintro e w' ⟨rfl, rfl⟩
        rw [Y.out]
        go_wp2_with fail
        refine (sExt y p _ ⟨by omega, by omega⟩ ⟨by omega, by omega⟩).mono ?_
        rintro e w' ⟨rfl, n, rfl⟩
        rw [HX.out]
        go_wp2_with fail
        refine (sMod x p _ (by omega) (by omega)).mono ?_
        rintro e w' ⟨rfl, rfl⟩
        go_wp2_with fail
        exact bodyPost_ret (v := .tuple #[.int .i64 (x % p), .bool true]) (by simp [results, Tryz.results157, go_sem]) rfl ⟨by rw [V.out, ← HI.out], n, rfl⟩
    · have V := Lib.hid (ivM_no2 (p := p) h2)
      have h2' : a < -400000000 ∨ 400000000 < a := by unfold NumP at h2; omega
      clear h1 h2 hp
      go_enter Tryz.func157, Tryz.ntmps157
      go_wp2_with fail
      refine (sPrime p _).mono ?_
      rintro e w' ⟨rfl, rfl⟩
      rw [P1.out]
      go_wp2_with fail
      refine (sIsNum_f a _ h2').mono ?_
      rintro e w' ⟨rfl, rfl⟩
      go_wp2_with fail
      exact bodyPost_ret (v := .tuple #[.int .i64 0, .bool false]) (by simp [results, Tryz.results157, go_sem]) rfl ⟨by rw [V.out], W0.out⟩
  · have V := Lib.hid (ivM_no1 (a := a) h1)
    have P1 := Lib.hid h1
    clear h1
    go_enter Tryz.func157, Tryz.ntmps157
    go_wp2_with fail
    refine (sPrime p _).mono ?_
    rintro e w' ⟨rfl, rfl⟩
    rw [P1.out]
    go_wp2_with fail
    exact bodyPost_ret (v := .tuple #[.int .i64 0, .bool false]) (by simp [results, Tryz.results157, go_sem]) rfl ⟨by rw [V.out], W0.out⟩
end Go.Proofs.YtcapddcmnjeloaaGreatDoor
end

section
/-
  Contracts of Go's library at this translation, each one application of a theorem of the guide's library: slices_Clone_int, slices_Clone_int_zero, slices_Clone_int_nil.
-/
namespace Go.Proofs
open Go.Shelf
def Tryz.laysNm215_ren : Go.Shelf.Ren := ⟨fun | 15 => 162 | n => n, fun | 22 => 24 | 3 => 3 | 4 => 4 | n => n, fun | n => n⟩
theorem Tryz.laysNm215 : Go.Proofs.Lays2.n15 Tryz.prog Tryz.laysNm215_ren := {
  mixed := by kernel_rfl
  f15 := Tryz.func162.trans (congrArg some (by kernel_rfl))
  t3 := Tryz.underlying3
  a3 := Tryz.isAgg3
  z3 := Tryz.sizeOf3
  v3 := Tryz.zeroValue3
  t4 := Tryz.underlying4
  a4 := Tryz.isAgg4
  z4 := Tryz.sizeOf4
  v4 := Tryz.zeroValue4
  t22 := Tryz.underlying24
  a22 := Tryz.isAgg24
  z22 := Tryz.sizeOf24
  v22 := Tryz.zeroValue24
  i3 := by kernel_rfl }
open Go.RowKit Go.Lib in
theorem Tryz.slices_Clone_int (b off n c : Nat) (zs : List Int) (w : World) (hz : n ≤ zs.length) (hbig : n * 8 ≤ 140737488355328) (hc : ∀ j, j < zs.length → w.cell? ⟨b, off + j, none⟩ = some (.int .i64 (zs.getD j 0))) :
    Calls Tryz.prog 162 #[.slice (some ⟨b, off, none⟩) n c] w fun e w' => ∃ v', e = .returned v' ∧ w'.ownsRow w.heap.size 3 1 v' n ((zs.take n).map (Value.int .i64)) ∧ v' ≠ .slice none 0 0 ∧ Below w.heap.size w w' := Any.slices_Clone_int Tryz.laysNm215 b off n c zs w hz hbig hc
open Go.RowKit Go.Lib in
theorem Tryz.slices_Clone_int_nil (n c : Nat) (w : World) :
    Calls Tryz.prog 162 #[.slice none n c] w fun e w' => e = .returned (.slice none 0 0) ∧ w' = w := Any.slices_Clone_int_nil Tryz.laysNm215 n c w
open Go.RowKit Go.Lib in
theorem Tryz.slices_Clone_int_zero (a : Addr) (c : Nat) (w : World) :
    Calls Tryz.prog 162 #[.slice (some a) 0 c] w fun e w' => ∃ v', e = .returned v' ∧ w'.ownsRow w.heap.size 3 1 v' 0 [] ∧ v' ≠ .slice none 0 0 ∧ Below w.heap.size w w' := Any.slices_Clone_int_zero Tryz.laysNm215 a c w
end Go.Proofs
end

section
/-
  Chapter 3, in the program: slices.Clone over slices of ints.
-/
namespace Go.Proofs.YtcapddcmnjeloaaGreatDoor
open Go.RowKit
def Copy (zs : List Int) (w : World) (e : Ending) (w' : World) : Prop := ∃ v, e = .returned v ∧ Own w.heap.size w' v zs ∧ Below w.heap.size w w'
theorem iClone (a : Option Addr) (cap : Nat) (zs : List Int) (w : World) (h : Rd w a zs) (hn : zs.length ≤ 16777216) :
    Calls Tryz.prog 162 #[.slice a zs.length cap] w (Copy zs w) := by
  rcases Nat.eq_zero_or_pos zs.length with e | hz
  · obtain rfl : zs = [] := List.eq_nil_of_length_eq_zero e
    cases a with
    | none => exact (Tryz.slices_Clone_int_nil 0 cap w).mono fun e w' ⟨h1, h2⟩ => ⟨_, h1, .inl ⟨rfl, rfl⟩, by rw [h2]; exact Below.refl _ _⟩
    | some x => exact (Tryz.slices_Clone_int_zero x cap w).mono fun e w' ⟨v, h1, h2, _, h3⟩ => ⟨v, h1, Own.of_row h2 (by simp), h3⟩
  · obtain ⟨b, o, rfl⟩ := h.addr hz
    refine (Tryz.slices_Clone_int b o zs.length cap zs w (Nat.le_refl _) (by omega) h.cells).mono fun e w' ⟨v, h1, h2, _, h3⟩ => ⟨v, h1, Own.of_row ?_ hn, h3⟩
    rw [List.take_length] at h2
    exact h2
def mixL (xs : List Int) (k : Nat) (f : Nat → Int) : List Int := (List.range xs.length).map fun i => if i < k then f i else xs.getD i 0
theorem mixL_length (xs : List Int) (k : Nat) (f : Nat → Int) : (mixL xs k f).length = xs.length := by simp [mixL]
theorem mixL_zero (xs : List Int) (f : Nat → Int) : mixL xs 0 f = xs := by
  apply List.ext_getElem (by simp [mixL])
  intro i h1 h2
  simp [mixL, List.getD, h2]
theorem mixL_all (xs : List Int) (f : Nat → Int) : mixL xs xs.length f = (List.range xs.length).map f := by
  apply List.ext_getElem (by simp [mixL])
  intro i h1 h2
  have : i < xs.length := by simpa [mixL] using h1
  simp [mixL, this]
theorem mixL_at (xs : List Int) (k : Nat) (f : Nat → Int) : (mixL xs k f).getD k 0 = xs.getD k 0 := by
  unfold mixL List.getD
  rcases Nat.lt_or_ge k xs.length with h | h
  · simp [h]
  · simp [h]
theorem mixL_step (xs : List Int) (k : Nat) (f : Nat → Int) : (mixL xs k f).set k (f k) = mixL xs (k + 1) f := by
  apply List.ext_getElem (by simp [mixL])
  intro i h1 h2
  have hi : i < xs.length := by simpa [mixL] using h2
  rw [List.getElem_set]
  by_cases e : k = i
  · subst e; simp [mixL]
  · simp only [e, if_false]
    simp only [mixL, List.getElem_map, List.getElem_range]
    by_cases h3 : i < k
    · rw [if_pos h3, if_pos (by omega)]
    · rw [if_neg h3, if_neg (by omega)]
theorem Own.cases {B : Nat} {w : World} {v : Value} {zs : List Int} (h : Own B w v zs) : (v = .slice none 0 0 ∧ zs = []) ∨ ∃ (g cap : Nat), v = .slice (some ⟨g, 0, none⟩) zs.length cap ∧ B ≤ g ∧ Ints w g zs ∧ zs.length ≤ cap := by
  rcases h with h | ⟨g, cap, hv, hB, hi, hl, _⟩
  · exact .inl h
  · exact .inr ⟨g, cap, hv, hB, hi, hl⟩
def CopyN (n : Nat) (zs : List Int) (w : World) (e : Ending) (w' : World) : Prop := ∃ q qc, e = .returned (.slice q n qc) ∧ Own w.heap.size w' (.slice q n qc) zs ∧ Below w.heap.size w w'
theorem iCloneN (a : Option Addr) (cap n : Nat) (zs : List Int) (hz : zs.length = n) (w : World) (h : Rd w a zs) (hn : n ≤ 16777216) :
    Calls Tryz.prog 162 #[.slice a n cap] w (CopyN n zs w) := by
  subst hz
  refine (iClone a cap zs w h hn).mono ?_
  rintro e w' ⟨v, rfl, own, hb⟩
  obtain ⟨q, qc, rfl, -, -⟩ := own.form
  exact ⟨q, qc, rfl, own, hb⟩
end Go.Proofs.YtcapddcmnjeloaaGreatDoor
end

section
/-
  Chapter 8, in the model: ReduceMod.
-/
namespace Go.Proofs.YtcapddcmnjeloaaGreatDoor
set_option maxRecDepth 100000
open Go.RowKit
theorem resL_mix {p : Int} {xs : List Int} : mixL xs xs.length (fun i => xs.getD i 0 % p) = resL p xs := by
  rw [mixL_all]
  unfold resL
  apply List.ext_getElem (by simp)
  intro i h1 h2
  have : i < xs.length := by simpa using h2
  simp [List.getD, this]
set_option maxHeartbeats 2000000 in
theorem sRed (r c p : Int) (a : Option Addr) (m : Nat) (xs : List Int) (w : World) (h : Rd w a xs) (hn : xs.length ≤ 16777216) (ha : Spot a) :
    Calls Tryz.prog 111 #[.agg #[.int .i64 r, .int .i64 c, .slice a xs.length m], .int .i64 p] w (MatRes (redM r c p xs) w) := by
  have IM : Hid (∀ w', Below w.heap.size w w' → Calls Tryz.prog 19 #[.agg #[.int .i64 r, .int .i64 c, .slice a xs.length m]] w' (Gives (.bool (isMat r c xs)) w')) := fun w' hb => sIsMat r c a m xs w' (h.below hb) hn
  have HX : Hid (isMat r c xs = true → xs.length ≤ 576) := fun hm => by
    obtain ⟨⟨r0, r1⟩, ⟨c0, c1⟩, hl, -⟩ := isMat_says hm
    have h2 : r * c ≤ 24 * 24 := Int.mul_le_mul (by omega) (by omega) c0 (by omega)
    omega
  have CP : Hid (xs.length ≤ 576 → ∀ w', Below w.heap.size w w' → Calls Tryz.prog 80 #[.agg #[.int .i64 r, .int .i64 c, .slice a xs.length m]] w' (fun e w2 => ∃ g cap : Nat, e = .returned (.agg #[.int .i64 r, .int .i64 c, .slice (some ⟨g, 0, none⟩) xs.length cap]) ∧ w'.heap.size ≤ g ∧ IntsC w2 g cap xs ∧ Below w'.heap.size w' w2)) := fun hl w' hb => sCopyA r c a m xs.length xs w' (h.below hb) ha rfl (by omega)
  have VN : Hid (isMat r c xs = false ∨ prmB p = false → redM r c p xs = MR.no) := fun h => by
    show _ = _
    unfold redM
    rcases h with h | h
    · rw [h]; rfl
    · rw [h, Bool.and_false]; rfl
  have VY : Hid (isMat r c xs = true → prmB p = true → redM r c p xs = ⟨true, r, c, resL p xs⟩) := fun h1 h2 => by
    show _ = _
    unfold redM
    rw [h1, h2]; rfl
  have PB : Hid (prmB p = true → 2 ≤ p ∧ p ≤ 10000) := fun h => ⟨(prmB_says h).1.1, (prmB_says h).2⟩
  have ML : Hid (∀ k, (mixL xs k fun i => xs.getD i 0 % p).length = xs.length) := fun k => mixL_length _ _ _
  have MA : Hid (∀ k, (mixL xs k fun i => xs.getD i 0 % p).getD k 0 = xs.getD k 0) := fun k => mixL_at _ _ _
  have MS : Hid (∀ k, (mixL xs k fun i => xs.getD i 0 % p).set k (xs.getD k 0 % p) = mixL xs (k + 1) fun i => xs.getD i 0 % p) := fun k => mixL_step xs k (fun i => xs.getD i 0 % p)
  have MZ : Hid ((mixL xs 0 fun i => xs.getD i 0 % p) = xs) := mixL_zero _ _
  have ME : Hid ((mixL xs xs.length fun i => xs.getD i 0 % p) = resL p xs) := resL_mix
  have RN : Hid ((resL p xs).length = xs.length) := by show _ = _; unfold resL; exact List.length_map ..
  obtain ⟨N, hN⟩ : ∃ N, xs.length = N := ⟨_, rfl⟩
  rw [hN] at IM CP HX ML ME RN hn ⊢
  generalize redM r c p xs = RES at VN VY ⊢
  generalize isMat r c xs = bm at IM HX VN VY
  have XN := Lib.hid hN
  clear h ha hN
  go_enter Tryz.func111, Tryz.ntmps111
  go_upto_region 1 with fail
  have K0 : Hid (Blk3 ((w.alloc (.cells #[.int .i64 r, .int .i64 c, .slice a N m] 26)).alloc (.cells #[.int .i64 0, .int .i64 0, .slice none 0 0] 26)) w.heap.size 26 (.int .i64 r) (.int .i64 c) (.slice a N m)) := (Blk3.at_ _ _ _ _ rfl).old _
  have R0 : Hid (Blk3 ((w.alloc (.cells #[.int .i64 r, .int .i64 c, .slice a N m] 26)).alloc (.cells #[.int .i64 0, .int .i64 0, .slice none 0 0] 26)) (w.heap.size + 1) 26 (.int .i64 0) (.int .i64 0) (.slice none 0 0)) := Blk3.at_ _ _ _ _ (by simp)
  have B0 : Hid (Below w.heap.size w ((w.alloc (.cells #[.int .i64 r, .int .i64 c, .slice a N m] 26)).alloc (.cells #[.int .i64 0, .int .i64 0, .slice none 0 0] 26))) := ((Below.refl _ _).alloc (Nat.le_refl _) _).alloc (by simp) _
  have S0 : Hid (((w.alloc (.cells #[.int .i64 r, .int .i64 c, .slice a N m] 26)).alloc (.cells #[.int .i64 0, .int .i64 0, .slice none 0 0] 26)).heap.size = w.heap.size + 2) := by show _ = _; simp
  generalize (w.alloc (.cells #[.int .i64 r, .int .i64 c, .slice a N m] 26)).alloc (.cells #[.int .i64 0, .int .i64 0, .slice none 0 0] 26) = W0 at K0 R0 B0 S0 ⊢
  obtain ⟨p0, p1, p2, -, -, -⟩ := K0.out.all
  go_wp2_with fail
  refine (IM.out _ B0.out).mono ?_
  rintro e w1 ⟨rfl, hb⟩
  have s0 := S0.out
  have sb := hb.size
  have K1 := Lib.hid (K0.out.step hb)
  have R1 := Lib.hid (R0.out.step hb)
  have B1 := Lib.hid (B0.out.trans (hb.mono (by omega)))
  clear hb K0 R0 B0 S0 p0 p1 p2
  obtain ⟨p0, p1, p2, -, -, -⟩ := K1.out.all
  cases bm with
  | false =>
    have RX := Lib.hid (VN.out (.inl rfl))
    clear p0 p1 p2
    obtain ⟨r0, r1, r2, f0, f1, f2⟩ := R1.out.all
    go_wp2_with fail
    obtain ⟨E0, E1, E2, -, -, -⟩ := (((R1.out.set0 (.int .i64 0)).set1 (.int .i64 0)).set2 (.slice none 0 0)).all
    rw [RX.out]
    exact bodyPost_ret (v := .tuple #[.agg #[.int .i64 0, .int .i64 0, .slice none 0 0], .bool false]) (by simp [results, Tryz.results111, go_sem, E0, E1, E2]) rfl ⟨_, rfl, .inl ⟨rfl, rfl⟩, ((B1.out.setCell (Nat.le_succ _) _).setCell (Nat.le_succ _) _).setCell (Nat.le_succ _) _⟩
  | true =>
    go_wp2_with fail
    refine (sPrime p _).mono ?_
    rintro e w2 ⟨rfl, rfl⟩
    obtain ⟨bp, hbp⟩ : ∃ b, prmB p = b := ⟨_, rfl⟩
    rw [hbp] at VN VY PB ⊢
    clear hbp
    cases bp with
    | false =>
      have RX := Lib.hid (VN.out (.inr rfl))
      clear p0 p1 p2
      obtain ⟨r0, r1, r2, f0, f1, f2⟩ := R1.out.all
      go_wp2_with fail
      obtain ⟨E0, E1, E2, -, -, -⟩ := (((R1.out.set0 (.int .i64 0)).set1 (.int .i64 0)).set2 (.slice none 0 0)).all
      rw [RX.out]
      exact bodyPost_ret (v := .tuple #[.agg #[.int .i64 0, .int .i64 0, .slice none 0 0], .bool false]) (by simp [results, Tryz.results111, go_sem, E0, E1, E2]) rfl ⟨_, rfl, .inl ⟨rfl, rfl⟩, ((B1.out.setCell (Nat.le_succ _) _).setCell (Nat.le_succ _) _).setCell (Nat.le_succ _) _⟩
    | true =>
      obtain ⟨hp1, hp2⟩ := PB.out rfl
      have N5 := HX.out trivial
      have RX := Lib.hid (VY.out trivial rfl)
      go_wp2_with fail
      refine (CP.out N5 _ B1.out).mono ?_
      rintro e w3 ⟨g, cap, rfl, hg, hi, hb⟩
      have gl := hi.lt
      have sb3 := hb.size
      have R3 := Lib.hid ((R1.out.step hb).old (.cells #[.int .i64 r, .int .i64 c, .slice (some ⟨g, 0, none⟩) N cap] 26))
      have Bx := B1.out.trans (hb.mono (by omega))
      have B3 := Lib.hid (Bx.alloc Bx.size (.cells #[.int .i64 r, .int .i64 c, .slice (some ⟨g, 0, none⟩) N cap] 26))
      have hcap := hi.le
      have I3 := Lib.hid (hi.ints.old (.cells #[.int .i64 r, .int .i64 c, .slice (some ⟨g, 0, none⟩) N cap] 26))
      have A3 : Hid (Blk3 (w3.alloc (.cells #[.int .i64 r, .int .i64 c, .slice (some ⟨g, 0, none⟩) N cap] 26)) w3.heap.size 26 (.int .i64 r) (.int .i64 c) (.slice (some ⟨g, 0, none⟩) N cap)) := Blk3.at_ _ _ _ _ rfl
      rw [XN.out] at hcap
      have S3 : Hid ((w3.alloc (.cells #[.int .i64 r, .int .i64 c, .slice (some ⟨g, 0, none⟩) N cap] 26)).heap.size = w3.heap.size + 1) := by show _ = _; simp
      clear hb Bx hi p0 p1 p2 K1 R1 B1 IM CP
      go_upto_region 4 with fail
      generalize w3.alloc (.cells #[.int .i64 r, .int .i64 c, .slice (some ⟨g, 0, none⟩) N cap] 26) = W3 at R3 B3 I3 A3 S3 ⊢
      obtain ⟨b, hbb⟩ : ∃ b, w3.heap.size = b := ⟨_, rfl⟩
      rw [hbb] at A3 S3 gl sb3 ⊢
      obtain ⟨rb, hrb⟩ : ∃ rb, w.heap.size + 1 = rb := ⟨_, rfl⟩
      rw [hrb] at R3 ⊢
      have l1 : w.heap.size ≤ rb := by omega
      have l2 : rb < g := by omega
      have l3 : g < b := gl
      clear hbb hrb gl sb3 sb s0 hg
      go_wp2_with fail
      go_loopw [7] (fun i wr => ∃ k : Nat, i = .int .i64 k ∧ k ≤ N ∧ Ints wr g (mixL xs k fun i => xs.getD i 0 % p) ∧ W3.grownBy wr (some g)) (fun i _ => N - (intOf i).toNat)
      case atStart => exact ⟨0, rfl, by omega, by rw [MZ.out]; exact I3.out, World.grownBy.refl _ _⟩
      case round =>
        obtain ⟨k, rfl, hk, hi, hgr⟩ := hrel
        have I := Lib.hid hi
        have G := Lib.hid hgr
        clear hi hgr
        have R4 := Lib.hid (R3.out.keepOne G.out (by omega))
        have A4 := Lib.hid (A3.out.keepOne G.out (by omega))
        have B4 := Lib.hid (B3.out.trans (below_of_one G.out (by omega) B3.out.size))
        obtain ⟨p0, p1, p2, -, -, -⟩ := A4.out.all
        by_cases hlt : k < N
        · have hca := I.out.cell (i := k) (by rw [ML.out]; exact hlt)
          have hfr := I.out.free k
          rw [MA.out] at hca
          have MK := Lib.hid (MS.out k)
          obtain ⟨x, hx⟩ : ∃ x, xs.getD k 0 = x := ⟨_, rfl⟩
          rw [hx] at hca MK
          clear hx
          go_wp2_with fail
          refine wp_region_still_tail 11 (by kernel_rfl) (by kernel_rfl) ?_
          simp only [List.take_succ_cons, List.take_zero, List.drop_succ_cons, List.drop_zero]
          repeat still_step
          still_call ((sMod x p _ (by omega) (by omega)).mono fun _ _ h => ⟨h.1, h.2.symm⟩)
          repeat still_step
          try refine wpStill_nil ?_
          have I5 := Lib.hid ((I.out.drew).set k (x % p))
          have G5 := Lib.hid (grown_set_one (a := ⟨g, k, none⟩) (grown_drew_one G.out) rfl (.int .i64 (x % p)))
          go_wp2_with fail
          go_roundw
          case rel => exact ⟨k + 1, by go_num, by omega, by rw [← MK.out]; exact I5.out, G5.out⟩
          case measure => simp [intOf]; omega
        · obtain rfl : N = k := by omega
          rw [ME.out] at I
          obtain ⟨r0, r1, r2, f0, f1, f2⟩ := R4.out.all
          go_wp2_with fail
          obtain ⟨E0, E1, E2, -, -, -⟩ := (((R4.out.set0 (.int .i64 r)).set1 (.int .i64 c)).set2 (.slice (some ⟨g, 0, none⟩) N cap)).all
          rw [RX.out]
          refine bodyPost_ret (v := .tuple #[.agg #[.int .i64 r, .int .i64 c, .slice (some ⟨g, 0, none⟩) N cap], .bool true]) (by simp [results, Tryz.results111, go_sem, E0, E1, E2]) rfl ⟨_, rfl, .inr ⟨g, cap, by rw [RN.out], by omega, ?_, by rw [RN.out]; omega, by rw [RN.out]; omega⟩, ((B4.out.setCell l1 _).setCell l1 _).setCell l1 _⟩
          exact ((I.out.far (a := ⟨rb, 0, none⟩) (by show g ≠ rb; omega) _).far (a := ⟨rb, 1, none⟩) (by show g ≠ rb; omega) _).far (a := ⟨rb, 2, none⟩) (by show g ≠ rb; omega) _
end Go.Proofs.YtcapddcmnjeloaaGreatDoor
end

section
/-
  Chapter 7, in the model: a row made primitive.
-/
namespace Go.Proofs.YtcapddcmnjeloaaGreatDoor
set_option maxRecDepth 100000
open Go.RowKit
end Go.Proofs.YtcapddcmnjeloaaGreatDoor
end

section
/-
  A row of ints of a call's own, that append may go on with.
-/
namespace Go.Proofs.YtcapddcmnjeloaaGreatDoor
open Go.RowKit
def OwnQ (B : Nat) (w : World) (v : Value) (zs : List Int) : Prop := w.ownsRow B 3 1 v zs.length (zs.map (Value.int .i64))
theorem OwnQ.le {B : Nat} {w : World} {v : Value} {zs : List Int} (h : OwnQ B w v zs) {k : Nat} (hk : v.ownBlock = some k) : B ≤ k := by
  rcases h.2 with ⟨rfl, -⟩ | ⟨g, cap, cur, rfl, hB, -⟩
  · cases hk
  · simp [Value.ownBlock] at hk; omega
theorem OwnQ.move {B : Nat} {w w' : World} {v : Value} {zs : List Int} (h : OwnQ B w v zs) (hb : ∀ k, v.ownBlock = some k → w'.heap[k]? = w.heap[k]?) : OwnQ B w' v zs := by
  obtain ⟨h1, ⟨h2, h3⟩ | ⟨g, cap, cur, rfl, hB, hg, rest⟩⟩ := h
  · exact ⟨h1, .inl ⟨h2, h3⟩⟩
  · exact ⟨h1, .inr ⟨g, cap, cur, rfl, hB, (hb g rfl).trans hg, rest⟩⟩
theorem OwnQ.lt {B : Nat} {w : World} {v : Value} {zs : List Int} (h : OwnQ B w v zs) {k : Nat} (hk : v.ownBlock = some k) : k < w.heap.size := by
  rcases h.2 with ⟨rfl, -⟩ | ⟨g, cap, cur, rfl, hB, hg, -⟩
  · cases hk
  · simp only [Value.ownBlock, Option.some.injEq] at hk
    subst hk
    exact lt_of_block hg
theorem OwnQ.one {B rb : Nat} {w w' : World} {v : Value} {zs : List Int} (h : OwnQ B w v zs) (hg : w.grownBy w' (some rb)) (hr : rb < B) : OwnQ B w' v zs :=
  h.move fun k hk => hg.block k (h.lt hk) (by have := h.le hk; simp; omega)
theorem OwnQ.drewN {B : Nat} {w : World} {v : Value} {zs : List Int} (h : OwnQ B w v zs) (n : Nat) : OwnQ B (w.drewN n) v zs := h
theorem OwnQ.keep {B : Nat} {w w' : World} {v : Value} {zs : List Int} (h : OwnQ B w v zs) (hb : Below w.heap.size w w') : OwnQ B w' v zs := h.move fun k hk => hb.block k (h.lt hk)
theorem OwnQ.lower {B B' : Nat} {w : World} {v : Value} {zs : List Int} (h : OwnQ B w v zs) (hB : B' ≤ B) : OwnQ B' w v zs := by
  obtain ⟨h1, h2 | ⟨g, cap, cur, e, hg, rest⟩⟩ := h
  · exact ⟨h1, .inl h2⟩
  · exact ⟨h1, .inr ⟨g, cap, cur, e, by omega, rest⟩⟩
theorem OwnQ.form {B : Nat} {w : World} {v : Value} {zs : List Int} (h : OwnQ B w v zs) : ∃ a c, v = .slice a zs.length c := by
  obtain ⟨h1, ⟨h2, h3⟩ | ⟨g, cap, cur, e, hB, hg, rest⟩⟩ := h
  · exact ⟨_, _, by rw [h2, h3]⟩
  · exact ⟨_, _, e⟩
theorem OwnQ.own {B : Nat} {w : World} {v : Value} {zs : List Int} (h : OwnQ B w v zs) (hn : zs.length ≤ 16777216) : Own B w v zs := Own.of_row h hn
theorem OwnQ.none_ {B : Nat} {w : World} {g : Nat} (hB : B ≤ g) (h : IntsC w g 0 []) : OwnQ B w (.slice (some ⟨g, 0, none⟩) 0 0) [] := h.row hB
end Go.Proofs.YtcapddcmnjeloaaGreatDoor
end

section
/-
  Chapter 7, in the model: the elimination.
-/
namespace Go.Proofs.YtcapddcmnjeloaaGreatDoor
set_option maxRecDepth 100000
open Go.RowKit
def pvI (pv : List Nat) : List Int := pv.map fun (k : Nat) => (k : Int)
structure EcSt (w : World) (B b rb r c g N cap : Nat) (ys : List Int) (v : Value) (pv : List Nat) (wr : World) : Prop where
  blk : Blk3 wr b 26 (.int .i64 r) (.int .i64 c) (.slice (some ⟨g, 0, none⟩) N cap)
  ret : Blk3 wr rb 26 (.int .i64 0) (.int .i64 0) (.slice none 0 0)
  ints : Ints wr g ys
  own : OwnQ B wr v (pvI pv)
  bel : Below w.heap.size w wr
  le : B ≤ wr.heap.size
theorem EcSt.one {w : World} {B b rb r c g N cap : Nat} {ys ys' : List Int} {v : Value} {pv : List Nat} {wr w' : World} (h : EcSt w B b rb r c g N cap ys v pv wr) (hi : Ints w' g ys') (hg : wr.grownBy w' (some g)) (hb : b ≠ g) (hr : rb ≠ g) (hB : g < B) (hw : w.heap.size ≤ g) : EcSt w B b rb r c g N cap ys' v pv w' :=
  ⟨h.blk.keepOne hg hb, h.ret.keepOne hg hr, hi, h.own.one hg hB, h.bel.trans (below_of_one hg hw h.bel.size), Nat.le_trans h.le hg.size⟩
theorem EcSt.put {w : World} {B b rb r c g N cap : Nat} {ys : List Int} {v : Value} {pv : List Nat} {wr : World} (h : EcSt w B b rb r c g N cap ys v pv wr) (hb : b ≠ g) (hr : rb ≠ g) (hB : g < B) (hw : w.heap.size ≤ g) (P : Nat) (z : Int) : EcSt w B b rb r c g N cap (ys.set P z) v pv (wr.setCell ⟨g, P, none⟩ (.int .i64 z)) :=
  h.one (h.ints.set P z) (grown_set_one (World.grownBy.refl _ _) rfl _) hb hr hB hw
theorem EcSt.drewN {w : World} {B b rb r c g N cap : Nat} {ys : List Int} {v : Value} {pv : List Nat} {wr : World} (h : EcSt w B b rb r c g N cap ys v pv wr) (n : Nat) : EcSt w B b rb r c g N cap ys v pv (wr.drewN n) :=
  ⟨h.blk.drewN n, h.ret.drewN n, h.ints.drewN n, h.own.drewN n, below_drewN h.bel n, h.le⟩
theorem EcSt.drew {w : World} {B b rb r c g N cap : Nat} {ys : List Int} {v : Value} {pv : List Nat} {wr : World} (h : EcSt w B b rb r c g N cap ys v pv wr) : EcSt w B b rb r c g N cap ys v pv wr.drew := h.drewN 1
theorem OwnQ.far {B : Nat} {w : World} {v : Value} {zs : List Int} (h : OwnQ B w v zs) {a : Addr} (ha : a.block < B) (u : Value) : OwnQ B (w.setCell a u) v zs :=
  h.move fun k hk => Below.heap_setCell w a u k (by have := h.le hk; omega)
theorem pvI_length (pv : List Nat) : (pvI pv).length = pv.length := List.length_map ..
theorem EcSt.app {w : World} {B b rb r c g N cap : Nat} {ys : List Int} {v v' : Value} {pv pv' : List Nat} {wr w' : World} (h : EcSt w B b rb r c g N cap ys v pv wr) {o : Obj} (hg : (wr.alloc o).grownBy w' v.ownBlock) (ho : OwnQ B w' v' (pvI pv')) (hb : b < B) (hr : rb < B) (hgB : g < B) (hw : w.heap.size ≤ B) : EcSt w B b rb r c g N cap ys v' pv' w' := by
  have keep : ∀ k, k < B → k < wr.heap.size → w'.heap[k]? = wr.heap[k]? := fun k hk hl => (hg.block k (by simp; omega) (fun e => by have := h.own.le e.symm; omega)).trans (Below.heap_alloc wr o k hl)
  have hs := hg.size
  simp at hs
  have hl := h.le
  exact ⟨(keep b hb h.blk.lt).trans h.blk, (keep rb hr h.ret.lt).trans h.ret, h.ints.move (keep g hgB h.ints.lt), ho, h.bel.trans ⟨hg.os, hg.tape, hg.output, by omega, fun k hk => keep k (by omega) (by omega)⟩, by omega⟩
end Go.Proofs.YtcapddcmnjeloaaGreatDoor
end
