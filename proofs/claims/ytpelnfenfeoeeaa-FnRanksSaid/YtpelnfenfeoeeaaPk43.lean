/-
  Texts of this seat, joined: ZBSmF · ZBSmG · ZBSmH · ZBSmK · ZBSmT · ZBSmU · ZBSmV · ZBSmS2 · ZBSmS1 · ZBSmW · ZBSmS3 · ZBSmS4 · ZBSmJ · ZBSmX · ZBMatI7 · ZBMatI8 · ZBTsM
-/
import Derived.Deep.LoopGhost
import Derived.Deep.CutBlock
import Derived.Deep.DeepCutAuto
import Derived.Test.YtpelnfenfeoeeaaPk34
import Derived.Test.YtpelnfenfeoeeaaPk38
import Derived.Test.YtpelnfenfeoeeaaPk39
import Derived.Test.YtpelnfenfeoeeaaPk40
import Derived.Test.YtpelnfenfeoeeaaPk41
import Derived.Test.YtpelnfenfeoeeaaPk42

section
/-
  Plain mathematics of chapter 13: operations on columns, on lists, with marks; the two accounts; the state of the work towards a Smith form. Nothing of a program is used.
-/
namespace Go.Proofs.Ytpelnfenfeoeeaa
def colAt (k : Int) (I J : Nat) (z : Int) (C : Nat) (xs : List Int) (p : Nat) : Int :=
  if k = 0 then (if p % C = I then xs.getD (p / C * C + J) 0 else if p % C = J then xs.getD (p / C * C + I) 0 else xs.getD p 0)
  else (if p % C = I then addB (xs.getD p 0) (mulB (xs.getD (p / C * C + J) 0) z) else xs.getD p 0)
def colL (k : Int) (I J : Nat) (z : Int) (C : Nat) (xs : List Int) : List Int := (List.range xs.length).map (colAt k I J z C xs)
theorem colL_length (k : Int) (I J : Nat) (z : Int) (C : Nat) (xs : List Int) : (colL k I J z C xs).length = xs.length := by simp [colL]
theorem colL_getD {k : Int} {I J : Nat} {z : Int} {C : Nat} {xs : List Int} {p : Nat} (hp : p < xs.length) : (colL k I J z C xs).getD p 0 = colAt k I J z C xs p := by
  unfold colL
  simp only [List.getD, List.getElem?_map, List.getElem?_range hp, Option.map_some, Option.getD_some]
theorem MkOr.col {k : Int} {I J : Nat} {z : Int} {C : Nat} {xs : List Int} (h : MkOr xs) : MkOr (colL k I J z C xs) := fun p => by
  rcases Nat.lt_or_ge p xs.length with hp | hp
  · rw [colL_getD hp]
    unfold colAt
    split
    · split
      · exact h _
      · split
        · exact h _
        · exact h _
    · split
      · exact addB_or _ _
      · exact h _
  · rw [getD_out (by rw [colL_length]; exact hp)]
    exact .inr (by decide)
theorem nums_backC {k : Int} {I J : Nat} {z : Int} {R C : Nat} {xs : List Int} (h : MkOr xs) (hl : xs.length = R * C) (hI : I < C) (hJ : J < C) (hn : nums (colL k I J z C xs) = true) : nums xs = true := by
  have at_ : ∀ p, p < xs.length → NumP (colAt k I J z C xs p) := fun p hp => by
    have := nums_at hn (j := p) (by rw [colL_length]; exact hp)
    rwa [colL_getD hp] at this
  refine nums_true fun p hp => ?_
  have hC : 0 < C := by omega
  have hm : p % C < C := Nat.mod_lt p hC
  have ep : p / C * C + p % C = p := Nat.div_add_mod' p C
  have hr : p / C < R := Nat.div_lt_of_lt_mul (by rw [Nat.mul_comm, ← hl]; exact hp)
  have h1 := at_ p hp
  unfold colAt at h1
  by_cases k0 : k = 0
  · rw [if_pos k0] at h1
    by_cases e1 : p % C = I
    · have hq : p / C * C + J < xs.length := by rw [hl]; exact idx_lt hr hJ
      have h2 := at_ _ hq
      unfold colAt at h2
      rw [if_pos k0, idx_div hJ, idx_mod hJ] at h2
      by_cases e2 : J = I
      · rw [if_pos e2, e2, ← e1, ep] at h2; exact h2
      · rw [if_neg e2, if_pos rfl, ← e1, ep] at h2; exact h2
    · by_cases e2 : p % C = J
      · have hq : p / C * C + I < xs.length := by rw [hl]; exact idx_lt hr hI
        have h2 := at_ _ hq
        unfold colAt at h2
        rw [if_pos k0, idx_div hI, idx_mod hI, if_pos rfl, ← e2, ep] at h2
        exact h2
      · rw [if_neg e1, if_neg e2] at h1; exact h1
  · rw [if_neg k0] at h1
    split at h1
    · exact (h p).resolve_left (addB_keeps h1)
    · exact h1
theorem colL_mx {k : Int} {I J : Nat} {z : Int} {R C : Nat} {xs : List Int} (hk : k = 0 ∨ k = 2) (hl : xs.length = R * C) (hx : nums xs = true) (hz : NumP z) (hn : nums (colL k I J z C xs) = true) : ∀ i j, i < R → j < C → mxC C (colL k I J z C xs) i j = opX k I J z (trX (mxC C xs)) j i := fun i j hi hj => by
  have hp : i * C + j < xs.length := by rw [hl]; exact idx_lt hi hj
  have h1 := nums_at hn (j := i * C + j) (by rw [colL_length]; exact hp)
  show (colL k I J z C xs).getD (i * C + j) 0 = _
  rw [colL_getD hp] at h1 ⊢
  unfold colAt at h1 ⊢
  unfold opX
  rw [idx_div hj, idx_mod hj] at h1 ⊢
  rcases hk with rfl | rfl
  · rw [if_pos rfl, if_pos rfl]; rfl
  · have e0 : ¬ (2 : Int) = 0 := by decide
    have e1 : ¬ (2 : Int) = 1 := by decide
    rw [if_neg e0] at h1
    rw [if_neg e0, if_neg e0, if_neg e1]
    by_cases e : j = I
    · rw [if_pos e] at h1
      rw [if_pos e, if_pos e]
      have a := nums_def hx (i * C + j)
      have b := nums_def hx (i * C + J)
      rw [mulB_num b hz] at h1 ⊢
      by_cases hb : NumP (xs.getD (i * C + J) 0 * z)
      · rw [fitB_num hb] at h1 ⊢
        rw [addB_num a hb] at h1 ⊢
        by_cases hs : NumP (xs.getD (i * C + j) 0 + xs.getD (i * C + J) 0 * z)
        · rw [fitB_num hs]; rfl
        · rw [fitB_bad hs] at h1; exact absurd h1 bad_not
      · rw [fitB_bad hb, addB_bad] at h1; exact absurd h1 bad_not
    · rw [if_neg e, if_neg e]; rfl
abbrev SSt := List Int × List Int × List Int
def row3 (R C : Nat) (k : Int) (I J : Nat) (z : Int) (s : SSt) : SSt := (opL k I J z C s.1, opL k I J z R s.2.1, s.2.2)
def col3 (C : Nat) (k : Int) (I J : Nat) (z : Int) (s : SSt) : SSt := (colL k I J z C s.1, s.2.1, colL k I J z C s.2.2)
def ok3 (s : SSt) : Bool := nums s.1 && nums s.2.1 && nums s.2.2
def cel3S (C : Nat) (s : SSt) (i j : Nat) : Int := mxC C s.1 i j
structure Siz3 (R C : Nat) (s : SSt) : Prop where
  l1 : s.1.length = R * C
  l2 : s.2.1.length = R * R
  l3 : s.2.2.length = C * C
  m1 : MkOr s.1
  m2 : MkOr s.2.1
  m3 : MkOr s.2.2
theorem Siz3.row {R C : Nat} {s : SSt} (h : Siz3 R C s) (k : Int) (I J : Nat) (z : Int) : Siz3 R C (row3 R C k I J z s) :=
  ⟨by show (opL k I J z C s.1).length = _; rw [opL_length]; exact h.l1, by show (opL k I J z R s.2.1).length = _; rw [opL_length]; exact h.l2, h.l3, h.m1.op, h.m2.op, h.m3⟩
theorem Siz3.col {R C : Nat} {s : SSt} (h : Siz3 R C s) (k : Int) (I J : Nat) (z : Int) : Siz3 R C (col3 C k I J z s) :=
  ⟨by show (colL k I J z C s.1).length = _; rw [colL_length]; exact h.l1, h.l2, by show (colL k I J z C s.2.2).length = _; rw [colL_length]; exact h.l3, h.m1.col, h.m2, h.m3.col⟩
theorem ok3_and {s : SSt} (h : ok3 s = true) : nums s.1 = true ∧ nums s.2.1 = true ∧ nums s.2.2 = true := by
  unfold ok3 at h
  rw [Bool.and_eq_true, Bool.and_eq_true] at h
  exact ⟨h.1.1, h.1.2, h.2⟩
theorem ok3_of {s : SSt} (h1 : nums s.1 = true) (h2 : nums s.2.1 = true) (h3 : nums s.2.2 = true) : ok3 s = true := by unfold ok3; rw [h1, h2, h3]; rfl
theorem ok3_row {R C : Nat} {s : SSt} (h : Siz3 R C s) {k : Int} {I J : Nat} {z : Int} (hI : I < R) (hJ : J < R) (ho : ok3 (row3 R C k I J z s) = true) : ok3 s = true := by
  obtain ⟨a, b, c⟩ := ok3_and ho
  exact ok3_of (nums_back h.m1 h.l1 hI hJ a) (nums_back h.m2 h.l2 hI hJ b) c
theorem ok3_col {R C : Nat} {s : SSt} (h : Siz3 R C s) {k : Int} {I J : Nat} {z : Int} (hI : I < C) (hJ : J < C) (ho : ok3 (col3 C k I J z s) = true) : ok3 s = true := by
  obtain ⟨a, b, c⟩ := ok3_and ho
  exact ok3_of (nums_backC h.m1 h.l1 hI hJ a) b (nums_backC h.m3 h.l3 hI hJ c)
structure Acc3 (r c : Nat) (U V M A : Mx) : Prop where
  mul : ∀ i j, i < r → j < c → (sumN c fun b => mulX r U M i b * V b j) = A i j
  uu : det r U = 1 ∨ det r U = -1
  vv : det c V = 1 ∨ det c V = -1
theorem Acc3.start (r c : Nat) (M : Mx) : Acc3 r c idX idX M M := ⟨fun i j hi hj => by
  have h := (Acc.start r c M).mul
  rw [sumN_one (a := j) hj (fun b _ hne => by unfold idX; rw [if_neg hne, Int.mul_zero])]
  unfold idX
  rw [if_pos rfl, Int.mul_one]
  exact h i j hi hj, .inl (det_id r), .inl (det_id c)⟩
theorem Acc3.congr {r c : Nat} {U V U' V' M A B : Mx} (h : Acc3 r c U V M A) (hu : EqX r U U') (hv : EqX c V V') (ha : ∀ i j, i < r → j < c → A i j = B i j) : Acc3 r c U' V' M B := by
  refine ⟨fun i j hi hj => ?_, by rw [← det_congr hu]; exact h.uu, by rw [← det_congr hv]; exact h.vv⟩
  rw [← ha i j hi hj, ← h.mul i j hi hj]
  refine sumN_congr fun b hb => ?_
  rw [hv b j hb hj]
  refine congrArg (· * _) (sumN_congr fun x hx => ?_)
  rw [hu i x hi hx]
theorem Acc3.row {r c : Nat} {U V M A : Mx} (h : Acc3 r c U V M A) {k : Int} {I J : Nat} {z : Int} (hk : k = 0 ∨ k = 1 ∨ k = 2) (hI : I < r) (hJ : J < r) (hIJ : k ≠ 1 → I ≠ J) : Acc3 r c (opX k I J z U) V M (opX k I J z A) := by
  refine ⟨fun i j hi hj => ?_, ?_, h.vv⟩
  · -- (op U) M V: the operation passes through both products
    have e1 := opX_mul (k := k) (t := z) (c := c) (M := M) hI hJ (A := mulX r U M) fun i j _ _ => rfl
    have e2 : (sumN c fun b => mulX r (opX k I J z U) M i b * V b j) = sumN c fun b => opX k I J z (mulX r U M) i b * V b j := sumN_congr fun b hb => by rw [e1 i b hi hb]
    rw [e2]
    have m := h.mul
    unfold opX
    by_cases k0 : k = 0
    · simp only [if_pos k0]
      by_cases a1 : i = I
      · simp only [if_pos a1]; exact m J j hJ hj
      · simp only [if_neg a1]
        by_cases a2 : i = J
        · simp only [if_pos a2]; exact m I j hI hj
        · simp only [if_neg a2]; exact m i j hi hj
    · simp only [if_neg k0]
      by_cases k1 : k = 1
      · simp only [if_pos k1]
        by_cases a1 : i = I
        · simp only [if_pos a1]
          rw [← m i j hi hj, show (- sumN c fun b => mulX r U M i b * V b j) = (-1) * sumN c fun b => mulX r U M i b * V b j by omega, sumN_mul_left]
          exact sumN_congr fun b _ => by grind
        · simp only [if_neg a1]; exact m i j hi hj
      · simp only [if_neg k1]
        by_cases a1 : i = I
        · simp only [if_pos a1]
          rw [← m i j hi hj, ← m J j hJ hj, sumN_mul, ← sumN_add]
          exact sumN_congr fun b _ => by grind
        · simp only [if_neg a1]; exact m i j hi hj
  · rw [opX_det U hk hI hJ hIJ]
    have := h.uu
    unfold opSg
    split <;> omega
theorem Acc3.col {r c : Nat} {U V M A : Mx} (h : Acc3 r c U V M A) {k : Int} {I J : Nat} {z : Int} (hk : k = 0 ∨ k = 2) (hI : I < c) (hJ : J < c) (hIJ : I ≠ J) : Acc3 r c U (trX (opX k I J z (trX V))) M (trX (opX k I J z (trX A))) := by
  have hk' : k = 0 ∨ k = 1 ∨ k = 2 := by omega
  refine ⟨fun i j hi hj => ?_, h.uu, ?_⟩
  · have m : ∀ j i, j < c → i < r → mulX c (trX V) (trX (mulX r U M)) j i = trX A j i := fun j i hj hi => by
      show (sumN c fun b => V b j * mulX r U M i b) = A i j
      rw [← h.mul i j hi hj]
      exact sumN_congr fun b _ => Int.mul_comm _ _
    have e := opX_mul (k := k) (t := z) hI hJ m j i hj hi
    show (sumN c fun b => mulX r U M i b * opX k I J z (trX V) j b) = opX k I J z (trX A) j i
    rw [← e]
    exact sumN_congr fun b _ => Int.mul_comm _ _
  · rw [det_tr, opX_det (trX V) hk' hI hJ fun _ => hIJ, det_tr]
    have := h.vv
    unfold opSg
    split <;> omega
structure Fin3 (R C : Nat) (M : Mx) (s : SSt) : Prop where
  siz : Siz3 R C s
  ok : ok3 s = true
  acc : Acc3 R C (mxC R s.2.1) (mxC C s.2.2) M (mxC C s.1)
theorem Fin3.row {R C : Nat} {M : Mx} {s : SSt} (h : Fin3 R C M s) {k : Int} {I J : Nat} {z : Int} (hk : k = 0 ∨ k = 1 ∨ k = 2) (hI : I < R) (hJ : J < R) (hIJ : k ≠ 1 → I ≠ J) (hz : NumP z) (ho : ok3 (row3 R C k I J z s) = true) :
    Fin3 R C M (row3 R C k I J z s) ∧ ∀ i j, i < R → j < C → cel3S C (row3 R C k I J z s) i j = opX k I J z (mxC C s.1) i j := by
  obtain ⟨a, b, c⟩ := ok3_and ho
  obtain ⟨a0, b0, c0⟩ := ok3_and h.ok
  have e1 := opL_mx hk h.siz.l1 a0 hI hz a
  have e2 := opL_mx hk h.siz.l2 b0 hI hz b
  exact ⟨⟨h.siz.row k I J z, ho, (h.acc.row hk hI hJ hIJ).congr (fun i j hi hj => (e2 i j hi hj).symm) (EqX.refl _ _) fun i j hi hj => (e1 i j hi hj).symm⟩, e1⟩
theorem Fin3.col {R C : Nat} {M : Mx} {s : SSt} (h : Fin3 R C M s) {k : Int} {I J : Nat} {z : Int} (hk : k = 0 ∨ k = 2) (hI : I < C) (hJ : J < C) (hIJ : I ≠ J) (hz : NumP z) (ho : ok3 (col3 C k I J z s) = true) :
    Fin3 R C M (col3 C k I J z s) ∧ ∀ i j, i < R → j < C → cel3S C (col3 C k I J z s) i j = opX k I J z (trX (mxC C s.1)) j i := by
  obtain ⟨a, b, c⟩ := ok3_and ho
  obtain ⟨a0, b0, c0⟩ := ok3_and h.ok
  have e1 := colL_mx hk h.siz.l1 a0 hz a
  have e2 := colL_mx hk h.siz.l3 c0 hz c
  exact ⟨⟨h.siz.col k I J z, ho, (h.acc.col hk hI hJ hIJ).congr (EqX.refl _ _) (fun i j hi hj => (e2 i j hi hj).symm) fun i j hi hj => (e1 i j hi hj).symm⟩, e1⟩
theorem Fin3.num {R C : Nat} {M : Mx} {s : SSt} (h : Fin3 R C M s) (i j : Nat) : NumP (cel3S C s i j) := nums_def (ok3_and h.ok).1 _
end Go.Proofs.Ytpelnfenfeoeeaa
end

section
/-
  Plain mathematics of chapter 13: the rounds towards a Smith form. Nothing of a program is used.
-/
namespace Go.Proofs.Ytpelnfenfeoeeaa
structure SmI (r c : Nat) (A : Mx) (t : Nat) : Prop where
  le1 : t ≤ r
  le2 : t ≤ c
  pos : ∀ i, i < t → 0 < A i i
  row : ∀ i j, i < t → j < c → j ≠ i → A i j = 0
  col : ∀ i j, j < t → i < r → i ≠ j → A i j = 0
  dvd : ∀ k i j, k < t → k ≤ i → i < r → k ≤ j → j < c → A k k ∣ A i j
section
variable {r c t : Nat} {A B : Mx}
theorem SmI.start (r c : Nat) (A : Mx) : SmI r c A 0 := ⟨Nat.zero_le _, Nat.zero_le _, fun i hi => by omega, fun i j hi => by omega, fun i j hj => by omega, fun k i j hk => by omega⟩
theorem SmI.move (h : SmI r c A t) (e : ∀ i j, i < t ∨ j < t → i < r → j < c → B i j = A i j) (d : ∀ k i j, k < t → t ≤ i → i < r → t ≤ j → j < c → A k k ∣ B i j) : SmI r c B t := by
  have l1 := h.le1
  have l2 := h.le2
  refine ⟨h.le1, h.le2, fun i hi => ?_, fun i j hi hj hne => ?_, fun i j hj hi hne => ?_, fun k i j hk h1 h2 h3 h4 => ?_⟩
  · rw [e i i (.inl hi) (by omega) (by omega)]; exact h.pos i hi
  · rw [e i j (.inl hi) (by omega) hj]; exact h.row i j hi hj hne
  · rw [e i j (.inr hj) hi (by omega)]; exact h.col i j hj hi hne
  · rw [e k k (.inl hk) (by omega) (by omega)]
    by_cases h5 : i < t ∨ j < t
    · rw [e i j h5 h2 h4]; exact h.dvd k i j hk h1 h2 h3 h4
    · exact d k i j hk (by omega) h2 (by omega) h4
theorem SmI.congr (h : SmI r c A t) (e : ∀ i j, i < r → j < c → B i j = A i j) : SmI r c B t :=
  h.move (fun i j _ hi hj => e i j hi hj) fun k i j hk h1 h2 h3 h4 => by rw [e i j h2 h4]; exact h.dvd k i j hk (by omega) h2 (by omega) h4
theorem SmI.tr (h : SmI r c A t) : SmI c r (trX A) t := ⟨h.le2, h.le1, h.pos, fun i j hi hj hne => h.col j i hi hj hne, fun i j hj hi hne => h.row j i hj hi hne, fun k i j hk h1 h2 h3 h4 => h.dvd k j i hk h3 h4 h1 h2⟩
theorem SmI.op (h : SmI r c A t) {k : Int} {I J : Nat} {z : Int} (hI : t ≤ I) (hIr : I < r) (hJ : t ≤ J) (hJr : J < r) : SmI r c (opX k I J z A) t := by
  refine h.move (fun i j hij hi hj => ?_) fun a i j ha h1 h2 h3 h4 => ?_
  · unfold opX
    rcases Nat.lt_or_ge i t with h5 | h5
    · rw [if_neg (by omega : ¬ i = I), if_neg (by omega : ¬ i = J), if_neg (by omega : ¬ i = I), if_neg (by omega : ¬ i = I)]
      split
      · rfl
      · split <;> rfl
    · have hj' : j < t := by omega
      have zI := h.col I j hj' hIr (by omega)
      have zJ := h.col J j hj' hJr (by omega)
      split
      · split
        · rename_i e; rw [zJ, e, zI]
        · split
          · rename_i e; rw [zI, e, zJ]
          · rfl
      · split
        · split
          · rename_i e; rw [e, zI]; rfl
          · rfl
        · split
          · rw [zJ, Int.zero_mul, Int.add_zero]
          · rfl
  · have d1 := h.dvd a i j ha (by omega) h2 (by omega) h4
    have dI := h.dvd a I j ha (by omega) hIr (by omega) h4
    have dJ := h.dvd a J j ha (by omega) hJr (by omega) h4
    unfold opX
    split
    · split
      · exact dJ
      · split
        · exact dI
        · exact d1
    · split
      · split
        · exact Int.dvd_neg.mpr d1
        · exact d1
      · split
        · exact Int.dvd_add d1 (Int.dvd_trans dJ (Int.dvd_mul_right _ _))
        · exact d1
theorem SmI.opC (h : SmI r c A t) {k : Int} {I J : Nat} {z : Int} (hI : t ≤ I) (hIr : I < c) (hJ : t ≤ J) (hJr : J < c) : SmI r c (trX (opX k I J z (trX A))) t := (h.tr.op hI hIr hJ hJr).tr
theorem SmI.put (h : SmI r c A t) (hr : t < r) (hc : t < c) (hp : 0 < A t t) (hrow : ∀ j, t < j → j < c → A t j = 0) (hcol : ∀ i, t < i → i < r → A i t = 0) (hd : ∀ i j, t < i → i < r → t < j → j < c → A t t ∣ A i j) : SmI r c A (t + 1) := by
  have sp : ∀ i, i < t + 1 → i < t ∨ i = t := fun i hi => by omega
  refine ⟨hr, hc, fun i hi => ?_, fun i j hi hj hne => ?_, fun i j hj hi hne => ?_, fun k i j hk h1 h2 h3 h4 => ?_⟩
  · rcases sp i hi with h5 | rfl
    · exact h.pos i h5
    · exact hp
  · rcases sp i hi with h5 | rfl
    · exact h.row i j h5 hj hne
    · rcases Nat.lt_or_ge j i with h6 | h6
      · exact h.col i j h6 hr (by omega)
      · exact hrow j (by omega) hj
  · rcases sp j hj with h5 | rfl
    · exact h.col i j h5 hi hne
    · rcases Nat.lt_or_ge i j with h6 | h6
      · exact h.row i j h6 hc (by omega)
      · exact hcol i (by omega) hi
  · rcases sp k hk with h5 | rfl
    · exact h.dvd k i j h5 h1 h2 h3 h4
    · by_cases h6 : i = k
      · by_cases h7 : j = k
        · rw [h6, h7]; exact Int.dvd_refl _
        · rw [h6, hrow j (by omega) h4]; exact ⟨0, by rw [Int.mul_zero]⟩
      · by_cases h7 : j = k
        · rw [h7, hcol i (by omega) h2]; exact ⟨0, by rw [Int.mul_zero]⟩
        · exact hd i j (by omega) h2 (by omega) h4
theorem SmI.done (h : SmI r c A t) (hz : ∀ i j, t ≤ i → i < r → t ≤ j → j < c → A i j = 0) : SmP r c A (fun i => if i < t then A i i else 0) := by
  have l1 := h.le1
  have l2 := h.le2
  refine ⟨fun i j hi hj => ?_, fun i hi => ?_, fun i => ?_, fun i j hij => ?_⟩
  · by_cases e : i = j
    · rw [if_pos e]
      subst e
      show A i i = if i < t then A i i else 0
      split
      · rfl
      · exact hz i i (by omega) hi (by omega) hj
    · rw [if_neg e]
      rcases Nat.lt_or_ge i t with h1 | h1
      · exact h.row i j h1 hj (Ne.symm e)
      · rcases Nat.lt_or_ge j t with h2 | h2
        · exact h.col i j h2 hi e
        · exact hz i j h1 hi h2 hj
  · show (if i < t then A i i else 0) = 0
    rw [if_neg (by omega)]
  · show 0 ≤ if i < t then A i i else 0
    split
    · rename_i h1; have := h.pos i h1; omega
    · exact Int.le_refl _
  · show (if i < t then A i i else 0) ∣ if j < t then A j j else 0
    by_cases h1 : j < t
    · rw [if_pos h1, if_pos (by omega)]
      exact h.dvd i j j (by omega) hij (by omega) hij (by omega)
    · rw [if_neg h1]; exact ⟨0, by rw [Int.mul_zero]⟩
end
def rowsF (R C t : Nat) (p : Int) (s : SSt) : Nat → SSt
  | 0 => s
  | n + 1 => if cel3S C (rowsF R C t p s n) (t + 1 + n) t ≠ 0 then row3 R C 2 (t + 1 + n) t (-(cel3S C (rowsF R C t p s n) (t + 1 + n) t / p)) (rowsF R C t p s n) else rowsF R C t p s n
def colsF (C t : Nat) (p : Int) (s : SSt) : Nat → SSt
  | 0 => s
  | n + 1 => if cel3S C (colsF C t p s n) t (t + 1 + n) ≠ 0 then col3 C 2 (t + 1 + n) t (-(cel3S C (colsF C t p s n) t (t + 1 + n) / p)) (colsF C t p s n) else colsF C t p s n
section
variable {R C t : Nat} {M : Mx} {s : SSt} {p : Int}
theorem rowsF_siz (h : Siz3 R C s) : ∀ n, Siz3 R C (rowsF R C t p s n)
  | 0 => h
  | n + 1 => by
    show Siz3 R C (if _ then _ else _)
    split
    · exact (rowsF_siz h n).row _ _ _ _
    · exact rowsF_siz h n
theorem colsF_siz (h : Siz3 R C s) : ∀ n, Siz3 R C (colsF C t p s n)
  | 0 => h
  | n + 1 => by
    show Siz3 R C (if _ then _ else _)
    split
    · exact (colsF_siz h n).col _ _ _ _
    · exact colsF_siz h n
theorem rowsF_back (h : Siz3 R C s) (ht : t < R) {n : Nat} (hn : t + 1 + n < R) (ho : ok3 (rowsF R C t p s (n + 1)) = true) : ok3 (rowsF R C t p s n) = true := by
  change ok3 (if _ then _ else _) = true at ho
  split at ho
  · exact ok3_row (rowsF_siz h n) hn ht ho
  · exact ho
theorem colsF_back (h : Siz3 R C s) (ht : t < C) {n : Nat} (hn : t + 1 + n < C) (ho : ok3 (colsF C t p s (n + 1)) = true) : ok3 (colsF C t p s n) = true := by
  change ok3 (if _ then _ else _) = true at ho
  split at ho
  · exact ok3_col (colsF_siz h n) hn ht ho
  · exact ho
theorem colsF_back0 (h : Siz3 R C s) (ht : t < C) : ∀ n, t + 1 + n ≤ C → ok3 (colsF C t p s n) = true → ok3 s = true
  | 0, _, ho => ho
  | n + 1, hn, ho => colsF_back0 h ht n (by omega) (colsF_back h ht (by omega) ho)
theorem rowsF_back0 (h : Siz3 R C s) (ht : t < R) : ∀ n, t + 1 + n ≤ R → ok3 (rowsF R C t p s n) = true → ok3 s = true
  | 0, _, ho => ho
  | n + 1, hn, ho => rowsF_back0 h ht n (by omega) (rowsF_back h ht (by omega) ho)
theorem rowsF_says (hF : Fin3 R C M s) (hI : SmI R C (mxC C s.1) t) (hr : t < R) (hc : t < C) (hp : cel3S C s t t = p) (hp0 : p ≠ 0) : ∀ n, t + 1 + n ≤ R → ok3 (rowsF R C t p s n) = true →
    Fin3 R C M (rowsF R C t p s n) ∧ SmI R C (mxC C (rowsF R C t p s n).1) t ∧ (∀ i j, i < R → j < C → (i ≤ t ∨ t + 1 + n ≤ i) → cel3S C (rowsF R C t p s n) i j = cel3S C s i j) ∧ (∀ i, t < i → i < t + 1 + n → 0 ≤ cel3S C (rowsF R C t p s n) i t ∧ cel3S C (rowsF R C t p s n) i t < (p.natAbs : Int))
  | 0, _, _ => ⟨hF, hI, fun _ _ _ _ _ => rfl, fun i h1 h2 => by omega⟩
  | n + 1, hn, ho => by
    obtain ⟨g1, g2, g3, g4⟩ := rowsF_says hF hI hr hc hp hp0 n (by omega) (rowsF_back hF.siz hr (by omega) ho)
    have ept : cel3S C (rowsF R C t p s n) t t = p := by rw [g3 t t hr hc (.inl (Nat.le_refl _))]; exact hp
    by_cases hc0 : cel3S C (rowsF R C t p s n) (t + 1 + n) t ≠ 0
    · have es : rowsF R C t p s (n + 1) = row3 R C 2 (t + 1 + n) t (-(cel3S C (rowsF R C t p s n) (t + 1 + n) t / p)) (rowsF R C t p s n) := if_pos hc0
      rw [es] at ho ⊢
      obtain ⟨k1, k2⟩ := g1.row (.inr (.inr rfl)) (by omega) hr (fun _ => by omega) (quot_num (g1.num _ _) hp0) ho
      have ql := quot_left (x := cel3S C (rowsF R C t p s n) (t + 1 + n) t) hp0
      have ce : ∀ i b, i < R → b < C → i ≠ t + 1 + n → cel3S C (row3 R C 2 (t + 1 + n) t (-(cel3S C (rowsF R C t p s n) (t + 1 + n) t / p)) (rowsF R C t p s n)) i b = cel3S C (rowsF R C t p s n) i b := fun i b hi hb hne => by
        rw [k2 i b hi hb]
        unfold opX
        rw [if_neg (by decide), if_neg (by decide), if_neg hne]; rfl
      have cn : cel3S C (row3 R C 2 (t + 1 + n) t (-(cel3S C (rowsF R C t p s n) (t + 1 + n) t / p)) (rowsF R C t p s n)) (t + 1 + n) t = cel3S C (rowsF R C t p s n) (t + 1 + n) t % p := by
        rw [k2 (t + 1 + n) t (by omega) hc, ← ql.1]
        unfold opX
        rw [if_neg (by decide), if_neg (by decide), if_pos rfl]
        change cel3S C (rowsF R C t p s n) (t + 1 + n) t + cel3S C (rowsF R C t p s n) t t * _ = _
        rw [ept]
      refine ⟨k1, (g2.op (by omega) (by omega) (Nat.le_refl _) hr).congr fun i b hi hb => k2 i b hi hb, fun i j hi hj h1 => by rw [ce i j hi hj (by omega)]; exact g3 i j hi hj (by omega), fun i h1 h2 => ?_⟩
      rcases Nat.lt_or_ge i (t + 1 + n) with h4 | h4
      · rw [ce i t (by omega) hc (by omega)]; exact g4 i h1 h4
      · obtain rfl : i = t + 1 + n := by omega
        rw [cn]; exact ql.2
    · have es : rowsF R C t p s (n + 1) = rowsF R C t p s n := if_neg hc0
      rw [es]
      refine ⟨g1, g2, fun i j hi hj h1 => g3 i j hi hj (by omega), fun i h1 h2 => ?_⟩
      rcases Nat.lt_or_ge i (t + 1 + n) with h4 | h4
      · exact g4 i h1 h4
      · obtain rfl : i = t + 1 + n := by omega
        have h0 : cel3S C (rowsF R C t p s n) (t + 1 + n) t = 0 := Classical.byContradiction fun h => hc0 h
        rw [h0]; omega
theorem colsF_says (hF : Fin3 R C M s) (hI : SmI R C (mxC C s.1) t) (hr : t < R) (hc : t < C) (hp : cel3S C s t t = p) (hp0 : p ≠ 0) : ∀ n, t + 1 + n ≤ C → ok3 (colsF C t p s n) = true →
    Fin3 R C M (colsF C t p s n) ∧ SmI R C (mxC C (colsF C t p s n).1) t ∧ (∀ i j, i < R → j < C → (j ≤ t ∨ t + 1 + n ≤ j) → cel3S C (colsF C t p s n) i j = cel3S C s i j) ∧ (∀ j, t < j → j < t + 1 + n → cel3S C (colsF C t p s n) t j = cel3S C s t j % p)
  | 0, _, _ => ⟨hF, hI, fun _ _ _ _ _ => rfl, fun i h1 h2 => by omega⟩
  | n + 1, hn, ho => by
    obtain ⟨g1, g2, g3, g4⟩ := colsF_says hF hI hr hc hp hp0 n (by omega) (colsF_back hF.siz hc (by omega) ho)
    have ept : cel3S C (colsF C t p s n) t t = p := by rw [g3 t t hr hc (.inl (Nat.le_refl _))]; exact hp
    have eold : cel3S C (colsF C t p s n) t (t + 1 + n) = cel3S C s t (t + 1 + n) := g3 t (t + 1 + n) hr (by omega) (.inr (Nat.le_refl _))
    by_cases hc0 : cel3S C (colsF C t p s n) t (t + 1 + n) ≠ 0
    · have es : colsF C t p s (n + 1) = col3 C 2 (t + 1 + n) t (-(cel3S C (colsF C t p s n) t (t + 1 + n) / p)) (colsF C t p s n) := if_pos hc0
      rw [es] at ho ⊢
      obtain ⟨k1, k2⟩ := g1.col (.inr rfl) (by omega) hc (by omega) (quot_num (g1.num _ _) hp0) ho
      have ql := quot_left (x := cel3S C (colsF C t p s n) t (t + 1 + n)) hp0
      have ce : ∀ i b, i < R → b < C → b ≠ t + 1 + n → cel3S C (col3 C 2 (t + 1 + n) t (-(cel3S C (colsF C t p s n) t (t + 1 + n) / p)) (colsF C t p s n)) i b = cel3S C (colsF C t p s n) i b := fun i b hi hb hne => by
        rw [k2 i b hi hb]
        unfold opX
        rw [if_neg (by decide), if_neg (by decide), if_neg hne]; rfl
      have cn : cel3S C (col3 C 2 (t + 1 + n) t (-(cel3S C (colsF C t p s n) t (t + 1 + n) / p)) (colsF C t p s n)) t (t + 1 + n) = cel3S C (colsF C t p s n) t (t + 1 + n) % p := by
        rw [k2 t (t + 1 + n) hr (by omega), ← ql.1]
        unfold opX
        rw [if_neg (by decide), if_neg (by decide), if_pos rfl]
        change cel3S C (colsF C t p s n) t (t + 1 + n) + cel3S C (colsF C t p s n) t t * _ = _
        rw [ept]
      refine ⟨k1, (g2.opC (by omega) (by omega) (Nat.le_refl _) hc).congr fun i b hi hb => k2 i b hi hb, fun i j hi hj h1 => by rw [ce i j hi hj (by omega)]; exact g3 i j hi hj (by omega), fun j h1 h2 => ?_⟩
      rcases Nat.lt_or_ge j (t + 1 + n) with h4 | h4
      · rw [ce t j hr (by omega) (by omega)]; exact g4 j h1 h4
      · obtain rfl : j = t + 1 + n := by omega
        rw [cn, eold]
    · have es : colsF C t p s (n + 1) = colsF C t p s n := if_neg hc0
      rw [es]
      refine ⟨g1, g2, fun i j hi hj h1 => g3 i j hi hj (by omega), fun j h1 h2 => ?_⟩
      rcases Nat.lt_or_ge j (t + 1 + n) with h4 | h4
      · exact g4 j h1 h4
      · obtain rfl : j = t + 1 + n := by omega
        have h0 : cel3S C (colsF C t p s n) t (t + 1 + n) = 0 := Classical.byContradiction fun h => hc0 h
        rw [h0]
        rw [eold] at h0
        rw [h0, Int.zero_emod]
def rdF (R C t : Nat) (s : SSt) : SSt := colsF C t (cel3S C s t t) (rowsF R C t (cel3S C s t t) s (R - t - 1)) (C - t - 1)
theorem rdF_says (hF : Fin3 R C M s) (hI : SmI R C (mxC C s.1) t) (hr : t < R) (hc : t < C) (hp0 : cel3S C s t t ≠ 0) (ho : ok3 (rdF R C t s) = true) :
    Fin3 R C M (rdF R C t s) ∧ SmI R C (mxC C (rdF R C t s).1) t ∧ cel3S C (rdF R C t s) t t = cel3S C s t t ∧ (∀ i, t < i → i < R → 0 ≤ cel3S C (rdF R C t s) i t ∧ cel3S C (rdF R C t s) i t < ((cel3S C s t t).natAbs : Int)) ∧ ∀ j, t < j → j < C → cel3S C (rdF R C t s) t j = cel3S C s t j % cel3S C s t t := by
  unfold rdF at ho ⊢
  obtain ⟨p, hp⟩ : ∃ p, cel3S C s t t = p := ⟨_, rfl⟩
  rw [hp] at ho hp0 ⊢
  have o1 := colsF_back0 (rowsF_siz hF.siz (R - t - 1)) hc (C - t - 1) (by omega) ho
  obtain ⟨f1, i1, a1, a2⟩ := rowsF_says hF hI hr hc hp hp0 (R - t - 1) (by omega) o1
  obtain ⟨f2, i2, b1, b2⟩ := colsF_says f1 i1 hr hc (by rw [a1 t t hr hc (.inl (Nat.le_refl _))]; exact hp) hp0 (C - t - 1) (by omega) ho
  refine ⟨f2, i2, ?_, fun i h1 h2 => ?_, fun j h1 h2 => ?_⟩
  · rw [b1 t t hr hc (.inl (Nat.le_refl _)), a1 t t hr hc (.inl (Nat.le_refl _))]; exact hp
  · rw [b1 i t h2 hc (.inl (Nat.le_refl _))]; exact a2 i h1 (by omega)
  · rw [b2 j h1 (by omega), a1 t j hr h2 (.inl (Nat.le_refl _))]
end
end Go.Proofs.Ytpelnfenfeoeeaa
end

section
/-
  Plain mathematics of chapter 13: the whole of the work towards a Smith form, and what it ends in. Nothing of a program is used.
-/
namespace Go.Proofs.Ytpelnfenfeoeeaa
theorem leastF_first (f : Nat → Int) (t : Nat) : ∀ (n p : Nat), leastF f t n = (p : Int) → ∀ i, t ≤ i → i < p → f i ≠ 0 → (f p).natAbs < (f i).natAbs
  | 0, p, h, _, _, _, _ => by
    have h : (-1 : Int) = (p : Int) := h
    omega
  | n + 1, p, h, i, h1, h2, h3 => by
    have step : leastF f t (n + 1) = if f (t + n) ≠ 0 ∧ (leastF f t n < 0 ∨ (f (t + n)).natAbs < (f (leastF f t n).toNat).natAbs) then ((t + n : Nat) : Int) else leastF f t n := rfl
    rw [step] at h
    by_cases hc : f (t + n) ≠ 0 ∧ (leastF f t n < 0 ∨ (f (t + n)).natAbs < (f (leastF f t n).toNat).natAbs)
    · rw [if_pos hc] at h
      obtain rfl : p = t + n := by omega
      rcases leastF_says f t n with ⟨a1, a2⟩ | ⟨b, a1, a2, a3, a4, a5⟩
      · exact absurd (a2 i h1 h2) h3
      · have a6 := a5 i h1 h2 h3
        have e : (leastF f t n).toNat = b := by omega
        rw [e] at hc
        rcases hc.2 with h5 | h5
        · omega
        · omega
    · rw [if_neg hc] at h
      exact leastF_first f t n p h i h1 h2 h3
def plF (C t : Nat) (s : SSt) (m : Nat) : Int := cel3S C s (t + m / (C - t)) (t + m % (C - t))
def plS (R C t : Nat) (s : SSt) : Option (Nat × Nat) :=
  if leastF (plF C t s) 0 ((R - t) * (C - t)) < 0 then none
  else some (t + (leastF (plF C t s) 0 ((R - t) * (C - t))).toNat / (C - t), t + (leastF (plF C t s) 0 ((R - t) * (C - t))).toNat % (C - t))
structure PlaceP (R C t : Nat) (s : SSt) (i j : Nat) : Prop where
  eq : plS R C t s = some (i, j)
  i0 : t ≤ i
  i1 : i < R
  j0 : t ≤ j
  j1 : j < C
  nz : cel3S C s i j ≠ 0
  least : ∀ a b, t ≤ a → a < R → t ≤ b → b < C → cel3S C s a b ≠ 0 → (cel3S C s i j).natAbs ≤ (cel3S C s a b).natAbs
  first : cel3S C s t t ≠ 0 → (cel3S C s t t).natAbs ≤ (cel3S C s i j).natAbs → i = t ∧ j = t
theorem plS_says (R C t : Nat) (s : SSt) (hr : t < R) (hc : t < C) : (plS R C t s = none ∧ ∀ a b, t ≤ a → a < R → t ≤ b → b < C → cel3S C s a b = 0) ∨ ∃ i j, PlaceP R C t s i j := by
  have hw : 0 < C - t := by omega
  have at_ : ∀ a b, t ≤ a → a < R → t ≤ b → b < C → (a - t) * (C - t) + (b - t) < (R - t) * (C - t) ∧ plF C t s ((a - t) * (C - t) + (b - t)) = cel3S C s a b := fun a b h1 h2 h3 h4 => by
    have hb : b - t < C - t := by omega
    refine ⟨idx_lt (by omega) hb, ?_⟩
    unfold plF
    rw [idx_div hb, idx_mod hb, show t + (a - t) = a by omega, show t + (b - t) = b by omega]
  rcases leastF_says (plF C t s) 0 ((R - t) * (C - t)) with ⟨h1, h2⟩ | ⟨m, h1, -, h3, h4, h5⟩
  · refine .inl ⟨by unfold plS; rw [if_pos (by omega)], fun a b a1 a2 a3 a4 => ?_⟩
    obtain ⟨e1, e2⟩ := at_ a b a1 a2 a3 a4
    rw [← e2]; exact h2 _ (Nat.zero_le _) (by omega)
  · have em : (leastF (plF C t s) 0 ((R - t) * (C - t))).toNat = m := by omega
    have hi : m / (C - t) < R - t := Nat.div_lt_of_lt_mul (by rw [Nat.mul_comm]; omega)
    have hj : m % (C - t) < C - t := Nat.mod_lt _ hw
    refine .inr ⟨t + m / (C - t), t + m % (C - t), by unfold plS; rw [if_neg (by omega), em], Nat.le_add_right _ _, by omega, Nat.le_add_right _ _, by omega, h4, fun a b a1 a2 a3 a4 hne => ?_, fun hne hle => ?_⟩
    · obtain ⟨e1, e2⟩ := at_ a b a1 a2 a3 a4
      rw [← e2] at hne ⊢
      exact h5 _ (Nat.zero_le _) (by omega) hne
    · obtain ⟨e1, e2⟩ := at_ t t (Nat.le_refl _) hr (Nat.le_refl _) hc
      have e0 : (t - t) * (C - t) + (t - t) = 0 := by rw [Nat.sub_self, Nat.zero_mul]
      rw [e0] at e2
      have hm : m = 0 := by
        refine Classical.byContradiction fun hm => ?_
        have := leastF_first (plF C t s) 0 _ m h1 0 (Nat.le_refl _) (by omega) (by rw [e2]; exact hne)
        rw [e2] at this
        have hle : (cel3S C s t t).natAbs ≤ (plF C t s m).natAbs := hle
        omega
      rw [hm, Nat.zero_div, Nat.zero_mod]
      exact ⟨rfl, rfl⟩
def sw3 (R C t i j : Nat) (s : SSt) : SSt := if j ≠ t then col3 C 0 j t 0 (if i ≠ t then row3 R C 0 i t 0 s else s) else (if i ≠ t then row3 R C 0 i t 0 s else s)
def clB (R C t : Nat) (u : SSt) : Bool := ((List.range R).all fun i => decide (i ≤ t ∨ cel3S C u i t = 0)) && (List.range C).all fun j => decide (j ≤ t ∨ cel3S C u t j = 0)
theorem clB_true {R C t : Nat} {u : SSt} (h : clB R C t u = true) : (∀ i, t < i → i < R → cel3S C u i t = 0) ∧ ∀ j, t < j → j < C → cel3S C u t j = 0 := by
  unfold clB at h
  rw [Bool.and_eq_true, List.all_eq_true, List.all_eq_true] at h
  refine ⟨fun i h1 h2 => ?_, fun j h1 h2 => ?_⟩
  · have := h.1 i (List.mem_range.mpr h2)
    rw [decide_eq_true_eq] at this
    exact this.resolve_left (by omega)
  · have := h.2 j (List.mem_range.mpr h2)
    rw [decide_eq_true_eq] at this
    exact this.resolve_left (by omega)
theorem clB_false {R C t : Nat} {u : SSt} (h : clB R C t u = false) : (∃ i, t < i ∧ i < R ∧ cel3S C u i t ≠ 0) ∨ ∃ j, t < j ∧ j < C ∧ cel3S C u t j ≠ 0 := by
  refine Classical.byContradiction fun hn => ?_
  rw [not_or] at hn
  have : clB R C t u = true := by
    unfold clB
    rw [Bool.and_eq_true, List.all_eq_true, List.all_eq_true]
    refine ⟨fun i hi => ?_, fun j hj => ?_⟩
    · rw [decide_eq_true_eq]
      rcases Nat.lt_or_ge t i with h1 | h1
      · exact .inr (Classical.byContradiction fun h2 => hn.1 ⟨i, h1, List.mem_range.mp hi, h2⟩)
      · exact .inl h1
    · rw [decide_eq_true_eq]
      rcases Nat.lt_or_ge t j with h1 | h1
      · exact .inr (Classical.byContradiction fun h2 => hn.2 ⟨j, h1, List.mem_range.mp hj, h2⟩)
      · exact .inl h1
  rw [this] at h; cases h
def ndF (R C t : Nat) (u : SSt) : Option Nat := (List.range R).find? fun i => decide (t < i) && (List.range C).any fun j => decide (t < j) && decide (cel3S C u i j % cel3S C u t t ≠ 0)
theorem ndF_none {R C t : Nat} {u : SSt} (h : ndF R C t u = none) : ∀ i j, t < i → i < R → t < j → j < C → cel3S C u t t ∣ cel3S C u i j := fun i j h1 h2 h3 h4 => by
  unfold ndF at h
  rw [List.find?_eq_none] at h
  have := h i (List.mem_range.mpr h2)
  refine Int.dvd_of_emod_eq_zero (Classical.byContradiction fun hz => this ?_)
  rw [Bool.and_eq_true, decide_eq_true_eq, List.any_eq_true]
  exact ⟨h1, j, List.mem_range.mpr h4, by rw [Bool.and_eq_true, decide_eq_true_eq, decide_eq_true_eq]; exact ⟨h3, hz⟩⟩
theorem ndF_some {R C t k : Nat} {u : SSt} (h : ndF R C t u = some k) : t < k ∧ k < R ∧ ∃ j, t < j ∧ j < C ∧ cel3S C u k j % cel3S C u t t ≠ 0 := by
  unfold ndF at h
  have h1 := List.find?_some h
  have h2 := List.mem_of_find?_eq_some h
  rw [Bool.and_eq_true, decide_eq_true_eq, List.any_eq_true] at h1
  obtain ⟨h3, j, h4, h5⟩ := h1
  rw [Bool.and_eq_true, decide_eq_true_eq, decide_eq_true_eq] at h5
  exact ⟨h3, List.mem_range.mp h2, j, h5.1, List.mem_range.mp h4, h5.2⟩
def loopS (R C t : Nat) : Nat → SSt → Option (SSt × Bool)
  | 0, _ => none
  | f + 1, s => match plS R C t s with
    | none => some (s, false)
    | some (i, j) => if ok3 (rdF R C t (sw3 R C t i j s)) = true then
        (if clB R C t (rdF R C t (sw3 R C t i j s)) = true then
          (match ndF R C t (rdF R C t (sw3 R C t i j s)) with
            | none => some (rdF R C t (sw3 R C t i j s), true)
            | some k => if ok3 (row3 R C 2 t k 1 (rdF R C t (sw3 R C t i j s))) = true then loopS R C t f (row3 R C 2 t k 1 (rdF R C t (sw3 R C t i j s))) else none)
        else loopS R C t f (rdF R C t (sw3 R C t i j s)))
      else none
section
variable {R C t : Nat} {M : Mx} {s : SSt}
theorem sw3_siz {i j : Nat} (h : Siz3 R C s) : Siz3 R C (sw3 R C t i j s) := by
  unfold sw3
  split
  · refine Siz3.col ?_ _ _ _ _
    split
    · exact h.row _ _ _ _
    · exact h
  · split
    · exact h.row _ _ _ _
    · exact h
theorem sw3_says {i j : Nat} (hF : Fin3 R C M s) (hI : SmI R C (mxC C s.1) t) (hr : t < R) (hc : t < C) (hi : t ≤ i) (hiR : i < R) (hj : t ≤ j) (hjC : j < C) (ho : ok3 (sw3 R C t i j s) = true) :
    Fin3 R C M (sw3 R C t i j s) ∧ SmI R C (mxC C (sw3 R C t i j s).1) t ∧ cel3S C (sw3 R C t i j s) t t = cel3S C s i j := by
  obtain ⟨s1, hs1⟩ : ∃ s1, (if i ≠ t then row3 R C 0 i t 0 s else s) = s1 := ⟨_, rfl⟩
  have e1 : sw3 R C t i j s = if j ≠ t then col3 C 0 j t 0 s1 else s1 := by unfold sw3; rw [hs1]
  have z1 : Siz3 R C s1 := by
    rw [← hs1]; split
    · exact hF.siz.row _ _ _ _
    · exact hF.siz
  have o1 : ok3 s1 = true := by
    rw [e1] at ho
    split at ho
    · exact ok3_col z1 hjC hc ho
    · exact ho
  have g1 : Fin3 R C M s1 ∧ SmI R C (mxC C s1.1) t ∧ cel3S C s1 t j = cel3S C s i j := by
    by_cases e : i = t
    · have es : s1 = s := by rw [← hs1, if_neg (fun h => h e)]
      rw [es, e]; exact ⟨hF, hI, rfl⟩
    · have es : s1 = row3 R C 0 i t 0 s := by rw [← hs1, if_pos e]
      rw [es] at o1 ⊢
      obtain ⟨k1, k2⟩ := hF.row (.inl rfl) hiR hr (fun _ => e) (by decide) o1
      refine ⟨k1, (hI.op hi hiR (Nat.le_refl _) hr).congr fun a b ha hb => k2 a b ha hb, ?_⟩
      rw [k2 t j hr hjC]
      unfold opX
      rw [if_pos rfl, if_neg (Ne.symm e), if_pos rfl]; rfl
  obtain ⟨f1, i1, c1⟩ := g1
  rw [e1] at ho ⊢
  by_cases e : j = t
  · rw [if_neg (fun h => h e)]
    rw [e] at c1 ⊢
    exact ⟨f1, i1, c1⟩
  · rw [if_pos e] at ho ⊢
    obtain ⟨k1, k2⟩ := f1.col (.inl rfl) hjC hc e (by decide) ho
    refine ⟨k1, (i1.opC hj hjC (Nat.le_refl _) hc).congr fun a b ha hb => k2 a b ha hb, ?_⟩
    rw [k2 t t hr hc, ← c1]
    unfold opX
    rw [if_pos rfl, if_neg (Ne.symm e), if_pos rfl]; rfl
theorem rd_back (h : Siz3 R C s) (hr : t < R) (hc : t < C) (ho : ok3 (rdF R C t s) = true) : ok3 s = true :=
  rowsF_back0 h hr (R - t - 1) (by omega) (colsF_back0 (rowsF_siz h (R - t - 1)) hc (C - t - 1) (by omega) ho)
theorem round_says {i j : Nat} (hF : Fin3 R C M s) (hI : SmI R C (mxC C s.1) t) (hr : t < R) (hc : t < C) (hP : PlaceP R C t s i j) (ho : ok3 (rdF R C t (sw3 R C t i j s)) = true) :
    Fin3 R C M (rdF R C t (sw3 R C t i j s)) ∧ SmI R C (mxC C (rdF R C t (sw3 R C t i j s)).1) t ∧ cel3S C (rdF R C t (sw3 R C t i j s)) t t = cel3S C s i j ∧ (∀ a, t < a → a < R → 0 ≤ cel3S C (rdF R C t (sw3 R C t i j s)) a t ∧ cel3S C (rdF R C t (sw3 R C t i j s)) a t < ((cel3S C s i j).natAbs : Int)) ∧ ∀ b, t < b → b < C → cel3S C (rdF R C t (sw3 R C t i j s)) t b = cel3S C (sw3 R C t i j s) t b % cel3S C s i j := by
  have o1 := rd_back (sw3_siz hF.siz) hr hc ho
  obtain ⟨f1, i1, c1⟩ := sw3_says hF hI hr hc hP.i0 hP.i1 hP.j0 hP.j1 o1
  have := rdF_says f1 i1 hr hc (by rw [c1]; exact hP.nz) ho
  rwa [c1] at this
theorem loopS_says (hr : t < R) (hc : t < C) : ∀ (f : Nat) (s : SSt) {u : SSt} {b : Bool}, Fin3 R C M s → SmI R C (mxC C s.1) t → loopS R C t f s = some (u, b) →
    Fin3 R C M u ∧ SmI R C (mxC C u.1) t ∧ (b = false → ∀ i j, t ≤ i → i < R → t ≤ j → j < C → cel3S C u i j = 0) ∧ (b = true → cel3S C u t t ≠ 0 ∧ (∀ i, t < i → i < R → cel3S C u i t = 0) ∧ (∀ j, t < j → j < C → cel3S C u t j = 0) ∧ ∀ i j, t < i → i < R → t < j → j < C → cel3S C u t t ∣ cel3S C u i j)
  | 0, _, _, _, _, _, h => by cases h
  | f + 1, s, u, b, hF, hI, h => by
    rcases plS_says R C t s hr hc with ⟨h1, h2⟩ | ⟨i, j, hP⟩
    · have e : loopS R C t (f + 1) s = some (s, false) := by
        show (match plS R C t s with | none => some (s, false) | some (i, j) => _) = _
        rw [h1]
      rw [e] at h
      cases h
      exact ⟨hF, hI, fun _ => h2, fun h => by cases h⟩
    · have e : loopS R C t (f + 1) s = if ok3 (rdF R C t (sw3 R C t i j s)) = true then
          (if clB R C t (rdF R C t (sw3 R C t i j s)) = true then
            (match ndF R C t (rdF R C t (sw3 R C t i j s)) with
              | none => some (rdF R C t (sw3 R C t i j s), true)
              | some k => if ok3 (row3 R C 2 t k 1 (rdF R C t (sw3 R C t i j s))) = true then loopS R C t f (row3 R C 2 t k 1 (rdF R C t (sw3 R C t i j s))) else none)
          else loopS R C t f (rdF R C t (sw3 R C t i j s)))
        else none := by
        show (match plS R C t s with | none => some (s, false) | some (i, j) => _) = _
        rw [hP.eq]
      rw [e] at h
      by_cases ho : ok3 (rdF R C t (sw3 R C t i j s)) = true
      · rw [if_pos ho] at h
        obtain ⟨g1, g2, g3, -, -⟩ := round_says hF hI hr hc hP ho
        by_cases hcl : clB R C t (rdF R C t (sw3 R C t i j s)) = true
        · rw [if_pos hcl] at h
          cases hn : ndF R C t (rdF R C t (sw3 R C t i j s)) with
          | none =>
            rw [hn] at h
            cases h
            obtain ⟨c1, c2⟩ := clB_true hcl
            exact ⟨g1, g2, (fun h => by cases h), fun _ => ⟨by rw [g3]; exact hP.nz, c1, c2, ndF_none hn⟩⟩
          | some k =>
            rw [hn] at h
            dsimp only at h
            obtain ⟨k0, k1, -⟩ := ndF_some hn
            by_cases ho2 : ok3 (row3 R C 2 t k 1 (rdF R C t (sw3 R C t i j s))) = true
            · rw [if_pos ho2] at h
              obtain ⟨q1, q2⟩ := g1.row (.inr (.inr rfl)) hr k1 (fun _ => by omega) (by decide) ho2
              exact loopS_says hr hc f _ q1 ((g2.op (Nat.le_refl _) hr (by omega) k1).congr fun a b ha hb => q2 a b ha hb) h
            · rw [if_neg ho2] at h; cases h
        · rw [if_neg hcl] at h
          exact loopS_says hr hc f _ g1 g2 h
      · rw [if_neg ho] at h; cases h
end
end Go.Proofs.Ytpelnfenfeoeeaa
end

section
/-
  Plain mathematics of chapter 13: the rounds come to an end; Smith forms as they are made. Nothing of a program is used.
-/
namespace Go.Proofs.Ytpelnfenfeoeeaa
def FlagS (R C t : Nat) (s : SSt) : Prop := plS R C t s = some (t, t) ∧ ∃ b, t < b ∧ b < C ∧ cel3S C s t b % cel3S C s t t ≠ 0
def FuelS (R C t f : Nat) (s : SSt) : Prop := 1 ≤ f ∧ ∀ i j, plS R C t s = some (i, j) → 2 * (cel3S C s i j).natAbs + 1 < f ∨ (FlagS R C t s ∧ 2 * (cel3S C s i j).natAbs < f)
def fu0 (R C t : Nat) (s : SSt) : Nat := match plS R C t s with
  | none => 1
  | some (i, j) => 2 * (cel3S C s i j).natAbs + 2
theorem FuelS.start (R C t : Nat) (s : SSt) : FuelS R C t (fu0 R C t s) s := by
  refine ⟨?_, fun i j h => ?_⟩
  · unfold fu0; split <;> omega
  · unfold fu0; rw [h]; exact .inl (by dsimp only; omega)
section
variable {R C t : Nat} {M : Mx} {s : SSt}
theorem FuelS.of_small {u : SSt} {f m a b : Nat} (hr : t < R) (hc : t < C) (hm : 2 * m ≤ f) (ha : t ≤ a) (haR : a < R) (hb : t ≤ b) (hbC : b < C) (hz : cel3S C u a b ≠ 0) (hl : (cel3S C u a b).natAbs < m) : FuelS R C t f u := by
  refine ⟨by omega, fun i j h => ?_⟩
  rcases plS_says R C t u hr hc with ⟨h1, -⟩ | ⟨i', j', hP⟩
  · rw [h1] at h; cases h
  · rw [hP.eq] at h
    cases h
    have := hP.least a b ha haR hb hbC hz
    exact .inl (by omega)
theorem fuel_left {i j f : Nat} (hF : Fin3 R C M s) (hI : SmI R C (mxC C s.1) t) (hr : t < R) (hc : t < C) (hP : PlaceP R C t s i j) (hfu : FuelS R C t (f + 1) s) (ho : ok3 (rdF R C t (sw3 R C t i j s)) = true) (hcl : clB R C t (rdF R C t (sw3 R C t i j s)) = false) : FuelS R C t f (rdF R C t (sw3 R C t i j s)) := by
  obtain ⟨-, -, -, g4, g5⟩ := round_says hF hI hr hc hP ho
  have hm : 2 * (cel3S C s i j).natAbs ≤ f := by
    rcases hfu.2 i j hP.eq with h | h
    · omega
    · omega
  have hnz := hP.nz
  rcases clB_false hcl with ⟨a, h1, h2, h3⟩ | ⟨b, h1, h2, h3⟩
  · have := g4 a h1 h2
    exact FuelS.of_small hr hc hm (by omega) h2 (Nat.le_refl _) hc h3 (by omega)
  · have e := g5 b h1 h2
    have b1 := Int.emod_nonneg (cel3S C (sw3 R C t i j s) t b) hnz
    have b2 := Int.emod_lt (cel3S C (sw3 R C t i j s) t b) hnz
    exact FuelS.of_small hr hc hm (Nat.le_refl _) hr (by omega) h2 h3 (by omega)
theorem fuel_add {i j f k : Nat} (hF : Fin3 R C M s) (hI : SmI R C (mxC C s.1) t) (hr : t < R) (hc : t < C) (hP : PlaceP R C t s i j) (hfu : FuelS R C t (f + 1) s) (ho : ok3 (rdF R C t (sw3 R C t i j s)) = true) (hcl : clB R C t (rdF R C t (sw3 R C t i j s)) = true) (hn : ndF R C t (rdF R C t (sw3 R C t i j s)) = some k) (ho2 : ok3 (row3 R C 2 t k 1 (rdF R C t (sw3 R C t i j s))) = true) : FuelS R C t f (row3 R C 2 t k 1 (rdF R C t (sw3 R C t i j s))) := by
  obtain ⟨g1, -, g3, -, g5⟩ := round_says hF hI hr hc hP ho
  obtain ⟨c1, c2⟩ := clB_true hcl
  obtain ⟨k0, k1, b, b0, b1, b2⟩ := ndF_some hn
  have hnz := hP.nz
  have hm : 2 * (cel3S C s i j).natAbs + 1 ≤ f := by
    rcases hfu.2 i j hP.eq with h | ⟨⟨e, b', h1, h2, h3⟩, -⟩
    · omega
    · exfalso
      rw [hP.eq] at e
      cases e
      have es : sw3 R C t t t s = s := by
        unfold sw3
        rw [if_neg (fun h => h rfl), if_neg (fun h => h rfl)]
      have := g5 b' h1 h2
      rw [c2 b' h1 h2, es] at this
      exact h3 this.symm
  obtain ⟨-, q2⟩ := g1.row (.inr (.inr rfl)) hr k1 (fun _ => by omega) (by decide) ho2
  have row : ∀ x, x < C → cel3S C (row3 R C 2 t k 1 (rdF R C t (sw3 R C t i j s))) t x = cel3S C (rdF R C t (sw3 R C t i j s)) t x + cel3S C (rdF R C t (sw3 R C t i j s)) k x := fun x hx => by
    rw [q2 t x hr hx]
    unfold opX
    rw [if_neg (by decide), if_neg (by decide), if_pos rfl, Int.mul_one]; rfl
  have ep : cel3S C (row3 R C 2 t k 1 (rdF R C t (sw3 R C t i j s))) t t = cel3S C s i j := by rw [row t hc, c1 k k0 k1, g3, Int.add_zero]
  have eb : cel3S C (row3 R C 2 t k 1 (rdF R C t (sw3 R C t i j s))) t b = cel3S C (rdF R C t (sw3 R C t i j s)) k b := by rw [row b b1, c2 b b0 b1, Int.zero_add]
  rw [g3] at b2
  rw [← eb] at b2
  generalize row3 R C 2 t k 1 (rdF R C t (sw3 R C t i j s)) = w at ep b2 ⊢
  refine ⟨by omega, fun i' j' h => ?_⟩
  rcases plS_says R C t w hr hc with ⟨h1, -⟩ | ⟨a', b', hP'⟩
  · rw [h1] at h; cases h
  · rw [hP'.eq] at h
    cases h
    have hle := hP'.least t t (Nat.le_refl _) hr (Nat.le_refl _) hc (by rw [ep]; exact hnz)
    rw [ep] at hle
    by_cases hlt : (cel3S C w i' j').natAbs < (cel3S C s i j).natAbs
    · exact .inl (by omega)
    · obtain ⟨e1, e2⟩ := hP'.first (by rw [ep]; exact hnz) (by rw [ep]; omega)
      subst e1 e2
      exact .inr ⟨⟨hP'.eq, b, b0, b1, by rw [ep]; exact b2⟩, by omega⟩
theorem nums_neg {I J C : Nat} {z : Int} {xs : List Int} (h : nums xs = true) : nums (opL 1 I J z C xs) = true := nums_true fun p hp => by
  rw [opL_length] at hp
  rw [opL_getD hp]
  unfold opAt
  rw [if_neg (by decide), if_pos rfl]
  have hx := nums_def h p
  split
  · rw [mulB_num hx (by decide)]
    have : NumP (xs.getD p 0 * -1) := by unfold NumP at *; omega
    rw [fitB_num this]; exact this
  · exact hx
def ng3 (R C t : Nat) (u : SSt) : SSt := if cel3S C u t t < 0 then row3 R C 1 t t 0 u else u
theorem ng3_says (hF : Fin3 R C M s) (hI : SmI R C (mxC C s.1) t) (hr : t < R) (hc : t < C) (h0 : cel3S C s t t ≠ 0) (h1 : ∀ i, t < i → i < R → cel3S C s i t = 0) (h2 : ∀ j, t < j → j < C → cel3S C s t j = 0) (h3 : ∀ i j, t < i → i < R → t < j → j < C → cel3S C s t t ∣ cel3S C s i j) : Fin3 R C M (ng3 R C t s) ∧ SmI R C (mxC C (ng3 R C t s).1) (t + 1) := by
  by_cases hn : cel3S C s t t < 0
  · have es : ng3 R C t s = row3 R C 1 t t 0 s := if_pos hn
    rw [es]
    obtain ⟨a, b, c⟩ := ok3_and hF.ok
    obtain ⟨q1, q2⟩ := hF.row (k := 1) (I := t) (J := t) (z := 0) (.inr (.inl rfl)) hr hr (fun h => absurd rfl h) (by decide) (ok3_of (nums_neg a) (nums_neg b) c)
    have other : ∀ i j, i < R → j < C → i ≠ t → cel3S C (row3 R C 1 t t 0 s) i j = cel3S C s i j := fun i j hi hj hne => by
      rw [q2 i j hi hj]
      unfold opX
      rw [if_neg (by decide), if_pos rfl, if_neg hne]; rfl
    have own : ∀ j, j < C → cel3S C (row3 R C 1 t t 0 s) t j = - cel3S C s t j := fun j hj => by
      rw [q2 t j hr hj]
      unfold opX
      rw [if_neg (by decide), if_pos rfl, if_pos rfl]; rfl
    refine ⟨q1, ((hI.op (k := 1) (z := 0) (Nat.le_refl _) hr (Nat.le_refl _) hr).congr fun i j hi hj => q2 i j hi hj).put hr hc ?_ ?_ ?_ ?_⟩
    · have := own t hc
      change 0 < cel3S C (row3 R C 1 t t 0 s) t t
      omega
    · intro j hj hjC
      have := own j hjC
      rw [h2 j hj hjC] at this
      exact this
    · intro i hi hiR
      exact (other i t hiR hc (by omega)).trans (h1 i hi hiR)
    · intro i j hi hiR hj hjC
      change cel3S C (row3 R C 1 t t 0 s) t t ∣ cel3S C (row3 R C 1 t t 0 s) i j
      rw [own t hc, other i j hiR hjC (by omega)]
      exact Int.neg_dvd.mpr (h3 i j hi hiR hj hjC)
  · have es : ng3 R C t s = s := if_neg hn
    rw [es]
    exact ⟨hF, hI.put hr hc (by change 0 < cel3S C s t t; omega) h2 h1 h3⟩
end
def outS (R C : Nat) : Nat → Nat → SSt → Option SSt
  | 0, _, s => some s
  | n + 1, t, s => match loopS R C t (fu0 R C t s) s with
    | none => none
    | some (u, b) => if b = true then outS R C n (t + 1) (ng3 R C t u) else some u
theorem outS_says {R C : Nat} {M : Mx} : ∀ (n t : Nat) (s : SSt) {s' : SSt}, t + n = min R C → Fin3 R C M s → SmI R C (mxC C s.1) t → outS R C n t s = some s' → Fin3 R C M s' ∧ ∃ f, SmP R C (mxC C s'.1) f
  | 0, t, s, s', hn, hF, hI, h => by
    cases h
    exact ⟨hF, _, hI.done fun i j h1 h2 h3 h4 => by omega⟩
  | n + 1, t, s, s', hn, hF, hI, h => by
    have hr : t < R := by omega
    have hc : t < C := by omega
    have e : outS R C (n + 1) t s = (match loopS R C t (fu0 R C t s) s with
      | none => none
      | some (u, b) => if b = true then outS R C n (t + 1) (ng3 R C t u) else some u) := rfl
    rw [e] at h
    cases hl : loopS R C t (fu0 R C t s) s with
    | none => rw [hl] at h; cases h
    | some z =>
      obtain ⟨u, b⟩ := z
      rw [hl] at h
      dsimp only at h
      obtain ⟨f1, i1, z1, z2⟩ := loopS_says hr hc _ s hF hI hl
      cases b with
      | false =>
        rw [if_neg (by decide)] at h
        cases h
        exact ⟨f1, _, i1.done (z1 rfl)⟩
      | true =>
        rw [if_pos rfl] at h
        obtain ⟨y0, y1, y2, y3⟩ := z2 rfl
        obtain ⟨f2, i2⟩ := ng3_says f1 i1 hr hc y0 y1 y2 y3
        exact outS_says n (t + 1) _ (by omega) f2 i2 h
def smX (R C : Nat) (xs : List Int) : Option SSt := outS R C (min R C) 0 (xs, idL R R, idL C C)
theorem smX_says {R C : Nat} {xs : List Int} {s : SSt} (hl : xs.length = R * C) (hn : nums xs = true) (h : smX R C xs = some s) : Fin3 R C (mxC C xs) s ∧ ∃ f, SmP R C (mxC C s.1) f := by
  refine outS_says (min R C) 0 (xs, idL R R, idL C C) (by omega) ⟨⟨hl, idL_length R R, idL_length C C, MkOr.of_nums hn, MkOr.of_nums (idL_nums R), MkOr.of_nums (idL_nums C)⟩, ok3_of hn (idL_nums R) (idL_nums C), ?_⟩ (SmI.start _ _ _) h
  exact (Acc3.start R C (mxC C xs)).congr (mxL_idL R).symm (mxL_idL C).symm fun _ _ _ _ => rfl
end Go.Proofs.Ytpelnfenfeoeeaa
end

section
/-
  Plain mathematics of chapter 13: operations on columns as they are done row by row. Nothing of a program is used.
-/
namespace Go.Proofs.Ytpelnfenfeoeeaa
theorem place_div {i b C : Nat} (hb : b < C) : (i * C + b) / C = i ∧ (i * C + b) % C = b := by
  have hC : 0 < C := by omega
  refine ⟨?_, ?_⟩
  · rw [Nat.mul_comm, Nat.mul_add_div hC, Nat.div_eq_of_lt hb, Nat.add_zero]
  · rw [Nat.mul_comm, Nat.mul_add_mod, Nat.mod_eq_of_lt hb]
theorem place_split {p C : Nat} : p = p / C * C + p % C := by
  have := Nat.div_add_mod p C
  rw [Nat.mul_comm] at this
  exact this.symm
variable {k : Int} {I J : Nat} {z : Int} {C : Nat} {xs : List Int} {i b : Nat}
end Go.Proofs.Ytpelnfenfeoeeaa
end

section
/-
  Plain mathematics of chapter 13: the steps as a walk meets them: the least place, what is left, what is not divided. Nothing of a program is used.
-/
namespace Go.Proofs.Ytpelnfenfeoeeaa
def plL (C t : Nat) (s : SSt) (m : Nat) : Int := leastF (plF C t s) 0 m
def plR (C t : Nat) (L : Int) : Int := if L < 0 then -1 else ((t + L.toNat / (C - t) : Nat) : Int)
def plC (C t : Nat) (L : Int) : Int := if L < 0 then -1 else ((t + L.toNat % (C - t) : Nat) : Int)
section
variable {R C t a b : Nat} {s : SSt}
theorem pl_at (hb : b < C - t) : plF C t s (a * (C - t) + b) = cel3S C s (t + a) (t + b) := by
  unfold plF
  rw [(place_div hb).1, (place_div hb).2]
theorem pl_keep (hb : b < C - t) (h : cel3S C s (t + a) (t + b) = 0 ∨ (¬ plL C t s (a * (C - t) + b) < 0 ∧ ¬ (cel3S C s (t + a) (t + b)).natAbs < (plF C t s (plL C t s (a * (C - t) + b)).toNat).natAbs)) : plL C t s (a * (C - t) + (b + 1)) = plL C t s (a * (C - t) + b) := by
  have e : plL C t s (a * (C - t) + (b + 1)) = if plF C t s (0 + (a * (C - t) + b)) ≠ 0 ∧ (leastF (plF C t s) 0 (a * (C - t) + b) < 0 ∨ (plF C t s (0 + (a * (C - t) + b))).natAbs < (plF C t s (leastF (plF C t s) 0 (a * (C - t) + b)).toNat).natAbs) then ((0 + (a * (C - t) + b) : Nat) : Int) else leastF (plF C t s) 0 (a * (C - t) + b) := rfl
  rw [e, Nat.zero_add, pl_at hb, if_neg]
  · rfl
  · rintro ⟨h1, h2⟩
    rcases h with h | ⟨h3, h4⟩
    · exact h1 h
    · rcases h2 with h2 | h2
      · exact h3 h2
      · exact h4 h2
theorem pl_new (hb : b < C - t) (h0 : cel3S C s (t + a) (t + b) ≠ 0) (h : plL C t s (a * (C - t) + b) < 0 ∨ (cel3S C s (t + a) (t + b)).natAbs < (plF C t s (plL C t s (a * (C - t) + b)).toNat).natAbs) : plL C t s (a * (C - t) + (b + 1)) = ((a * (C - t) + b : Nat) : Int) ∧ plR C t ((a * (C - t) + b : Nat) : Int) = ((t + a : Nat) : Int) ∧ plC C t ((a * (C - t) + b : Nat) : Int) = ((t + b : Nat) : Int) := by
  have e : plL C t s (a * (C - t) + (b + 1)) = if plF C t s (0 + (a * (C - t) + b)) ≠ 0 ∧ (leastF (plF C t s) 0 (a * (C - t) + b) < 0 ∨ (plF C t s (0 + (a * (C - t) + b))).natAbs < (plF C t s (leastF (plF C t s) 0 (a * (C - t) + b)).toNat).natAbs) then ((0 + (a * (C - t) + b) : Nat) : Int) else leastF (plF C t s) 0 (a * (C - t) + b) := rfl
  refine ⟨?_, ?_, ?_⟩
  · rw [e, Nat.zero_add, pl_at hb, if_pos ⟨h0, h⟩]
  · unfold plR
    rw [if_neg (by omega), Int.toNat_natCast, (place_div hb).1]
  · unfold plC
    rw [if_neg (by omega), Int.toNat_natCast, (place_div hb).2]
theorem pl_end : plS R C t s = if plL C t s ((R - t) * (C - t)) < 0 then none else some ((plR C t (plL C t s ((R - t) * (C - t)))).toNat, (plC C t (plL C t s ((R - t) * (C - t)))).toNat) := by
  show (if leastF (plF C t s) 0 ((R - t) * (C - t)) < 0 then none else _) = (if leastF (plF C t s) 0 ((R - t) * (C - t)) < 0 then none else _)
  by_cases h : leastF (plF C t s) 0 ((R - t) * (C - t)) < 0
  · rw [if_pos h, if_pos h]
  · rw [if_neg h, if_neg h]
    unfold plR plC plL
    rw [if_neg h, if_neg h]
    rfl
def clI (t : Nat) (f : Nat → Int) (n : Nat) : Prop := ∀ i, t < i → i < n → f i = 0
theorem clB_iff {u : SSt} : clB R C t u = true ↔ (clI t (fun i => cel3S C u i t) R ∧ clI t (fun j => cel3S C u t j) C) := by
  constructor
  · intro h
    exact clB_true h
  · rintro ⟨h1, h2⟩
    cases hc : clB R C t u with
    | true => rfl
    | false =>
      rcases clB_false hc with ⟨i, a1, a2, a3⟩ | ⟨j, a1, a2, a3⟩
      · exact absurd (h1 i a1 a2) a3
      · exact absurd (h2 j a1 a2) a3
theorem ndF_found {u : SSt} {k : Nat} (h1 : t < k) (h2 : k < R) {j : Nat} (h3 : t < j) (h4 : j < C) (h5 : cel3S C u k j % cel3S C u t t ≠ 0) (h6 : ∀ i, t < i → i < k → ∀ b, t < b → b < C → cel3S C u i b % cel3S C u t t = 0) : ndF R C t u = some k := by
  cases hn : ndF R C t u with
  | none =>
    have := ndF_none hn k j h1 h2 h3 h4
    exact absurd (Int.emod_eq_zero_of_dvd this) h5
  | some k' =>
    obtain ⟨a1, a2, j', a3, a4, a5⟩ := ndF_some hn
    rcases Nat.lt_trichotomy k' k with h | h | h
    · exact absurd (h6 k' a1 h j' a3 a4) a5
    · rw [h]
    · exfalso
      unfold ndF at hn
      rw [List.find?_eq_some_iff_getElem] at hn
      obtain ⟨-, i, hi, e, hlt⟩ := hn
      have hi' : i < R := by simpa using hi
      have e : i = k' := by simpa using e
      have := hlt k (by omega)
      simp only [List.getElem_range, Bool.not_eq_true', Bool.and_eq_false_iff] at this
      rcases this with h7 | h7
      · exact absurd (decide_eq_true h1) (by rw [h7]; decide)
      · rw [List.any_eq_false] at h7
        have := h7 j (List.mem_range.mpr h4)
        rw [Bool.and_eq_true, decide_eq_true_eq, decide_eq_true_eq] at this
        exact this ⟨h3, h5⟩
theorem ndF_all {u : SSt} (h : ∀ i, t < i → i < R → ∀ b, t < b → b < C → cel3S C u i b % cel3S C u t t = 0) : ndF R C t u = none := by
  cases hn : ndF R C t u with
  | none => rfl
  | some k =>
    obtain ⟨a1, a2, j, a3, a4, a5⟩ := ndF_some hn
    exact absurd (h k a1 a2 j a3 a4) a5
theorem cel_row {I J : Nat} {z : Int} {i j : Nat} (h : Siz3 R C s) (hi : i < R) (hj : j < C) (hne : i ≠ I) : cel3S C (row3 R C 2 I J z s) i j = cel3S C s i j := by
  have hp : i * C + j < s.1.length := by rw [h.l1]; exact idx_lt hi hj
  show (opL 2 I J z C s.1).getD (i * C + j) 0 = _
  rw [opL_getD hp]
  unfold opAt
  rw [if_neg (by decide), if_neg (by decide), idx_div hj, if_neg hne]
  rfl
theorem cel_col {I J : Nat} {z : Int} {i j : Nat} (h : Siz3 R C s) (hi : i < R) (hj : j < C) (hne : j ≠ I) : cel3S C (col3 C 2 I J z s) i j = cel3S C s i j := by
  have hp : i * C + j < s.1.length := by rw [h.l1]; exact idx_lt hi hj
  show (colL 2 I J z C s.1).getD (i * C + j) 0 = _
  rw [colL_getD hp]
  unfold colAt
  rw [if_neg (by decide), idx_mod hj, if_neg hne]
  rfl
theorem rowsF_keep {p : Int} (h : Siz3 R C s) : ∀ n, t + 1 + n ≤ R → ∀ i j, i < R → j < C → (i ≤ t ∨ t + 1 + n ≤ i) → cel3S C (rowsF R C t p s n) i j = cel3S C s i j
  | 0, _, _, _, _, _, _ => rfl
  | n + 1, hn, i, j, hi, hj, hc => by
    have g := rowsF_keep (p := p) h n (by omega) i j hi hj (by omega)
    show cel3S C (if _ then _ else _) i j = _
    split
    · rw [cel_row (rowsF_siz h n) hi hj (by omega)]; exact g
    · exact g
theorem colsF_keep {p : Int} (h : Siz3 R C s) : ∀ n, t + 1 + n ≤ C → ∀ i j, i < R → j < C → (j ≤ t ∨ t + 1 + n ≤ j) → cel3S C (colsF C t p s n) i j = cel3S C s i j
  | 0, _, _, _, _, _, _ => rfl
  | n + 1, hn, i, j, hi, hj, hc => by
    have g := colsF_keep (p := p) h n (by omega) i j hi hj (by omega)
    show cel3S C (if _ then _ else _) i j = _
    split
    · rw [cel_col (colsF_siz h n) hi hj (by omega)]; exact g
    · exact g
theorem rowsF_do {p : Int} {n : Nat} (h : Siz3 R C s) (hn : t + 1 + n < R) (hc : t < C) : rowsF R C t p s (n + 1) = if cel3S C s (t + 1 + n) t ≠ 0 then row3 R C 2 (t + 1 + n) t (-(cel3S C s (t + 1 + n) t / p)) (rowsF R C t p s n) else rowsF R C t p s n := by
  have g := rowsF_keep (p := p) h n (by omega) (t + 1 + n) t hn hc (.inr (Nat.le_refl _))
  show (if cel3S C (rowsF R C t p s n) (t + 1 + n) t ≠ 0 then _ else _) = _
  rw [g]
theorem colsF_do {p : Int} {n : Nat} (h : Siz3 R C s) (hn : t + 1 + n < C) (hr : t < R) : colsF C t p s (n + 1) = if cel3S C s t (t + 1 + n) ≠ 0 then col3 C 2 (t + 1 + n) t (-(cel3S C s t (t + 1 + n) / p)) (colsF C t p s n) else colsF C t p s n := by
  have g := colsF_keep (p := p) h n (by omega) t (t + 1 + n) hr hn (.inr (Nat.le_refl _))
  show (if cel3S C (colsF C t p s n) t (t + 1 + n) ≠ 0 then _ else _) = _
  rw [g]
theorem loopS_bad {i j f : Nat} (hp : plS R C t s = some (i, j)) (ho : ok3 (rdF R C t (sw3 R C t i j s)) = false) : loopS R C t (f + 1) s = none := by
  show (match plS R C t s with | none => some (s, false) | some (i, j) => _) = _
  rw [hp]
  show (if _ then _ else _) = _
  rw [if_neg (by rw [ho]; decide)]
theorem loopS_done {i j f : Nat} (hp : plS R C t s = some (i, j)) (ho : ok3 (rdF R C t (sw3 R C t i j s)) = true) (hc : clB R C t (rdF R C t (sw3 R C t i j s)) = true) (hn : ndF R C t (rdF R C t (sw3 R C t i j s)) = none) : loopS R C t (f + 1) s = some (rdF R C t (sw3 R C t i j s), true) := by
  show (match plS R C t s with | none => some (s, false) | some (i, j) => _) = _
  rw [hp]
  show (if _ then _ else _) = _
  rw [if_pos ho, if_pos hc, hn]
theorem loopS_left {i j f : Nat} (hp : plS R C t s = some (i, j)) (ho : ok3 (rdF R C t (sw3 R C t i j s)) = true) (hc : clB R C t (rdF R C t (sw3 R C t i j s)) = false) : loopS R C t (f + 1) s = loopS R C t f (rdF R C t (sw3 R C t i j s)) := by
  show (match plS R C t s with | none => some (s, false) | some (i, j) => _) = _
  rw [hp]
  show (if _ then _ else _) = _
  rw [if_pos ho, if_neg (by rw [hc]; decide)]
theorem loopS_add {i j f k : Nat} (hp : plS R C t s = some (i, j)) (ho : ok3 (rdF R C t (sw3 R C t i j s)) = true) (hc : clB R C t (rdF R C t (sw3 R C t i j s)) = true) (hn : ndF R C t (rdF R C t (sw3 R C t i j s)) = some k) : loopS R C t (f + 1) s = if ok3 (row3 R C 2 t k 1 (rdF R C t (sw3 R C t i j s))) = true then loopS R C t f (row3 R C 2 t k 1 (rdF R C t (sw3 R C t i j s))) else none := by
  show (match plS R C t s with | none => some (s, false) | some (i, j) => _) = _
  rw [hp]
  show (if _ then _ else _) = _
  rw [if_pos ho, if_pos hc, hn]
theorem loopS_none {f : Nat} (hp : plS R C t s = none) : loopS R C t (f + 1) s = some (s, false) := by
  show (match plS R C t s with | none => some (s, false) | some (i, j) => _) = _
  rw [hp]
end
end Go.Proofs.Ytpelnfenfeoeeaa
end

section
/-
  Plain mathematics of chapter 13: what is bad stays bad; swaps and changes of signs make nothing bad. Nothing of a program is used.
-/
namespace Go.Proofs.Ytpelnfenfeoeeaa
section
variable {R C t : Nat} {s : SSt} {p : Int}
theorem rowsF_bad (h : Siz3 R C s) (ht : t < R) {n : Nat} (ho : ok3 (rowsF R C t p s n) = false) : ∀ m, t + 1 + n + m ≤ R → ok3 (rowsF R C t p s (n + m)) = false
  | 0, _ => ho
  | m + 1, hm => by
    cases hc : ok3 (rowsF R C t p s (n + (m + 1))) with
    | false => rfl
    | true =>
      have h1 : ok3 (rowsF R C t p s (n + m)) = true := rowsF_back (n := n + m) h ht (by show t + 1 + (n + m) < R; omega) hc
      rw [rowsF_bad h ht ho m (by omega)] at h1
      cases h1
theorem colsF_bad (h : Siz3 R C s) (ht : t < C) {n : Nat} (ho : ok3 (colsF C t p s n) = false) : ∀ m, t + 1 + n + m ≤ C → ok3 (colsF C t p s (n + m)) = false
  | 0, _ => ho
  | m + 1, hm => by
    cases hc : ok3 (colsF C t p s (n + (m + 1))) with
    | false => rfl
    | true =>
      have h1 : ok3 (colsF C t p s (n + m)) = true := colsF_back (n := n + m) h ht (by show t + 1 + (n + m) < C; omega) hc
      rw [colsF_bad h ht ho m (by omega)] at h1
      cases h1
theorem rd_bad_rows (h : Siz3 R C s) (hr : t < R) (hc : t < C) {n : Nat} (hn : t + 1 + n ≤ R) (ho : ok3 (rowsF R C t (cel3S C s t t) s n) = false) : ok3 (rdF R C t s) = false := by
  have h1 := rowsF_bad h hr ho (R - t - 1 - n) (by omega)
  rw [show n + (R - t - 1 - n) = R - t - 1 by omega] at h1
  cases hk : ok3 (rdF R C t s) with
  | false => rfl
  | true =>
    have h2 := colsF_back0 (rowsF_siz h _) hc (C - t - 1) (by omega) hk
    rw [h1] at h2; cases h2
theorem nums_swapC {I J : Nat} {z : Int} {xs : List Int} (h : nums xs = true) : nums (colL 0 I J z C xs) = true := nums_true fun q hq => by
  rw [colL_length] at hq
  rw [colL_getD hq]
  unfold colAt
  rw [if_pos rfl]
  split
  · exact nums_def h _
  · split
    · exact nums_def h _
    · exact nums_def h _
theorem nums_swapR {I J : Nat} {z : Int} {xs : List Int} (h : nums xs = true) : nums (opL 0 I J z C xs) = true := nums_true fun q hq => by
  rw [opL_length] at hq
  rw [opL_getD hq]
  unfold opAt
  rw [if_pos rfl]
  split
  · exact nums_def h _
  · split
    · exact nums_def h _
    · exact nums_def h _
theorem ok3_swapR {I J : Nat} {z : Int} (h : ok3 s = true) : ok3 (row3 R C 0 I J z s) = true := by
  obtain ⟨a, b, c⟩ := ok3_and h
  exact ok3_of (nums_swapR a) (nums_swapR b) c
theorem ok3_swapC {I J : Nat} {z : Int} (h : ok3 s = true) : ok3 (col3 C 0 I J z s) = true := by
  obtain ⟨a, b, c⟩ := ok3_and h
  exact ok3_of (nums_swapC a) b (nums_swapC c)
theorem ok3_sw {i j : Nat} (h : ok3 s = true) : ok3 (sw3 R C t i j s) = true := by
  have h1 : ok3 (if i ≠ t then row3 R C 0 i t 0 s else s) = true := by
    split
    · exact ok3_swapR h
    · exact h
  unfold sw3
  split
  · exact ok3_swapC h1
  · exact h1
theorem ok3_neg {I J : Nat} {z : Int} (h : ok3 s = true) : ok3 (row3 R C 1 I J z s) = true := by
  obtain ⟨a, b, c⟩ := ok3_and h
  exact ok3_of (nums_neg a) (nums_neg b) c
theorem ok3_ng (h : ok3 s = true) : ok3 (ng3 R C t s) = true := by
  unfold ng3
  split
  · exact ok3_neg h
  · exact h
theorem row3_none {I J : Nat} (h : ok3 s = true) : row3 R C 2 I J 0 s = s := by
  obtain ⟨a, b, c⟩ := ok3_and h
  unfold row3
  rw [opL_none a, opL_none b]
end
end Go.Proofs.Ytpelnfenfeoeeaa
end

section
/-
  Chapter 13, in the model: the least place.
-/
namespace Go.Proofs.Ytpelnfenfeoeeaa
set_option maxRecDepth 100000
open Go.RowKit
end Go.Proofs.Ytpelnfenfeoeeaa
end

section
/-
  Chapter 13, in the model: an operation on columns, in place.
-/
namespace Go.Proofs.Ytpelnfenfeoeeaa
set_option maxRecDepth 100000
open Go.RowKit
end Go.Proofs.Ytpelnfenfeoeeaa
end

section
/-
  Chapter 13, in the model: what a round leaves; the matrix and its two accounts in memory.
-/
namespace Go.Proofs.Ytpelnfenfeoeeaa
set_option maxRecDepth 100000
open Go.RowKit
section
variable {R C t : Nat} {s : SSt} {p : Int}
end
section
variable {R C ga gu gv na nu nv ca cu cv : Nat} {w0 w w' : World} {s s' : SSt}
end
section
variable {R C ga gu gv na nu nv ca cu cv : Nat} {w : World}
end
end Go.Proofs.Ytpelnfenfeoeeaa
end

section
/-
  Chapter 13, in the model: a round.
-/
namespace Go.Proofs.Ytpelnfenfeoeeaa
set_option maxRecDepth 100000
open Go.RowKit
end Go.Proofs.Ytpelnfenfeoeeaa
end

section
/-
  Chapter 13, in the model: all rounds.
-/
namespace Go.Proofs.Ytpelnfenfeoeeaa
set_option maxRecDepth 100000
open Go.RowKit
section
variable {R C n t : Nat} {s u : SSt}
theorem outS_none (h : loopS R C t (fu0 R C t s) s = none) : outS R C (n + 1) t s = none := by
  show (match loopS R C t (fu0 R C t s) s with | none => none | some (u, b) => _) = _
  rw [h]
theorem outS_false (h : loopS R C t (fu0 R C t s) s = some (u, false)) : outS R C (n + 1) t s = some u := by
  show (match loopS R C t (fu0 R C t s) s with | none => none | some (u, b) => _) = _
  rw [h]; rfl
theorem outS_true (h : loopS R C t (fu0 R C t s) s = some (u, true)) : outS R C (n + 1) t s = outS R C n (t + 1) (ng3 R C t u) := by
  show (match loopS R C t (fu0 R C t s) s with | none => none | some (u, b) => _) = _
  rw [h]; rfl
end
theorem smX_start {R C : Nat} {xs : List Int} (hl : xs.length = R * C) (hn : nums xs = true) : Fin3 R C (mxC C xs) (xs, idL R R, idL C C) := ⟨⟨hl, idL_length R R, idL_length C C, MkOr.of_nums hn, MkOr.of_nums (idL_nums R), MkOr.of_nums (idL_nums C)⟩, ok3_of hn (idL_nums R) (idL_nums C), (Acc3.start R C (mxC C xs)).congr (mxL_idL R).symm (mxL_idL C).symm fun _ _ _ _ => rfl⟩
end Go.Proofs.Ytpelnfenfeoeeaa
end

section
/-
  Plain mathematics of chapter 13: what SmithForm, IsSmith and FactorsOf answer.
-/
namespace Go.Proofs.Ytpelnfenfeoeeaa
def lastD (C : Nat) (xs : List Int) (a : Nat) : Int := match a with
  | 0 => 1
  | a + 1 => mxC C xs a a
def okD (C : Nat) (xs : List Int) (a b : Nat) : Prop := (a ≠ b → mxC C xs a b = 0) ∧ 0 ≤ mxC C xs a b ∧ (a = b → lastD C xs a ∣ mxC C xs a b)
instance (C : Nat) (xs : List Int) (a b : Nat) : Decidable (okD C xs a b) := by unfold okD; exact inferInstance
def fcL (_R C : Nat) (xs : List Int) (i : Nat) : List Int := ((List.range i).map fun k => mxC C xs k k).filter fun x => decide (x ≠ 0)
theorem fcL_succ (R C : Nat) (xs : List Int) (i : Nat) : fcL R C xs (i + 1) = if mxC C xs i i = 0 then fcL R C xs i else fcL R C xs i ++ [mxC C xs i i] := by
  unfold fcL
  rw [List.range_succ, List.map_append, List.filter_append]
  by_cases h : mxC C xs i i = 0
  · rw [if_pos h]; simp [h]
  · rw [if_neg h]; simp [h]
theorem fcL_form {R C : Nat} {xs : List Int} {f : Nat → Int} (h : SmP R C (mxC C xs) f) : ∃ T, T ≤ min R C ∧ (∀ i, i < T → f i ≠ 0) ∧ (∀ i, T ≤ i → f i = 0) ∧ fcL R C xs (min R C) = (List.range T).map f := by
  have key : ∀ n, n ≤ min R C → ∃ T, T ≤ n ∧ (∀ i, i < T → f i ≠ 0) ∧ (∀ i, T ≤ i → i < n → f i = 0) ∧ fcL R C xs n = (List.range T).map f := fun n => by
    induction n with
    | zero => exact fun _ => ⟨0, Nat.le_refl _, fun i hi => by omega, fun i _ hi => by omega, rfl⟩
    | succ n ih =>
      intro hn
      obtain ⟨T, h1, h2, h3, h4⟩ := ih (by omega)
      have e : mxC C xs n n = f n := by rw [h.dia n n (by omega) (by omega), if_pos rfl]
      rw [fcL_succ, e]
      by_cases h0 : f n = 0
      · rw [if_pos h0]
        refine ⟨T, by omega, h2, fun i hi hin => ?_, h4⟩
        rcases Nat.lt_or_ge i n with h5 | h5
        · exact h3 i hi h5
        · obtain rfl : i = n := by omega
          exact h0
      · rw [if_neg h0]
        have hT : T = n := by
          rcases Nat.lt_or_ge T n with h5 | h5
          · have h6 := h.dvd T n (by omega)
            rw [h3 T (Nat.le_refl _) h5] at h6
            exact absurd (Int.zero_dvd.mp h6) h0
          · omega
        subst hT
        refine ⟨T + 1, Nat.le_refl _, fun i hi => ?_, fun i hi hin => by omega, ?_⟩
        · rcases Nat.lt_or_ge i T with h5 | h5
          · exact h2 i h5
          · obtain rfl : i = T := by omega
            exact h0
        · rw [h4, List.range_succ, List.map_append]; rfl
  obtain ⟨T, h1, h2, h3, h4⟩ := key (min R C) (Nat.le_refl _)
  refine ⟨T, h1, h2, fun i hi => ?_, h4⟩
  rcases Nat.lt_or_ge i (min R C) with h5 | h5
  · exact h3 i hi h5
  · exact h.out i (by omega)
structure SR where
  ok : Bool
  d : MR
  u : MR
  v : MR
def SR.no : SR := ⟨false, MR.no, MR.no, MR.no⟩
def SR.of (r c : Int) : Option SSt → SR
  | some s => ⟨true, ⟨true, r, c, s.1⟩, ⟨true, r, r, s.2.1⟩, ⟨true, c, c, s.2.2⟩⟩
  | none => SR.no
def smR (r c : Int) (xs : List Int) : SR := if isMat r c xs = true then SR.of r c (smX r.toNat c.toNat xs) else SR.no
theorem smR_no {r c : Int} {xs : List Int} (h : isMat r c xs = false) : smR r c xs = SR.no := by unfold smR; rw [if_neg (by rw [h]; decide)]
def fcX (r c : Int) (xs : List Int) : List Int × Bool := if (smR r c xs).ok = true then (fcL r.toNat c.toNat (smR r c xs).d.zs (min r.toNat c.toNat), true) else ([], false)
theorem smR_says {r c : Int} {xs : List Int} (h : (smR r c xs).ok = true) : ∃ (R C : Nat) (s : SSt) (f : Nat → Int), r = R ∧ c = C ∧ R ≤ 24 ∧ C ≤ 24 ∧ isMat r c xs = true ∧ xs.length = R * C ∧ nums xs = true ∧ smX R C xs = some s ∧ smR r c xs = ⟨true, ⟨true, R, C, s.1⟩, ⟨true, R, R, s.2.1⟩, ⟨true, C, C, s.2.2⟩⟩ ∧ Fin3 R C (mxC C xs) s ∧ SmP R C (mxC C s.1) f := by
  cases hm : isMat r c xs with
  | false => rw [smR_no hm] at h; cases h
  | true =>
    obtain ⟨⟨r0, r1⟩, ⟨c0, c1⟩, hl, hn⟩ := isMat_says hm
    obtain ⟨R, rfl⟩ := Int.eq_ofNat_of_zero_le r0
    obtain ⟨C, rfl⟩ := Int.eq_ofNat_of_zero_le c0
    have hl : xs.length = R * C := by rw [← Int.natCast_mul] at hl; omega
    have e : smR R C xs = SR.of R C (smX R C xs) := by unfold smR; rw [if_pos hm]; rfl
    rw [e] at h ⊢
    cases hx : smX R C xs with
    | none => rw [hx] at h; cases h
    | some s =>
      obtain ⟨h1, f, h2⟩ := smX_says hl hn hx
      exact ⟨R, C, s, f, rfl, rfl, by omega, by omega, rfl, hl, hn, (by first | exact hx | rfl), rfl, h1, h2⟩
end Go.Proofs.Ytpelnfenfeoeeaa
end

section
/-
  Chapter 13, in the model: SmithForm.
-/
namespace Go.Proofs.Ytpelnfenfeoeeaa
set_option maxRecDepth 100000
open Go.RowKit
def SmG (w : World) (R : SR) (e : Ending) (w' : World) : Prop :=
  ∃ (va vb vc : Value), e = .returned (.tuple #[.agg #[.int .i64 R.d.r, .int .i64 R.d.c, va], .agg #[.int .i64 R.u.r, .int .i64 R.u.c, vb], .agg #[.int .i64 R.v.r, .int .i64 R.v.c, vc], .bool R.ok]) ∧ Own w.heap.size w' va R.d.zs ∧ Own w.heap.size w' vb R.u.zs ∧ Own w.heap.size w' vc R.v.zs ∧ (∀ k, va.ownBlock = some k → vb.ownBlock ≠ some k) ∧ (∀ k, va.ownBlock = some k → vc.ownBlock ≠ some k) ∧ (∀ k, vb.ownBlock = some k → vc.ownBlock ≠ some k) ∧ Below w.heap.size w w'
structure Res3 (B : Nat) (x1 x2 x3 y1 y2 y3 z1 z2 z3 : Value) (w : World) : Prop where
  a : Blk3 w (B + 1) 26 x1 x2 x3
  b : Blk3 w (B + 2) 26 y1 y2 y3
  c : Blk3 w (B + 3) 26 z1 z2 z3
section
variable {B : Nat} {x1 x2 x3 y1 y2 y3 z1 z2 z3 u1 u2 u3 : Value} {w w' : World}
theorem Res3.all (h : Res3 B x1 x2 x3 y1 y2 y3 z1 z2 z3 w) : (w.cell? ⟨B + 1, 0, none⟩ = some x1 ∧ w.cell? ⟨B + 1, 1, none⟩ = some x2 ∧ w.cell? ⟨B + 1, 2, none⟩ = some x3) ∧ (w.cell? ⟨B + 2, 0, none⟩ = some y1 ∧ w.cell? ⟨B + 2, 1, none⟩ = some y2 ∧ w.cell? ⟨B + 2, 2, none⟩ = some y3) ∧ (w.cell? ⟨B + 3, 0, none⟩ = some z1 ∧ w.cell? ⟨B + 3, 1, none⟩ = some z2 ∧ w.cell? ⟨B + 3, 2, none⟩ = some z3) :=
  ⟨⟨h.a.cell0, h.a.cell1, h.a.cell2⟩, ⟨h.b.cell0, h.b.cell1, h.b.cell2⟩, ⟨h.c.cell0, h.c.cell1, h.c.cell2⟩⟩
theorem Res3.step (h : Res3 B x1 x2 x3 y1 y2 y3 z1 z2 z3 w) (hb : Below w.heap.size w w') : Res3 B x1 x2 x3 y1 y2 y3 z1 z2 z3 w' := ⟨h.a.step hb, h.b.step hb, h.c.step hb⟩
theorem Res3.frs {pr : Nat → Prop} (h : Res3 B x1 x2 x3 y1 y2 y3 z1 z2 z3 w) (hf : FrS pr w w') (hn : ∀ k, k ≤ B + 3 → ¬ pr k) : Res3 B x1 x2 x3 y1 y2 y3 z1 z2 z3 w' := ⟨h.a.frs hf (hn _ (by omega)), h.b.frs hf (hn _ (by omega)), h.c.frs hf (hn _ (by omega))⟩
theorem Res3.old (h : Res3 B x1 x2 x3 y1 y2 y3 z1 z2 z3 w) (o : Obj) : Res3 B x1 x2 x3 y1 y2 y3 z1 z2 z3 (w.alloc o) := ⟨h.a.old o, h.b.old o, h.c.old o⟩
theorem Res3.put1 (h : Res3 B x1 x2 x3 y1 y2 y3 z1 z2 z3 w) : Res3 B u1 u2 u3 y1 y2 y3 z1 z2 z3 (((w.setCell ⟨B + 1, 0, none⟩ u1).setCell ⟨B + 1, 1, none⟩ u2).setCell ⟨B + 1, 2, none⟩ u3) :=
  ⟨((h.a.set0 _).set1 _).set2 _, ((h.b.far (by show _ ≠ _; simp) _).far (by show _ ≠ _; simp) _).far (by show _ ≠ _; simp) _, ((h.c.far (by show _ ≠ _; simp) _).far (by show _ ≠ _; simp) _).far (by show _ ≠ _; simp) _⟩
theorem Res3.put2 (h : Res3 B x1 x2 x3 y1 y2 y3 z1 z2 z3 w) : Res3 B x1 x2 x3 u1 u2 u3 z1 z2 z3 (((w.setCell ⟨B + 2, 0, none⟩ u1).setCell ⟨B + 2, 1, none⟩ u2).setCell ⟨B + 2, 2, none⟩ u3) :=
  ⟨((h.a.far (by show _ ≠ _; simp) _).far (by show _ ≠ _; simp) _).far (by show _ ≠ _; simp) _, ((h.b.set0 _).set1 _).set2 _, ((h.c.far (by show _ ≠ _; simp) _).far (by show _ ≠ _; simp) _).far (by show _ ≠ _; simp) _⟩
theorem Res3.put3 (h : Res3 B x1 x2 x3 y1 y2 y3 z1 z2 z3 w) : Res3 B x1 x2 x3 y1 y2 y3 u1 u2 u3 (((w.setCell ⟨B + 3, 0, none⟩ u1).setCell ⟨B + 3, 1, none⟩ u2).setCell ⟨B + 3, 2, none⟩ u3) :=
  ⟨((h.a.far (by show _ ≠ _; simp) _).far (by show _ ≠ _; simp) _).far (by show _ ≠ _; simp) _, ((h.b.far (by show _ ≠ _; simp) _).far (by show _ ≠ _; simp) _).far (by show _ ≠ _; simp) _, ((h.c.set0 _).set1 _).set2 _⟩
theorem Res3.zero (h : Res3 B x1 x2 x3 y1 y2 y3 z1 z2 z3 w) : Res3 B (.int .i64 0) (.int .i64 0) (.slice none 0 0) (.int .i64 0) (.int .i64 0) (.slice none 0 0) (.int .i64 0) (.int .i64 0) (.slice none 0 0) ((fun w => ((((((((w.setCell ⟨B + 1, 0, none⟩ (.int .i64 0)).setCell ⟨B + 1, 1, none⟩ (.int .i64 0)).setCell ⟨B + 1, 2, none⟩ (.slice none 0 0)).setCell ⟨B + 2, 0, none⟩ (.int .i64 0)).setCell ⟨B + 2, 1, none⟩ (.int .i64 0)).setCell ⟨B + 2, 2, none⟩ (.slice none 0 0)).setCell ⟨B + 3, 0, none⟩ (.int .i64 0)).setCell ⟨B + 3, 1, none⟩ (.int .i64 0)).setCell ⟨B + 3, 2, none⟩ (.slice none 0 0)) w) := h.put1.put2.put3
theorem belowK {b : Nat} {W : World} (h : Below W.heap.size W w) (hb : W.heap.size ≤ b) : Below W.heap.size W (((w.setCell ⟨b, 0, none⟩ u1).setCell ⟨b, 1, none⟩ u2).setCell ⟨b, 2, none⟩ u3) := ((h.setCell (p := ⟨b, 0, none⟩) hb _).setCell (p := ⟨b, 1, none⟩) hb _).setCell (p := ⟨b, 2, none⟩) hb _
theorem Blk3.farK {c b : Nat} {t : TypeId} (h : Blk3 w c t x1 x2 x3) (hb : c ≠ b) : Blk3 (((w.setCell ⟨b, 0, none⟩ u1).setCell ⟨b, 1, none⟩ u2).setCell ⟨b, 2, none⟩ u3) c t x1 x2 x3 := ((h.far (a := ⟨b, 0, none⟩) hb _).far (a := ⟨b, 1, none⟩) hb _).far (a := ⟨b, 2, none⟩) hb _
end
end Go.Proofs.Ytpelnfenfeoeeaa
end

section
/-
  Chapter 3, in the program: a fold whose closure writes into its value (TransposeOf).
-/
namespace Go.Proofs.Ytpelnfenfeoeeaa
set_option maxRecDepth 100000
open Go.RowKit
set_option maxRecDepth 100000 in
set_option maxHeartbeats 1000000 in
theorem iFoldT (pb R C n : Nat) (a : Option Addr) (cap : Nat) (zs : List Int) (g m mc : Nat) (L : Nat → List Int) (w : World) (hx : zs.length = n) (h : Rd w a zs) (hn : n = R * C) (hR : R ≤ 24) (hC : C ≤ 24) (hg : Ints w g (L 0)) (hz : ∀ b o : Nat, a = some ⟨b, o, none⟩ → 0 < n → b ≠ g)
    (step : ∀ (k : Nat) (w1 : World), k < n → w.grownBy w1 (some g) → Ints w1 g (L k) → Calls Try.prog 87 #[.slice (some ⟨g, 0, none⟩) m mc, .int .i64 ((k : Int) / (C : Int)), .int .i64 ((k : Int) % (C : Int)), .int .i64 (zs.getD k 0), .pointer (some ⟨pb, 0, none⟩)] w1
      (fun e w2 => e = .returned (.slice (some ⟨g, 0, none⟩) m mc) ∧ Ints w2 g (L (k + 1)) ∧ w1.grownBy w2 (some g))) :
    Calls Try.prog 86 #[.agg #[.int .i64 R, .int .i64 C, .slice a n cap], .slice (some ⟨g, 0, none⟩) m mc, .func (.func 87) #[] #[.pointer (some ⟨pb, 0, none⟩)]] w
      (fun e w' => e = .returned (.slice (some ⟨g, 0, none⟩) m mc) ∧ Ints w' g (L n) ∧ w.grownBy w' (some g)) := by
  have H := Lib.hid h
  have ST := Lib.hid step
  have HZ := Lib.hid hz
  have hle : R * C ≤ 24 * 24 := Nat.mul_le_mul hR hC
  have HN := Lib.hid hx
  rw [← hn] at hle
  have HM := Lib.hid hn
  have gw : w.grownBy (w.alloc (.cells #[.int .i64 R, .int .i64 C, .slice a n cap] 26)) (some g) := World.grownBy_alloc w _ _
  have G0 := Lib.hid gw
  have I0 := Lib.hid (hg.old (.cells #[.int .i64 R, .int .i64 C, .slice a n cap] 26))
  have K0 : Hid (Blk3 (w.alloc (.cells #[.int .i64 R, .int .i64 C, .slice a n cap] 26)) w.heap.size 26 (.int .i64 R) (.int .i64 C) (.slice a n cap)) := Blk3.at_ _ _ _ _ rfl
  have lg := hg.lt
  clear h step hz hx hn gw hg
  go_enter Try.func86, Try.ntmps86
  go_wp2_with fail
  go_loopw [7, 8, 9, 14] (fun v _ _ i wr => ∃ k : Nat, i = .int .i64 k ∧ k ≤ n ∧ v = .slice (some ⟨g, 0, none⟩) m mc ∧ Ints wr g (L k) ∧ (w.alloc (.cells #[.int .i64 R, .int .i64 C, .slice a n cap] 26)).grownBy wr (some g)) (fun _ _ _ i _ => n - (intOf i).toNat)
  case atStart => exact ⟨0, rfl, by omega, rfl, I0.out, World.grownBy.refl _ _⟩
  case round =>
    obtain ⟨k, rfl, hk, rfl, hi, hgr⟩ := hrel
    have I := Lib.hid hi
    have G := Lib.hid hgr
    have GW := Lib.hid (G0.out.trans hgr)
    clear hi hgr
    have R0 := Lib.hid (K0.out.keepOne G.out (by omega))
    by_cases hlt : k < n
    · have hC0 : 0 < C := by
        rcases Nat.eq_zero_or_pos C with e | e
        · have := HM.out; rw [e, Nat.mul_zero] at this; omega
        · exact e
      have c0 : ((C : Int) == 0) = false := by simp; omega
      obtain ⟨b, o, rfl, hcell⟩ := H.out k (by rw [HN.out]; exact hlt)
      have u1 := World.block_lt_of_cell? w _ hcell
      have hb : b ≠ g := HZ.out b o rfl (by omega)
      have hcell := GW.out.cell hcell (by simpa using hb)
      have d1 : (k : Int) / (C : Int) = ((k / C : Nat) : Int) := (Int.natCast_ediv k C).symm
      have d2 : (k : Int) % (C : Int) = ((k % C : Nat) : Int) := (Int.natCast_emod k C).symm
      have d3 : k / C ≤ k := Nat.div_le_self k C
      have d4 : k % C ≤ k := Nat.mod_le k C
      have d5 : 0 ≤ (k : Int) / (C : Int) := by rw [d1]; exact Int.natCast_nonneg _
      have d6 : (k : Int) / (C : Int) ≤ 600 := by rw [d1]; exact Int.ofNat_le.mpr (show k / C ≤ 600 by omega)
      have c1 : ¬ C = 0 := by omega
      have w1 : IntKind.i64.wrap ((k : Int) / (C : Int)) = (k : Int) / (C : Int) := IntWalk.i64_in _ (by omega)
      have e2 : Int.tmod (k : Int) (C : Int) = (k : Int) % (C : Int) := Int.tmod_eq_emod_of_nonneg (by omega)
      have e3 : Int.tdiv (k : Int) (C : Int) = (k : Int) / (C : Int) := Int.tdiv_eq_ediv_of_nonneg (by omega)
      clear d1 d2
      obtain ⟨z, hz⟩ : ∃ z, zs.getD k 0 = z := ⟨_, rfl⟩
      rw [hz] at hcell
      have Z := Lib.hid hz
      clear hz u1
      obtain ⟨r0, r1, r2, -, -, -⟩ := R0.out.all
      go_wp2_with fail
      go_still_tail 11, (by kernel_rfl)
      go_wp2_with fail
      rw [← Z.out]
      refine (ST.out k _ hlt (grown_drew_one GW.out) I.out.drew).mono ?_
      rintro e w2 ⟨rfl, hi2, hg2⟩
      have I2 := Lib.hid hi2
      have G2 := Lib.hid ((grown_drew_one G.out).trans hg2)
      clear hi2 hg2
      go_wp2_with fail
      go_roundw
      case rel => exact ⟨k + 1, by go_num, by omega, rfl, I2.out, G2.out⟩
      case measure => simp [intOf]; omega
    · obtain rfl : n = k := by omega
      go_wp2_with fail
      go_ret
      exact ⟨rfl, I.out, GW.out⟩
end Go.Proofs.Ytpelnfenfeoeeaa
end

section
/-
  Chapter 3, in the program: TransposeOf.
-/
namespace Go.Proofs.Ytpelnfenfeoeeaa
set_option maxRecDepth 100000
open Go.RowKit
def turnTo (R C : Nat) (xs : List Int) (k : Nat) : List Int := tab C R fun j i => if i * C + j < k then xs.getD (i * C + j) 0 else 0
theorem turnTo_length (R C : Nat) (xs : List Int) (k : Nat) : (turnTo R C xs k).length = C * R := tab_length _ _ _
theorem turnTo_zero (R C : Nat) (xs : List Int) : turnTo R C xs 0 = List.replicate (C * R) 0 := by
  apply List.ext_getElem (by simp [turnTo, tab])
  intro i h1 h2
  simp [turnTo, tab]
theorem turnTo_all (R C : Nat) (xs : List Int) : turnTo R C xs (R * C) = turnL R C xs := by
  refine tab_ext (turnTo_length _ _ _ _) fun j i hj hi => ?_
  unfold turnTo
  rw [tab_at C R _ hj hi, if_pos (idx_lt hi hj)]
theorem turnTo_step (R C : Nat) (xs : List Int) {i j : Nat} (hi : i < R) (hj : j < C) : (turnTo R C xs (i * C + j)).set (j * R + i) (xs.getD (i * C + j) 0) = turnTo R C xs (i * C + j + 1) := by
  refine (tab_ext (by rw [List.length_set, turnTo_length]) fun j' i' hj' hi' => ?_)
  rw [getD_set _ _ _ _ (by rw [turnTo_length]; exact idx_lt hj hi)]
  by_cases e : j' * R + i' = j * R + i
  · obtain ⟨rfl, rfl⟩ := idx_inj hi' hi e
    rw [if_pos e, if_pos (by omega)]
  · rw [if_neg e]
    unfold turnTo
    rw [tab_at C R _ hj' hi']
    by_cases h1 : i' * C + j' < i * C + j
    · rw [if_pos h1, if_pos (by omega)]
    · rw [if_neg h1]
      by_cases h2 : i' * C + j' < i * C + j + 1
      · exfalso
        have h3 : i' * C + j' = i * C + j := by omega
        obtain ⟨rfl, rfl⟩ := idx_inj hj' hj h3
        exact e rfl
      · rw [if_neg h2]
set_option maxHeartbeats 400000 in
theorem iTurnStep (pb R : Nat) (c v : Value) (g m mc i j : Nat) (z : Int) (L : List Int) (w : World) (hp : Blk3 w pb 26 (.int .i64 R) c v) (hI : Ints w g L) (hm : j * R + i < m) (hl : m = L.length) (hb : m ≤ 600) :
    Calls Try.prog 87 #[.slice (some ⟨g, 0, none⟩) m mc, .int .i64 (i : Int), .int .i64 (j : Int), .int .i64 z, .pointer (some ⟨pb, 0, none⟩)] w
      (fun e w2 => e = .returned (.slice (some ⟨g, 0, none⟩) m mc) ∧ Ints w2 g (L.set (j * R + i) z) ∧ w.grownBy w2 (some g)) := by
  have c1 : (j : Int) * (R : Int) = ((j * R : Nat) : Int) := (Int.natCast_mul _ _).symm
  have d1 : 0 ≤ (j : Int) * (R : Int) ∧ (j : Int) * (R : Int) ≤ 600 := by rw [c1]; omega
  have e1 : 0 ≤ (j : Int) * (R : Int) + (i : Int) := by omega
  have e2 : (j : Int) * (R : Int) + (i : Int) < (m : Int) := by rw [c1]; omega
  have e3 : ((j : Int) * (R : Int) + (i : Int)).toNat = j * R + i := by rw [c1]; omega
  obtain ⟨d11, d12⟩ := d1
  have e4 : (j : Int) * (R : Int) + (i : Int) ≤ 600 := by omega
  have v1 : IntKind.i64.wrap ((j : Int) * (R : Int)) = (j : Int) * (R : Int) := IntWalk.i64_in _ (by omega)
  have v2 : IntKind.i64.wrap ((j : Int) * (R : Int) + (i : Int)) = (j : Int) * (R : Int) + (i : Int) := IntWalk.i64_in _ (by omega)
  have hold := hI.cell (i := j * R + i) (by omega)
  have hfr := hI.free (j * R + i)
  obtain ⟨p0, p1, p2, -, -, -⟩ := hp.all
  have I := Lib.hid hI
  clear c1 hI hp
  go_enter Try.func87, Try.ntmps87
  go_wp2_with fail
  go_ret
  refine ⟨rfl, ?_, ?_⟩
  · first | exact I.out.set _ _ | exact I.out.drew.set _ _
  · first | exact grown_set_one (World.grownBy.refl _ _) rfl _ | exact grown_drew_one (grown_set_one (World.grownBy.refl _ _) rfl _)
theorem turnStepOf (pb R C n g : Nat) (xs : List Int) (w : World) {c v : Value} (hp : Blk3 w pb 26 (.int .i64 R) c v) (hn : n = R * C) (hne : pb ≠ g) (hle : n ≤ 576) :
    ∀ (k : Nat) (w1 : World), k < n → w.grownBy w1 (some g) → Ints w1 g (turnTo R C xs k) → Calls Try.prog 87 #[.slice (some ⟨g, 0, none⟩) n n, .int .i64 ((k : Int) / (C : Int)), .int .i64 ((k : Int) % (C : Int)), .int .i64 (xs.getD k 0), .pointer (some ⟨pb, 0, none⟩)] w1
      (fun e w2 => e = .returned (.slice (some ⟨g, 0, none⟩) n n) ∧ Ints w2 g (turnTo R C xs (k + 1)) ∧ w1.grownBy w2 (some g)) := by
  intro k w1 hk hg hI
  have hC : 0 < C := by
    rcases Nat.eq_zero_or_pos C with e | e
    · rw [e, Nat.mul_zero] at hn; omega
    · exact e
  have e1 : k / C * C + k % C = k := by rw [Nat.mul_comm]; exact Nat.div_add_mod k C
  have hj : k % C < C := Nat.mod_lt k hC
  have hi : k / C < R := Nat.div_lt_of_lt_mul (by rw [Nat.mul_comm, ← hn]; exact hk)
  have st := turnTo_step R C xs hi hj
  rw [e1] at st
  rw [← Int.natCast_ediv, ← Int.natCast_emod]
  refine (iTurnStep pb R c v g n n (k / C) (k % C) (xs.getD k 0) _ w1 (hp.keepOne hg hne) hI (by rw [hn, Nat.mul_comm R C]; exact idx_lt hj hi) (by rw [turnTo_length, hn, Nat.mul_comm]) (by omega)).mono ?_
  rintro e w2 ⟨h1, h2, h3⟩
  rw [st] at h2
  exact ⟨h1, h2, h3⟩
set_option maxHeartbeats 1000000 in
theorem iTurn_t (R C : Nat) (a : Option Addr) (m : Nat) (xs : List Int) (w : World) (h : Rd w a xs) (hn : xs.length ≤ 16777216) (hm : isMat R C xs = true) :
    Calls Try.prog 35 #[.agg #[.int .i64 R, .int .i64 C, .slice a xs.length m]] w (MatRes ⟨true, C, R, turnL R C xs⟩ w) := by
  obtain ⟨⟨r1, r2⟩, ⟨c1, c2⟩, l1, -⟩ := isMat_says hm
  rw [← Int.natCast_mul] at l1
  have hle : C * R ≤ 24 * 24 := Nat.mul_le_mul (by omega) (by omega)
  have hCR : C * R = R * C := Nat.mul_comm _ _
  have hl1 : xs.length = R * C := by omega
  obtain ⟨N, hN⟩ : ∃ N, xs.length = N := ⟨_, rfl⟩
  have hle2 : N ≤ 576 := by omega
  have HX := Lib.hid hN
  have HRC : Hid (N = R * C) := hN.symm.trans hl1
  have hmk := makeInts N (by omega)
  have M := Lib.hid hm
  have hR : R ≤ 24 := by omega
  have hC : C ≤ 24 := by omega
  rw [hN] at hn ⊢
  clear l1 hl1 hm hle hCR hN
  have B0 : ∀ o1 o2, Below w.heap.size w ((w.alloc o1).alloc o2) := fun o1 o2 => ((Below.refl _ _).alloc (Nat.le_refl _) _).alloc (by simp) _
  have BH := Lib.hid B0
  have H := Lib.hid h
  clear B0 h
  go_enter Try.func35, Try.ntmps35
  go_wp2_with fail
  have ST := iIsMat R C a m xs _ (H.out.below (BH.out (.cells #[.int .i64 R, .int .i64 C, .slice a N m] 26) (.cells #[.int .i64 0, .int .i64 0, .slice none 0 0] 26))) (by rw [HX.out]; omega)
  rw [HX.out] at ST
  refine ST.mono ?_
  clear ST
  rintro e w1 ⟨rfl, hb⟩
  have K0 : Hid (Blk3 w1 w.heap.size 26 (.int .i64 R) (.int .i64 C) (.slice a N m)) := ((Blk3.at_ _ _ _ _ rfl).old _).keep hb (by simp <;> omega)
  have K2 : Hid (Blk3 w1 (w.heap.size + 1) 26 (.int .i64 0) (.int .i64 0) (.slice none 0 0)) := (Blk3.at_ _ _ _ _ (by simp)).keep hb (by simp)
  have B : Hid (Below w.heap.size w w1) := (BH.out _ _).trans (hb.mono (by simp <;> omega))
  clear hb
  obtain ⟨ca0, ca1, ca2, -, -, -⟩ := K0.out.all
  obtain ⟨cc0, cc1, cc2, ff0, ff1, ff2⟩ := K2.out.all
  rw [M.out]
  go_upto_region 3 with fail
  refine wp_region_held_drew (S := fun w' => Below w1.heap.size w1 w') (by kernel_rfl) (Below.refl _ _).drew (fun hH => ?_)
  refine wpAnyH_take (i := 0) (v := ?_) (by simp only [List.getElem?_toArray, List.getElem?_cons_zero]; rfl) (by kernel_rfl) (by kernel_rfl) (by kernel_rfl) (by exact fun _ _ _ h => h) (Or.inl ⟨by rfl, ?_⟩) hH ?_
  rotate_left
  · (intro wS hS; (try dsimp only at hS); obtain ⟨k1, k2, k3⟩ := seven K0.out hS; go_simp; try rfl)
  try simp only [Act.put, List.setIfInBounds_toArray, List.set_cons_zero, List.set_cons_succ]
  refine wpAnyH_take (i := 1) (v := ?_) (by simp only [List.getElem?_toArray, List.getElem?_cons_succ, List.getElem?_cons_zero]; rfl) (by kernel_rfl) (by kernel_rfl) (by kernel_rfl) (by exact fun _ _ _ h => h) (Or.inl ⟨by rfl, ?_⟩) hH ?_
  rotate_left
  · (intro wS hS; (try dsimp only at hS); obtain ⟨k1, k2, k3⟩ := seven K0.out hS; go_simp; try rfl)
  try simp only [Act.put, List.setIfInBounds_toArray, List.set_cons_zero, List.set_cons_succ]
  refine wpAnyH_take (i := 2) (v := ?_) (by simp only [List.getElem?_toArray, List.getElem?_cons_succ, List.getElem?_cons_zero]; rfl) (by kernel_rfl) (by kernel_rfl) (by kernel_rfl) (by exact fun _ _ _ h => h) (Or.inl ⟨by rfl, ?_⟩) hH ?_
  rotate_left
  · (intro wS hS; (try dsimp only at hS); obtain ⟨k1, k2, k3⟩ := seven K0.out hS; go_simp; try rfl)
  try simp only [Act.put, List.setIfInBounds_toArray, List.set_cons_zero, List.set_cons_succ]
  refine wpAnyH_take (i := 3) (v := ?_) (by simp only [List.getElem?_toArray, List.getElem?_cons_succ, List.getElem?_cons_zero]; rfl) (by kernel_rfl) (by kernel_rfl) (by kernel_rfl) (by exact fun _ _ _ h => h) (Or.inl ⟨by rfl, ?_⟩) hH ?_
  rotate_left
  · (intro wS hS; clear hS; go_simp; try rfl)
  try simp only [Act.put, List.setIfInBounds_toArray, List.set_cons_zero, List.set_cons_succ]
  refine wpAnyH_take (i := 5) (v := ?_) (by simp only [List.getElem?_toArray, List.getElem?_cons_succ, List.getElem?_cons_zero]; rfl) (by kernel_rfl) (by kernel_rfl) (by kernel_rfl) (by exact fun _ _ _ h => h) (Or.inl ⟨by rfl, ?_⟩) hH ?_
  rotate_left
  · (intro wS hS; clear hS; go_simp; try rfl)
  try simp only [Act.put, List.setIfInBounds_toArray, List.set_cons_zero, List.set_cons_succ]
  refine wpAnyH_ready (rs := [4]) (by kernel_rfl) (by simp) ?_
  refine AllReadyH.cons (by simp only [List.getElem?_toArray, List.getElem?_cons_succ, List.getElem?_cons_zero]; rfl) (fun K hK => ?_) AllReadyH.nil
  go_simp
  have I0 : Hid (Ints (w1.alloc (.cells (madeCells #[.int .i64 0] N) 3)) w1.heap.size (List.replicate N 0)) := Ints.made N rfl
  try dsimp only
  refine hK.out _ _ ?_ (fun hH2 => ?_)
  · exact hH.alloc hH.size _
  clear hK K
  have hO := hH
  clear hH
  have hH := hH2
  clear hH2
  try simp only [Act.put, List.setIfInBounds_toArray, List.set_cons_zero, List.set_cons_succ]
  refine wpAnyH_ready (rs := [6]) (by kernel_rfl) (by simp) ?_
  refine AllReadyH.cons (by simp only [List.getElem?_toArray, List.getElem?_cons_succ, List.getElem?_cons_zero]; rfl) (fun K hK => ?_) AllReadyH.nil
  go_simp
  refine (iFoldT w.heap.size R C N a m xs w1.heap.size N N (turnTo R C xs) _ HX.out (H.out.below (B.out.trans (hH.mono B.out.size))) HRC.out hR hC (by rw [turnTo_zero, Nat.mul_comm, ← HRC.out]; first | exact I0.out | exact I0.out.drew) (far_of (H.out.below B.out) HX.out) (turnStepOf w.heap.size R C N w1.heap.size xs _ (K0.out.keep hH K0.out.lt) HRC.out (Nat.ne_of_lt K0.out.lt) hle2)).mono ?_
  rintro e v1 ⟨rfl, hi, hg⟩
  have I2 := Lib.hid hi
  clear hi
  try dsimp only
  refine hK.out _ _ ?_ (fun hH2 => ?_)
  · exact hH.trans (below_of_one hg (Nat.le_refl _) hH.size)
  clear hK K
  have hO := hH
  clear hH
  have hH := hH2
  clear hH2
  try simp only [Act.put, List.setIfInBounds_toArray, List.set_cons_zero, List.set_cons_succ]
  refine wpAnyH_take (i := 7) (v := ?_) (by simp only [List.getElem?_toArray, List.getElem?_cons_succ, List.getElem?_cons_zero]; rfl) (by kernel_rfl) (by kernel_rfl) (by kernel_rfl) (by exact fun _ _ _ h => h) (Or.inl ⟨by rfl, ?_⟩) hH ?_
  rotate_left
  · (intro wS hS; clear hS; go_simp; try rfl)
  try simp only [Act.put, List.setIfInBounds_toArray, List.set_cons_zero, List.set_cons_succ]
  refine wpAnyH_done (by kernel_rfl) ?_ _
  have hb := hH
  clear hH hO hg
  have EQ : turnTo R C xs N = turnL R C xs := by rw [HRC.out]; exact turnTo_all R C xs
  rw [EQ] at I2
  have HL : Hid ((turnL R C xs).length = N) := by show (turnL R C xs).length = N; unfold turnL; rw [tab_length, HRC.out, Nat.mul_comm]
  have gl := K2.out.lt
  have K0 := Lib.hid (K0.out.step hb)
  have K2 := Lib.hid (K2.out.step hb)
  have B := Lib.hid (stepB B.out hb)
  clear hb EQ
  obtain ⟨r0, r1, r2, -, -, -⟩ := K0.out.all
  obtain ⟨s0, s1, s2, t0, t1, t2⟩ := K2.out.all
  go_wp2_with fail
  obtain ⟨E0, E1, E2, -, -, -⟩ := (((K2.out.set0 (.int .i64 C)).set1 (.int .i64 R)).set2 (.slice (some ⟨w1.heap.size, 0, none⟩) N N)).all
  refine bodyPost_ret (v := .tuple #[.agg #[.int .i64 C, .int .i64 R, .slice (some ⟨w1.heap.size, 0, none⟩) N N], .bool true]) (by simp [results, Try.results35, go_sem, E0, E1, E2]) rfl ⟨_, rfl, ?_, ?_⟩
  · refine .inr ⟨w1.heap.size, N, by rw [HL.out], by omega, ?_, by rw [HL.out]; omega, by rw [HL.out]; omega⟩
    exact ((I2.out.far (by show w1.heap.size ≠ w.heap.size + 1; omega) _).far (by show w1.heap.size ≠ w.heap.size + 1; omega) _).far (by show w1.heap.size ≠ w.heap.size + 1; omega) _
  · exact ((B.out.setCell (Nat.le_succ _) _).setCell (Nat.le_succ _) _).setCell (Nat.le_succ _) _
theorem iTransp (r c : Int) (a : Option Addr) (m : Nat) (xs : List Int) (w : World) (h : Rd w a xs) (hn : xs.length ≤ 16777216) :
    Calls Try.prog 35 #[.agg #[.int .i64 r, .int .i64 c, .slice a xs.length m]] w (MatRes (turnM r c xs) w) := by
  rcases Bool.eq_false_or_eq_true (isMat r c xs) with hm | hm
  · obtain ⟨⟨r1, r2⟩, ⟨c1, c2⟩, -, -⟩ := isMat_says hm
    obtain ⟨R, rfl⟩ := Int.eq_ofNat_of_zero_le r1
    obtain ⟨C, rfl⟩ := Int.eq_ofNat_of_zero_le c1
    have E : turnM R C xs = ⟨true, C, R, turnL R C xs⟩ := by unfold turnM; rw [hm]; simp
    rw [E]
    exact iTurn_t R C a m xs w h hn hm
  · have E : Hid (turnM r c xs = MR.no) := by show turnM r c xs = _; unfold turnM; rw [hm]; rfl
    have M := Lib.hid hm
    clear hm
    have B0 : ∀ o1 o2, Below w.heap.size w ((w.alloc o1).alloc o2) := fun o1 o2 => ((Below.refl _ _).alloc (Nat.le_refl _) _).alloc (by simp) _
    have BH := Lib.hid B0
    have H := Lib.hid h
    clear B0 h
    go_enter Try.func35, Try.ntmps35
    go_wp2_with fail
    refine (iIsMat r c a m xs _ (H.out.below (BH.out (.cells #[.int .i64 r, .int .i64 c, .slice a xs.length m] 26) (.cells #[.int .i64 0, .int .i64 0, .slice none 0 0] 26))) hn).mono ?_
    rintro e w1 ⟨rfl, hb⟩
    have K0 : Hid (Blk3 w1 w.heap.size 26 (.int .i64 r) (.int .i64 c) (.slice a xs.length m)) := ((Blk3.at_ _ _ _ _ rfl).old _).keep hb (by simp <;> omega)
    have K2 : Hid (Blk3 w1 (w.heap.size + 1) 26 (.int .i64 0) (.int .i64 0) (.slice none 0 0)) := (Blk3.at_ _ _ _ _ (by simp)).keep hb (by simp)
    have B : Hid (Below w.heap.size w w1) := (BH.out _ _).trans (hb.mono (by simp <;> omega))
    clear hb
    obtain ⟨ca0, ca1, ca2, -, -, -⟩ := K0.out.all
    obtain ⟨cc0, cc1, cc2, ff0, ff1, ff2⟩ := K2.out.all
    rw [M.out]
    go_wp2_with fail
    obtain ⟨E0, E1, E2, -, -, -⟩ := (((K2.out.set0 (.int .i64 0)).set1 (.int .i64 0)).set2 (.slice none 0 0)).all
    rw [E.out]
    exact bodyPost_ret (v := .tuple #[.agg #[.int .i64 0, .int .i64 0, .slice none 0 0], .bool false]) (by simp [results, Try.results35, go_sem, E0, E1, E2]) rfl ⟨_, rfl, .inl ⟨rfl, rfl⟩, ((B.out.setCell (Nat.le_succ _) _).setCell (Nat.le_succ _) _).setCell (Nat.le_succ _) _⟩
end Go.Proofs.Ytpelnfenfeoeeaa
end

section
/-
  Chapter 13, in the program: a matrix on its way with the accounts of its rows and its columns, behind one pointer.
-/
namespace Go.Proofs.Ytpelnfenfeoeeaa
set_option maxRecDepth 100000
open Go.RowKit
def Blk9 (w : World) (b : Nat) (t : TypeId) (p1 p2 p3 q1 q2 q3 r1 r2 r3 : Value) : Prop := w.heap[b]? = some (.cells #[p1, p2, p3, q1, q2, q3, r1, r2, r3] t (0, 0))
section
variable {w w' : World} {b : Nat} {t : TypeId} {p1 p2 p3 q1 q2 q3 r1 r2 r3 x y v : Value}
theorem Blk9.lt (h : Blk9 w b t p1 p2 p3 q1 q2 q3 r1 r2 r3) : b < w.heap.size := lt_of_block h
theorem Blk9.free (h : Blk9 w b t p1 p2 p3 q1 q2 q3 r1 r2 r3) (o : Nat) : w.frozen? ⟨b, o, none⟩ = false := by unfold Blk9 at h; simp [World.frozen?, h]
theorem Blk9.all (h : Blk9 w b t p1 p2 p3 q1 q2 q3 r1 r2 r3) : w.cell? ⟨b, 0, none⟩ = some p1 ∧ w.cell? ⟨b, 1, none⟩ = some p2 ∧ w.cell? ⟨b, 2, none⟩ = some p3 ∧ w.cell? ⟨b, 3, none⟩ = some q1 ∧ w.cell? ⟨b, 4, none⟩ = some q2 ∧ w.cell? ⟨b, 5, none⟩ = some q3 ∧ w.cell? ⟨b, 6, none⟩ = some r1 ∧ w.cell? ⟨b, 7, none⟩ = some r2 ∧ w.cell? ⟨b, 8, none⟩ = some r3 := by
  unfold Blk9 at h
  simp [World.cell?, h]
theorem Blk9.move (h : Blk9 w b t p1 p2 p3 q1 q2 q3 r1 r2 r3) (e : w'.heap[b]? = w.heap[b]?) : Blk9 w' b t p1 p2 p3 q1 q2 q3 r1 r2 r3 := e.trans h
theorem Blk9.step (h : Blk9 w b t p1 p2 p3 q1 q2 q3 r1 r2 r3) (hb : Below w.heap.size w w') : Blk9 w' b t p1 p2 p3 q1 q2 q3 r1 r2 r3 := h.move (hb.block b h.lt)
theorem Blk9.at_ (t : TypeId) (p1 p2 p3 q1 q2 q3 r1 r2 r3 : Value) (hb : b = w.heap.size) : Blk9 (w.alloc (.cells #[p1, p2, p3, q1, q2, q3, r1, r2, r3] t)) b t p1 p2 p3 q1 q2 q3 r1 r2 r3 := by
  subst hb; unfold Blk9; show (w.heap.push _)[w.heap.size]? = _
  rw [Array.getElem?_push, if_pos rfl]
theorem Blk9.f (h : Blk9 w b t p1 p2 p3 q1 q2 q3 r1 r2 r3) : P3 w b 0 p1 p2 p3 := by
  obtain ⟨a1, a2, a3, -⟩ := h.all
  exact ⟨h.lt, a1, a2, a3, h.free _, h.free _, h.free _⟩
theorem Blk9.r (h : Blk9 w b t p1 p2 p3 q1 q2 q3 r1 r2 r3) : P3 w b 3 q1 q2 q3 := by
  obtain ⟨-, -, -, a1, a2, a3, -⟩ := h.all
  exact ⟨h.lt, a1, a2, a3, h.free _, h.free _, h.free _⟩
theorem Blk9.c (h : Blk9 w b t p1 p2 p3 q1 q2 q3 r1 r2 r3) : P3 w b 6 r1 r2 r3 := by
  obtain ⟨-, -, -, -, -, -, a1, a2, a3⟩ := h.all
  exact ⟨h.lt, a1, a2, a3, h.free _, h.free _, h.free _⟩
theorem cells_set {c : Array Value} {f : Nat × Nat} (h : w.heap[b]? = some (.cells c t f)) (o : Nat) (u : Value) : (w.setCell ⟨b, o, none⟩ u).heap[b]? = some (.cells (c.setIfInBounds o u) t f) := by
  have hlt := lt_of_block h
  have h' : w.heap[b] = .cells c t f := by simpa [Array.getElem?_eq_getElem hlt] using h
  show (w.heap.modify b _)[b]? = _
  rw [Array.getElem?_eq_getElem (by simpa using hlt), Array.getElem_modify_self, h']
  rfl
theorem Blk9.putF (h : Blk9 w b t p1 p2 p3 q1 q2 q3 r1 r2 r3) : Blk9 (put3 w b 0 x y v) b t x y v q1 q2 q3 r1 r2 r3 := cells_set (cells_set (cells_set h 0 x) 1 y) 2 v
theorem Blk9.putR (h : Blk9 w b t p1 p2 p3 q1 q2 q3 r1 r2 r3) : Blk9 (put3 w b 3 x y v) b t p1 p2 p3 x y v r1 r2 r3 := cells_set (cells_set (cells_set h 3 x) 4 y) 5 v
theorem Blk9.putC (h : Blk9 w b t p1 p2 p3 q1 q2 q3 r1 r2 r3) : Blk9 (put3 w b 6 x y v) b t p1 p2 p3 q1 q2 q3 x y v := cells_set (cells_set (cells_set h 6 x) 7 y) 8 v
theorem put3_far {o k : Nat} (h : k ≠ b) : (put3 w b o x y v).heap[k]? = w.heap[k]? := ((Below.heap_setCell _ ⟨b, o + 2, none⟩ v k h).trans (Below.heap_setCell _ ⟨b, o + 1, none⟩ y k h)).trans (Below.heap_setCell _ ⟨b, o, none⟩ x k h)
theorem put3_size {o : Nat} : (put3 w b o x y v).heap.size = w.heap.size := by simp [put3, World.setCell]
theorem Own.put {B o : Nat} {u : Value} {zs : List Int} (h : Own B w u zs) (hb : u.ownBlock ≠ some b) : Own B (put3 w b o x y v) u zs := h.moveA fun k hk => put3_far (fun e => hb (by rw [hk, e]))
theorem Own.ne9 {B : Nat} {u : Value} {zs : List Int} (h : Own B w u zs) (k : Blk9 w b 57 p1 p2 p3 q1 q2 q3 r1 r2 r3) : u.ownBlock ≠ some b := fun e => by
  rcases h with ⟨h2, -⟩ | ⟨g, cap, rfl, hB, ⟨rest, hg⟩, -⟩
  · rw [h2] at e; cases e
  · simp only [Value.ownBlock, Option.some.injEq] at e
    subst e
    unfold Blk9 at k
    rw [hg] at k
    injection k with k
    injection k with _ k2 _
    exact absurd k2 (by decide)
theorem Own.rdS {B n m : Nat} {q : Option Addr} {zs : List Int} (h : Own B w (.slice q n m) zs) : Rd w q zs := by
  rcases h with ⟨e, h0⟩ | ⟨g, c, e, -, hi, -⟩
  · rw [h0]; exact Rd.nil _ _
  · injection e with e1 _ _
    rw [e1]; exact hi.rd
end
theorem turn_col {k : Int} {I J : Nat} {z : Int} {R C : Nat} {xs : List Int} (hk : k = 0 ∨ k = 2) (hl : xs.length = R * C) (hI : I < C) (hJ : J < C) : opL k I J z R (turnL R C xs) = turnL R C (colL k I J z C xs) := by
  refine list_getD (by rw [opL_length, turnL_length, turnL_length]) fun p hp => ?_
  rw [opL_length, turnL_length] at hp
  have hR : 0 < R := by
    rcases Nat.eq_zero_or_pos R with e | e
    · rw [e, Nat.mul_zero] at hp; omega
    · exact e
  have hi : p % R < R := Nat.mod_lt p hR
  have hj : p / R < C := Nat.div_lt_of_lt_mul (by rw [Nat.mul_comm]; exact hp)
  have ep : p = p / R * R + p % R := place_split
  have hq : p % R * C + p / R < xs.length := by rw [hl]; exact idx_lt hi hj
  have e1 : (turnL R C (colL k I J z C xs)).getD p 0 = colAt k I J z C xs (p % R * C + p / R) := by
    rw [← colL_getD hq, ← turnL_at R C _ hi hj, ← ep]
  rw [e1, opL_getD (by rw [turnL_length]; exact hp)]
  have t0 : (turnL R C xs).getD p 0 = xs.getD (p % R * C + p / R) 0 := by rw [← turnL_at R C xs hi hj, ← ep]
  have t1 : ∀ j, j < C → (turnL R C xs).getD (j * R + p % R) 0 = xs.getD (p % R * C + j) 0 := fun j hj => turnL_at R C xs hi hj
  unfold opAt colAt
  rw [(place_div hj).1, (place_div hj).2]
  rcases hk with rfl | rfl
  · rw [if_pos rfl, if_pos rfl, t0, t1 I hI, t1 J hJ]
  · have a0 : ¬ (2 : Int) = 0 := by decide
    have a1 : ¬ (2 : Int) = 1 := by decide
    simp only [if_neg a0, if_neg a1]
    rw [t0, t1 J hJ]
theorem nums_turn {R C : Nat} {xs : List Int} (hl : xs.length = R * C) : nums (turnL R C xs) = nums xs := by
  have one : ∀ {R C : Nat} {xs : List Int}, nums xs = true → nums (turnL R C xs) = true := fun {R C xs} h => nums_true fun p hp => by
    rw [turnL_length] at hp
    have hR : 0 < R := by
      rcases Nat.eq_zero_or_pos R with e | e
      · rw [e, Nat.mul_zero] at hp; omega
      · exact e
    have e := turnL_at R C xs (Nat.mod_lt p hR) (j := p / R) (Nat.div_lt_of_lt_mul (by rw [Nat.mul_comm]; exact hp))
    rw [← place_split] at e
    rw [e]
    exact nums_def h _
  cases hx : nums xs with
  | true => exact one hx
  | false =>
    cases ht : nums (turnL R C xs) with
    | false => rfl
    | true =>
      have := one (R := C) (C := R) ht
      rw [turn_turn R C xs hl, hx] at this
      cases this
structure TsV (R C px B : Nat) (s : SSt) (qa qu qv : Option Addr) (ma mu mv : Nat) (w : World) : Prop where
  k : Blk9 w px 57 (.int .i64 R) (.int .i64 C) (.slice qa (R * C) ma) (.int .i64 R) (.int .i64 R) (.slice qu (R * R) mu) (.int .i64 C) (.int .i64 C) (.slice qv (C * C) mv)
  fA : Own B w (.slice qa (R * C) ma) s.1
  fU : Own B w (.slice qu (R * R) mu) s.2.1
  fV : Own B w (.slice qv (C * C) mv) (turnL C C s.2.2)
  df : ∀ k, (Value.slice qa (R * C) ma).ownBlock = some k → (Value.slice qu (R * R) mu).ownBlock ≠ some k
  siz : Siz3 R C s
  bB : B ≤ w.heap.size
def TsW (R C px B : Nat) (s : SSt) (w : World) : Prop := ∃ qa qu qv ma mu mv, TsV R C px B s qa qu qv ma mu mv w
section
variable {R C px B : Nat} {s : SSt} {qa qu qv : Option Addr} {ma mu mv : Nat} {w w' w1 : World}
theorem TsV.step (h : TsV R C px B s qa qu qv ma mu mv w) (hb : Below w.heap.size w w') : TsV R C px B s qa qu qv ma mu mv w' :=
  ⟨h.k.step hb, h.fA.keep hb, h.fU.keep hb, h.fV.keep hb, h.df, h.siz, Nat.le_trans h.bB hb.size⟩
theorem TsW.step (h : TsW R C px B s w) (hb : Below w.heap.size w w') : TsW R C px B s w' := by
  obtain ⟨qa, qu, qv, ma, mu, mv, h⟩ := h
  exact ⟨qa, qu, qv, ma, mu, mv, h.step hb⟩
theorem TsW.lt (h : TsW R C px B s w) : px < w.heap.size := by
  obtain ⟨qa, qu, qv, ma, mu, mv, h⟩ := h
  exact h.k.lt
theorem TsW.siz (h : TsW R C px B s w) : Siz3 R C s := by
  obtain ⟨qa, qu, qv, ma, mu, mv, h⟩ := h
  exact h.siz
theorem TsV.putF (h : TsV R C px B s qa qu qv ma mu mv w) (hb : Below w.heap.size w w1) {q : Option Addr} {m : Nat} {zs : List Int} (ho : Own w.heap.size w1 (.slice q (R * C) m) zs) (hs : Siz3 R C (zs, s.2.1, s.2.2)) :
    TsW R C px B (zs, s.2.1, s.2.2) (put3 w1 px 0 (.int .i64 R) (.int .i64 C) (.slice q (R * C) m)) := by
  have h1 := h.step hb
  have l1 := h.k.lt
  have ob : (Value.slice q (R * C) m).ownBlock ≠ some px := fun e => by have := ho.lt_of e; omega
  refine ⟨q, qu, qv, m, mu, mv, h1.k.putF, (ho.put ob).le h.bB, h1.fU.put (h1.fU.ne9 h1.k), h1.fV.put (h1.fV.ne9 h1.k), fun k hk e => ?_, hs, by rw [put3_size]; exact h1.bB⟩
  have a1 := ho.lt_of hk
  have a2 := h.fU.lt_of e
  omega
theorem TsV.putR (h : TsV R C px B s qa qu qv ma mu mv w) (hb : Below w.heap.size w w1) {q : Option Addr} {m : Nat} {zs : List Int} (ho : Own w.heap.size w1 (.slice q (R * R) m) zs) (hs : Siz3 R C (s.1, zs, s.2.2)) :
    TsW R C px B (s.1, zs, s.2.2) (put3 w1 px 3 (.int .i64 R) (.int .i64 R) (.slice q (R * R) m)) := by
  have h1 := h.step hb
  have l1 := h.k.lt
  have ob : (Value.slice q (R * R) m).ownBlock ≠ some px := fun e => by have := ho.lt_of e; omega
  refine ⟨qa, q, qv, ma, m, mv, h1.k.putR, h1.fA.put (h1.fA.ne9 h1.k), (ho.put ob).le h.bB, h1.fV.put (h1.fV.ne9 h1.k), fun k hk e => ?_, hs, by rw [put3_size]; exact h1.bB⟩
  have a1 := ho.lt_of e
  have a2 := h.fA.lt_of hk
  omega
theorem TsV.putC (h : TsV R C px B s qa qu qv ma mu mv w) (hb : Below w.heap.size w w1) {q : Option Addr} {m : Nat} {zs : List Int} (ho : Own w.heap.size w1 (.slice q (C * C) m) (turnL C C zs)) (hs : Siz3 R C (s.1, s.2.1, zs)) :
    TsW R C px B (s.1, s.2.1, zs) (put3 w1 px 6 (.int .i64 C) (.int .i64 C) (.slice q (C * C) m)) := by
  have h1 := h.step hb
  have l1 := h.k.lt
  have ob : (Value.slice q (C * C) m).ownBlock ≠ some px := fun e => by have := ho.lt_of e; omega
  exact ⟨qa, qu, q, ma, mu, m, h1.k.putC, h1.fA.put (h1.fA.ne9 h1.k), h1.fU.put (h1.fU.ne9 h1.k), (ho.put ob).le h.bB, h1.df, hs, by rw [put3_size]; exact h1.bB⟩
end
end Go.Proofs.Ytpelnfenfeoeeaa
end
