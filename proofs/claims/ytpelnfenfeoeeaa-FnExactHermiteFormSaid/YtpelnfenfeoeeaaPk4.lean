/-
  Texts of this seat, joined: HmG · HmH · RgT · RgP · NumMath · NumAbs · HmS · NumGcdS · MatI · RwI · CelA
-/
import Derived.Test.YtpelnfenfeoeeaaProg
import Derived.OrdersHeld
import Derived.RegionTactic
import Derived.Deep.RegionHeld
import Derived.WalkKit
import Derived.Test.YtpelnfenfeoeeaaRows
import Derived.BigQuiet
import Derived.Deep.QuietTactic
import Derived.Lib.Hide
import Derived.Deep.DeepCutAuto
import Derived.IntWalk
import Derived.Test.YtpelnfenfeoeeaaPk1
import Derived.Test.YtpelnfenfeoeeaaPk2
import Derived.Test.YtpelnfenfeoeeaaPk3

section
/-
  Plain mathematics of chapter 12: the whole of the work towards a Hermite form, and what it ends in. Nothing of a program is used.
-/
namespace Go.Proofs.Ytpelnfenfeoeeaa

/-! ### The rounds of a column -/
def aloneB (R C p j t : Nat) (s : HSt) : Bool := (List.range R).all fun i => decide (i < t ∨ i = p ∨ celS C s i j = 0)
theorem aloneB_says {R C p j t : Nat} {s : HSt} (h : aloneB R C p j t s = true) {i : Nat} (hi : i < R) (ht : t ≤ i) (hne : i ≠ p) : celS C s i j = 0 := by
  unfold aloneB at h
  rw [List.all_eq_true] at h
  have := h i (List.mem_range.mpr hi)
  rw [decide_eq_true_eq] at this
  rcases this with h1 | h1 | h1
  · omega
  · exact absurd h1 hne
  · exact h1
theorem aloneB_true {R C p j t : Nat} {s : HSt} (h : ∀ i, i < R → t ≤ i → i ≠ p → celS C s i j = 0) : aloneB R C p j t s = true := by
  unfold aloneB
  rw [List.all_eq_true]
  intro i hi
  rw [decide_eq_true_eq]
  rcases Nat.lt_or_ge i t with h1 | h1
  · exact .inl h1
  · by_cases h2 : i = p
    · exact .inr (.inl h2)
    · exact .inr (.inr (h i (List.mem_range.mp hi) h1 h2))
theorem aloneB_false {R C p j t : Nat} {s : HSt} {i : Nat} (hi : i < R) (ht : t ≤ i) (hne : i ≠ p) (hz : celS C s i j ≠ 0) : aloneB R C p j t s = false := by
  cases h : aloneB R C p j t s with
  | false => rfl
  | true => exact absurd (aloneB_says h hi ht hne) hz
def leastS (R C j t : Nat) (s : HSt) : Int := leastF (fun i => celS C s i j) t (R - t)
/-- A row that is least. -/
def LeastP (R C j t : Nat) (s : HSt) (p : Nat) : Prop := leastS R C j t s = (p : Int) ∧ t ≤ p ∧ p < R ∧ celS C s p j ≠ 0 ∧ ∀ i, t ≤ i → i < R → celS C s i j ≠ 0 → (celS C s p j).natAbs ≤ (celS C s i j).natAbs
theorem leastS_says (R C j t : Nat) (s : HSt) (ht : t ≤ R) : (leastS R C j t s = -1 ∧ ∀ i, t ≤ i → i < R → celS C s i j = 0) ∨ ∃ p, LeastP R C j t s p := by
  rcases leastF_says (fun i => celS C s i j) t (R - t) with ⟨h1, h2⟩ | ⟨p, h1, h2, h3, h4, h5⟩
  · exact .inl ⟨h1, fun i a b => h2 i a (by omega)⟩
  · exact .inr ⟨p, h1, h2, by omega, h4, fun i a b hne => h5 i a (by omega) hne⟩
def rndA (R C p j t : Nat) (s : HSt) : HSt := rndF R C p j t s (R - t)
def loopF (R C j t : Nat) : Nat → HSt → Nat → Option (HSt × Nat)
  | 0, _, _ => none
  | f + 1, s, p => if aloneB R C p j t s = true then some (s, p) else if okS (rndA R C p j t s) = true then loopF R C j t f (rndA R C p j t s) (leastS R C j t (rndA R C p j t s)).toNat else none
/-- There is enough left to count. -/
def Fuel (R C j t f : Nat) (s : HSt) (p : Nat) : Prop := 1 ≤ f ∧ (aloneB R C p j t s = true ∨ (celS C s p j).natAbs < f)
theorem Fuel.start (R C j t : Nat) (s : HSt) (p : Nat) : Fuel R C j t ((celS C s p j).natAbs + 1) s p := ⟨by omega, .inr (by omega)⟩
theorem loopF_alone {R C j t f : Nat} {s : HSt} {p : Nat} (hf : 1 ≤ f) (h : aloneB R C p j t s = true) : loopF R C j t f s p = some (s, p) := by
  obtain ⟨f, rfl⟩ : ∃ g, f = g + 1 := ⟨f - 1, by omega⟩
  exact if_pos h
theorem loopF_bad {R C j t f : Nat} {s : HSt} {p : Nat} (h : aloneB R C p j t s = false) (ho : okS (rndA R C p j t s) = false) : loopF R C j t f s p = none := by
  rcases f with _ | f
  · rfl
  · show (if _ then _ else _) = _
    rw [if_neg (by rw [h]; decide), if_neg (by rw [ho]; decide)]
theorem loopF_step {R C j t f : Nat} {s : HSt} {p p' : Nat} (h : aloneB R C p j t s = false) (ho : okS (rndA R C p j t s) = true) (hp : leastS R C j t (rndA R C p j t s) = (p' : Int)) : loopF R C j t (f + 1) s p = loopF R C j t f (rndA R C p j t s) p' := by
  show (if _ then _ else _) = _
  rw [if_neg (by rw [h]; decide), if_pos ho, hp]; rfl
section
variable {R C j t : Nat} {M : Mx} {s : HSt} {q : Nat → Nat}
/-- One round more. -/
theorem loop_next {p f : Nat} (hF : Fin2 R C M s) (hI : HInv R C (mxC C s.1) q t j) (hj : j < C) (hp : p < R) (htp : t ≤ p) (hpz : celS C s p j ≠ 0) (ha : aloneB R C p j t s = false) (hfu : Fuel R C j t (f + 1) s p) (ho : okS (rndA R C p j t s) = true) :
    Fin2 R C M (rndA R C p j t s) ∧ HInv R C (mxC C (rndA R C p j t s).1) q t j ∧ ∃ p', LeastP R C j t (rndA R C p j t s) p' ∧ Fuel R C j t f (rndA R C p j t s) p' := by
  obtain ⟨g1, g2, g3, -, g5⟩ := rndF_says hF hI hj hp htp hpz (R - t) (by omega) ho
  change Fin2 R C M (rndA R C p j t s) at g1
  change celS C (rndA R C p j t s) p j = _ at g3
  have g5 : ∀ i, t ≤ i → i < R → i ≠ p → 0 ≤ celS C (rndA R C p j t s) i j ∧ celS C (rndA R C p j t s) i j < ((celS C s p j).natAbs : Int) := fun i h1 h2 h3 => g5 i h1 (by omega) h3
  refine ⟨g1, g2, ?_⟩
  have hfu : (celS C s p j).natAbs < f + 1 := by
    rcases hfu.2 with h | h
    · rw [h] at ha; cases ha
    · exact h
  generalize rndA R C p j t s = u at g1 g3 g5 ⊢
  rcases leastS_says R C j t u (by omega) with ⟨h1, h2⟩ | ⟨p', hL⟩
  · exact absurd (h2 p htp hp) (by rw [g3]; exact hpz)
  · refine ⟨p', hL, by omega, ?_⟩
    obtain ⟨-, l2, l3, l4, l5⟩ := hL
    rcases Bool.eq_false_or_eq_true (aloneB R C p' j t u) with hb | hb
    · exact .inl hb
    · refine .inr ?_
      by_cases e : p' = p
      · subst e
        refine absurd hb ?_
        rw [aloneB_true fun i hi hti hne => Classical.byContradiction fun hz => ?_]
        · decide
        · have a := g5 i hti hi hne
          have b := l5 i hti hi hz
          rw [g3] at b
          omega
      · have a := g5 p' l2 l3 e
        omega
theorem loopF_says (hj : j < C) : ∀ (f : Nat) (s : HSt) (p : Nat) {s' : HSt} {p' : Nat}, Fin2 R C M s → HInv R C (mxC C s.1) q t j → p < R → t ≤ p → celS C s p j ≠ 0 → loopF R C j t f s p = some (s', p') →
    Fin2 R C M s' ∧ HInv R C (mxC C s'.1) q t j ∧ p' < R ∧ t ≤ p' ∧ celS C s' p' j ≠ 0 ∧ aloneB R C p' j t s' = true
  | 0, _, _, _, _, _, _, _, _, _, h => by cases h
  | f + 1, s, p, s', p', hF, hI, hp, htp, hpz, h => by
    rcases Bool.eq_false_or_eq_true (aloneB R C p j t s) with ha | ha
    · rw [loopF_alone (by omega) ha] at h
      cases h
      exact ⟨hF, hI, hp, htp, hpz, ha⟩
    · rcases Bool.eq_false_or_eq_true (okS (rndA R C p j t s)) with ho | ho
      · obtain ⟨g1, g2, g3, -, -⟩ := rndF_says hF hI hj hp htp hpz (R - t) (by omega) ho
        rcases leastS_says R C j t (rndA R C p j t s) (by omega) with ⟨h1, h2⟩ | ⟨p2, hL⟩
        · exact absurd (h2 p htp hp) (by show celS C (rndF R C p j t s (R - t)) p j ≠ 0; rw [g3]; exact hpz)
        · rw [loopF_step ha ho hL.1] at h
          exact loopF_says hj f (rndA R C p j t s) p2 g1 g2 hL.2.2.1 hL.2.1 hL.2.2.2.1 h
      · rw [loopF_bad ha ho] at h; cases h

/-! ### The pivot's row -/
def swS (R C p t : Nat) (s : HSt) : HSt := if p ≠ t then op2 R C 0 p t 0 s else s
def ngS (R C j t : Nat) (s : HSt) : HSt := if celS C s t j < 0 then op2 R C 1 t t 0 s else s
def upF (R C j t : Nat) (s : HSt) : Nat → HSt
  | 0 => s
  | n + 1 => op2 R C 2 n t (-(celS C (upF R C j t s n) n j / celS C (upF R C j t s n) t j)) (upF R C j t s n)
theorem swS_siz {p : Nat} (h : Siz R C s) : Siz R C (swS R C p t s) := by
  unfold swS; split
  · exact h.op _ _ _ _
  · exact h
theorem ngS_siz (h : Siz R C s) : Siz R C (ngS R C j t s) := by
  unfold ngS; split
  · exact h.op _ _ _ _
  · exact h
theorem upF_siz (h : Siz R C s) : ∀ n, Siz R C (upF R C j t s n)
  | 0 => h
  | n + 1 => (upF_siz h n).op _ _ _ _
theorem upF_back (h : Siz R C s) (ht : t < R) : ∀ n, n ≤ R → okS (upF R C j t s n) = true → okS s = true
  | 0, _, ho => ho
  | n + 1, hn, ho => upF_back h ht n (by omega) (okS_back (upF_siz h n) (by omega) ht ho)
theorem ngS_back (h : Siz R C s) (ht : t < R) (ho : okS (ngS R C j t s) = true) : okS s = true := by
  unfold ngS at ho
  split at ho
  · exact okS_back h ht ht ho
  · exact ho
theorem swS_back {p : Nat} (h : Siz R C s) (ht : t < R) (hp : p < R) (ho : okS (swS R C p t s) = true) : okS s = true := by
  unfold swS at ho
  split at ho
  · exact okS_back h hp ht ho
  · exact ho
theorem swS_says {p : Nat} (hF : Fin2 R C M s) (hI : HInv R C (mxC C s.1) q t j) (hj : j < C) (hp : p < R) (htp : t ≤ p) (hpz : celS C s p j ≠ 0) (ha : aloneB R C p j t s = true) (ho : okS (swS R C p t s) = true) :
    Fin2 R C M (swS R C p t s) ∧ HInv R C (mxC C (swS R C p t s).1) q t j ∧ celS C (swS R C p t s) t j ≠ 0 ∧ ∀ i, t < i → i < R → celS C (swS R C p t s) i j = 0 := by
  by_cases e : p = t
  · have es : swS R C p t s = s := by unfold swS; rw [if_neg (fun h => h e)]
    rw [es]
    subst e
    exact ⟨hF, hI, hpz, fun i h1 h2 => aloneB_says ha h2 (by omega) (by omega)⟩
  · have es : swS R C p t s = op2 R C 0 p t 0 s := by unfold swS; rw [if_pos e]
    rw [es] at ho ⊢
    obtain ⟨k1, k2⟩ := hF.op (.inl rfl) hp (by omega) (fun _ => e) (by decide) ho
    refine ⟨k1, (hI.opSwap htp hp (Nat.le_refl _) (by omega)).congr fun i b hi hb => k2 i b hi (by omega), ?_, fun i h1 h2 => ?_⟩
    · rw [k2 t j (by omega) hj]
      unfold opX
      rw [if_pos rfl, if_neg (Ne.symm e), if_pos rfl]; exact hpz
    · rw [k2 i j h2 hj]
      unfold opX
      rw [if_pos rfl]
      by_cases e2 : i = p
      · rw [if_pos e2]; exact aloneB_says ha (by omega) (Nat.le_refl _) (Ne.symm e)
      · rw [if_neg e2, if_neg (by omega)]; exact aloneB_says ha h2 (by omega) e2
theorem ngS_says (hF : Fin2 R C M s) (hI : HInv R C (mxC C s.1) q t j) (hj : j < C) (ht : t < R) (hpz : celS C s t j ≠ 0) (hz : ∀ i, t < i → i < R → celS C s i j = 0) (ho : okS (ngS R C j t s) = true) :
    Fin2 R C M (ngS R C j t s) ∧ HInv R C (mxC C (ngS R C j t s).1) q t j ∧ 0 < celS C (ngS R C j t s) t j ∧ ∀ i, t < i → i < R → celS C (ngS R C j t s) i j = 0 := by
  by_cases e : celS C s t j < 0
  · have es : ngS R C j t s = op2 R C 1 t t 0 s := by unfold ngS; rw [if_pos e]
    rw [es] at ho ⊢
    obtain ⟨k1, k2⟩ := hF.op (.inr (.inl rfl)) ht ht (fun h => absurd rfl h) (by decide) ho
    refine ⟨k1, (hI.opNeg (z := 0) (J := t) (Nat.le_refl _) ht).congr fun i b hi hb => k2 i b hi (by omega), ?_, fun i h1 h2 => ?_⟩
    · rw [k2 t j ht hj]
      unfold opX
      rw [if_neg (by decide), if_pos rfl, if_pos rfl]
      change 0 < - celS C s t j
      omega
    · rw [k2 i j h2 hj]
      unfold opX
      rw [if_neg (by decide), if_pos rfl, if_neg (by omega)]; exact hz i h1 h2
  · have es : ngS R C j t s = s := by unfold ngS; rw [if_neg e]
    rw [es]
    exact ⟨hF, hI, by omega, hz⟩
theorem upF_says (hF : Fin2 R C M s) (hI : HInv R C (mxC C s.1) q t j) (hj : j < C) (ht : t < R) (hp : 0 < celS C s t j) : ∀ n, n ≤ t → okS (upF R C j t s n) = true →
    Fin2 R C M (upF R C j t s n) ∧ HInv R C (mxC C (upF R C j t s n).1) q t j ∧ (∀ i, n ≤ i → i < R → celS C (upF R C j t s n) i j = celS C s i j) ∧ ∀ i, i < n → 0 ≤ celS C (upF R C j t s n) i j ∧ celS C (upF R C j t s n) i j < celS C s t j
  | 0, _, _ => ⟨hF, hI, fun _ _ _ => rfl, fun i hi => by omega⟩
  | n + 1, hn, ho => by
    obtain ⟨g1, g2, g3, g4⟩ := upF_says hF hI hj ht hp n (by omega) (okS_back (upF_siz hF.siz n) (by omega) ht ho)
    have et := g3 t (by omega) ht
    have hy : celS C (upF R C j t s n) t j ≠ 0 := by rw [et]; omega
    obtain ⟨k1, k2⟩ := g1.op (.inr (.inr rfl)) (by omega : n < R) ht (fun _ => by omega) (quot_num (g1.num n j) hy) ho
    have ql := quot_left (x := celS C (upF R C j t s n) n j) hy
    have ce : ∀ i b, i < R → b < C → i ≠ n → celS C (upF R C j t s (n + 1)) i b = celS C (upF R C j t s n) i b := fun i b hi hb hne => by
      refine (k2 i b hi hb).trans ?_
      unfold opX
      rw [if_neg (by decide), if_neg (by decide), if_neg hne]; rfl
    have cn : celS C (upF R C j t s (n + 1)) n j = celS C (upF R C j t s n) n j % celS C (upF R C j t s n) t j := by
      refine (k2 n j (by omega) hj).trans ?_
      rw [← ql.1]
      unfold opX
      rw [if_neg (by decide), if_neg (by decide), if_pos rfl]; rfl
    refine ⟨k1, (g2.opAdd (Nat.le_refl _) ht).congr fun i b hi hb => k2 i b hi (by omega), fun i h1 h2 => by rw [ce i j h2 hj (by omega)]; exact g3 i (by omega) h2, fun i hi => ?_⟩
    rcases Nat.lt_or_ge i n with h4 | h4
    · rw [ce i j (by omega) hj (by omega)]; exact g4 i h4
    · obtain rfl : i = n := by omega
      rw [cn]
      rw [et] at ql ⊢
      omega

/-! ### A column, and all of them -/
def pvS (R C j t p : Nat) (s : HSt) : HSt := upF R C j t (ngS R C j t (swS R C p t s)) t
def colF (R C j t : Nat) (s : HSt) : Option (HSt × Nat) :=
  if leastS R C j t s < 0 then some (s, t)
  else match loopF R C j t ((celS C s (leastS R C j t s).toNat j).natAbs + 1) s (leastS R C j t s).toNat with
    | none => none
    | some (s1, p) => if okS (pvS R C j t p s1) = true then some (pvS R C j t p s1, t + 1) else none
theorem colF_says {s' : HSt} {t' : Nat} (hF : Fin2 R C M s) (hI : HInv R C (mxC C s.1) q t j) (hj : j < C) (ht : t < R) (h : colF R C j t s = some (s', t')) : Fin2 R C M s' ∧ ∃ q', HInv R C (mxC C s'.1) q' t' (j + 1) := by
  unfold colF at h
  rcases leastS_says R C j t s (by omega) with ⟨h1, h2⟩ | ⟨p, hL⟩
  · rw [if_pos (by omega)] at h
    cases h
    exact ⟨hF, q, hI.skip hj h2⟩
  · have e : (leastS R C j t s).toNat = p := by have := hL.1; omega
    rw [if_neg (by have := hL.1; omega), e] at h
    cases hl : loopF R C j t ((celS C s p j).natAbs + 1) s p with
    | none => rw [hl] at h; cases h
    | some z =>
      obtain ⟨s1, p1⟩ := z
      rw [hl] at h
      dsimp only at h
      obtain ⟨f1, i1, a1, a2, a3, a4⟩ := loopF_says hj _ s p hF hI hL.2.2.1 hL.2.1 hL.2.2.2.1 hl
      by_cases ho : okS (pvS R C j t p1 s1) = true
      · rw [if_pos ho] at h
        cases h
        have o2 := upF_back (ngS_siz (swS_siz f1.siz)) ht t (by omega) ho
        have o1 := ngS_back (swS_siz f1.siz) ht o2
        obtain ⟨f2, i2, b1, b2⟩ := swS_says f1 i1 hj a1 a2 a3 a4 o1
        obtain ⟨f3, i3, c1, c2⟩ := ngS_says f2 i2 hj ht b1 b2 o2
        obtain ⟨f4, i4, d1, d2⟩ := upF_says f3 i3 hj ht c1 t (Nat.le_refl _) ho
        have et := d1 t (Nat.le_refl _) ht
        refine ⟨f4, _, i4.put hj ht (by change 0 < celS C (pvS R C j t p1 s1) t j; unfold pvS; rw [et]; exact c1) (fun i h1 h2 => (d1 i (by omega) h2).trans (c2 i h1 h2)) fun i hi => ?_⟩
        have := d2 i hi
        refine ⟨this.1, ?_⟩
        change celS C (upF R C j t (ngS R C j t (swS R C p1 t s1)) t) i j < celS C (upF R C j t (ngS R C j t (swS R C p1 t s1)) t) t j
        rw [et]; exact this.2
      · rw [if_neg ho] at h; cases h
end
def allF (R C : Nat) : Nat → Nat → Nat → HSt → Option HSt
  | 0, _, _, s => some s
  | n + 1, j, t, s => if t < R then (match colF R C j t s with | none => none | some (s', t') => allF R C n (j + 1) t' s') else some s
theorem allF_says {R C : Nat} {M : Mx} : ∀ (n j t : Nat) (s : HSt) {s' : HSt} {q : Nat → Nat}, j + n = C → Fin2 R C M s → HInv R C (mxC C s.1) q t j → allF R C n j t s = some s' → Fin2 R C M s' ∧ ∃ q' t', HerP R C (mxC C s'.1) q' t'
  | 0, j, t, s, s', q, hn, hF, hI, h => by
    cases h
    exact ⟨hF, q, t, hI.done (.inr (by omega))⟩
  | n + 1, j, t, s, s', q, hn, hF, hI, h => by
    by_cases ht : t < R
    · have e : allF R C (n + 1) j t s = (match colF R C j t s with | none => none | some (s', t') => allF R C n (j + 1) t' s') := if_pos ht
      rw [e] at h
      cases hc : colF R C j t s with
      | none => rw [hc] at h; cases h
      | some z =>
        obtain ⟨s1, t1⟩ := z
        rw [hc] at h
        obtain ⟨f1, q1, i1⟩ := colF_says hF hI (by omega) ht hc
        exact allF_says n (j + 1) t1 s1 (by omega) f1 i1 h
    · have e : allF R C (n + 1) j t s = some s := if_neg ht
      rw [e] at h
      cases h
      have := hI.le
      exact ⟨hF, q, t, hI.done (.inl (by omega))⟩
/-- What HermiteForm finds. -/
def herX (R C : Nat) (xs : List Int) : Option HSt := allF R C C 0 0 (xs, idL R R)
theorem herX_says {R C : Nat} {xs : List Int} {s : HSt} (hl : xs.length = R * C) (hn : nums xs = true) (h : herX R C xs = some s) : Fin2 R C (mxC C xs) s ∧ ∃ q t, HerP R C (mxC C s.1) q t := by
  refine allF_says C 0 0 (xs, idL R R) (q := fun _ => 0) (by omega) ⟨⟨hl, idL_length R R, MkOr.of_nums hn, MkOr.of_nums (idL_nums R)⟩, ?_, ?_⟩ (HInv.start _ _ _ _) h
  · unfold okS; rw [hn, idL_nums]; rfl
  · exact (Acc.start R C (mxC C xs)).congr (mxL_idL R).symm fun _ _ _ _ => rfl
/-- Matrices that span one lattice have one Hermite form. -/
theorem herX_uniq {R C : Nat} {xs ys : List Int} {s s' : HSt} (hl : xs.length = R * C) (hn : nums xs = true) (h : herX R C xs = some s) (hl' : ys.length = R * C) (hn' : nums ys = true) (h' : herX R C ys = some s') (h1 : SubL R R C (mxC C xs) (mxC C ys)) (h2 : SubL R R C (mxC C ys) (mxC C xs)) : s.1 = s'.1 := by
  obtain ⟨f1, q, t, a1⟩ := herX_says hl hn h
  obtain ⟨f2, q', t', a2⟩ := herX_says hl' hn' h'
  obtain ⟨-, e⟩ := f1.acc.uniq f2.acc a1 a2 h1 h2
  have e1 : s.1 = tab R C (mxC C s'.1) := tab_ext f1.siz.l1 fun i j hi hj => e i j hi hj
  have e2 : s'.1 = tab R C (mxC C s'.1) := tab_ext f2.siz.l1 fun i j hi hj => rfl
  rw [e1, ← e2]
end Go.Proofs.Ytpelnfenfeoeeaa
end

section
/-
  Plain mathematics of chapter 12: a Hermite form is its own; what the law of Hermite forms says. Nothing of a program is used.
-/
namespace Go.Proofs.Ytpelnfenfeoeeaa

theorem opL_none {I J C : Nat} {xs : List Int} (h : nums xs = true) : opL 2 I J 0 C xs = xs := by
  refine list_getD (opL_length _ _ _ _ _ _) fun p hp => ?_
  rw [opL_length] at hp
  rw [opL_getD hp]
  unfold opAt
  rw [if_neg (by decide), if_neg (by decide)]
  split
  · rw [mulB_num (nums_def h _) (by decide), Int.mul_zero, fitB_num (by decide), addB_num (nums_def h _) (by decide), Int.add_zero, fitB_num (nums_def h _)]
  · rfl
theorem op2_none {R C I J : Nat} {s : HSt} (h : okS s = true) : op2 R C 2 I J 0 s = s := by
  obtain ⟨a, b⟩ := okS_and h
  unfold op2
  rw [opL_none a, opL_none b]
section
variable {R C j t : Nat} {s : HSt}
theorem upF_fix (ho : okS s = true) (h : ∀ i, i < t → 0 ≤ celS C s i j ∧ celS C s i j < celS C s t j) : ∀ n, n ≤ t → upF R C j t s n = s
  | 0, _ => rfl
  | n + 1, hn => by
    have e := upF_fix ho h n (by omega)
    show op2 R C 2 n t (-(celS C (upF R C j t s n) n j / celS C (upF R C j t s n) t j)) (upF R C j t s n) = s
    rw [e]
    have := h n (by omega)
    rw [Int.ediv_eq_zero_of_lt this.1 this.2, Int.neg_zero, op2_none ho]
theorem colF_fix (ht : t < R) (ho : okS s = true) (hp : 0 < celS C s t j) (hz : ∀ i, t < i → i < R → celS C s i j = 0) (ha : ∀ i, i < t → 0 ≤ celS C s i j ∧ celS C s i j < celS C s t j) : colF R C j t s = some (s, t + 1) := by
  have hl : leastS R C j t s = (t : Int) := by
    rcases leastS_says R C j t s (by omega) with ⟨-, h2⟩ | ⟨p, h1, h2, h3, h4, -⟩
    · have := h2 t (Nat.le_refl _) ht; omega
    · rcases Nat.lt_or_ge t p with h5 | h5
      · exact absurd (hz p h5 h3) h4
      · rw [h1, show p = t by omega]
  have al : aloneB R C t j t s = true := aloneB_true fun i hi hti hne => hz i (by omega) hi
  have e1 : pvS R C j t t s = s := by
    have a1 : swS R C t t s = s := by unfold swS; rw [if_neg (fun h => h rfl)]
    have a2 : ngS R C j t s = s := by unfold ngS; rw [if_neg (by omega)]
    unfold pvS
    rw [a1, a2]
    exact upF_fix ho ha t (Nat.le_refl _)
  unfold colF
  rw [if_neg (by omega), hl, show ((t : Int)).toNat = t from rfl, loopF_alone (by omega) al]
  dsimp only
  rw [e1, if_pos ho]
theorem colF_skip (ht : t < R) (hz : ∀ i, t ≤ i → i < R → celS C s i j = 0) : colF R C j t s = some (s, t) := by
  unfold colF
  rcases leastS_says R C j t s (by omega) with ⟨h1, -⟩ | ⟨p, h1, h2, h3, h4, -⟩
  · rw [if_pos (by omega)]
  · exact absurd (hz p h2 h3) h4
theorem allF_fix {q : Nat → Nat} {T : Nat} (ho : okS s = true) (h : HerP R C (mxC C s.1) q T) : ∀ n j t, j + n = C → t ≤ T → (∀ k, k < t → q k < j) → (t < T → j ≤ q t) → allF R C n j t s = some s
  | 0, _, _, _, _, _, _ => rfl
  | n + 1, j, t, hn, ht, h1, h2 => by
    by_cases hR : t < R
    · have e : allF R C (n + 1) j t s = (match colF R C j t s with | none => none | some (s', t') => allF R C n (j + 1) t' s') := if_pos hR
      rw [e]
      by_cases hq : t < T ∧ q t = j
      · obtain ⟨hT, hq⟩ := hq
        have a1 : 0 < celS C s t j := by have := h.pos t hT; rw [hq] at this; exact this
        have a2 : ∀ i, t < i → i < R → celS C s i j = 0 := fun i hi hiR => by
          rcases Nat.lt_or_ge i T with h5 | h5
          · exact h.left i j h5 (by have := h.inc t i hi h5; omega)
          · exact h.rest i j h5 hiR (by omega)
        have a3 : ∀ i, i < t → 0 ≤ celS C s i j ∧ celS C s i j < celS C s t j := fun i hi => by have := h.above t i hT hi; rw [hq] at this; exact this
        rw [colF_fix hR ho a1 a2 a3]
        refine allF_fix ho h n (j + 1) (t + 1) (by omega) hT (fun k hk => ?_) fun hk => ?_
        · rcases Nat.lt_or_ge k t with h5 | h5
          · have := h1 k h5; omega
          · obtain rfl : k = t := by omega
            omega
        · have := h.inc t (t + 1) (by omega) hk; omega
      · have a2 : ∀ i, t ≤ i → i < R → celS C s i j = 0 := fun i hi hiR => by
          rcases Nat.lt_or_ge i T with h5 | h5
          · refine h.left i j h5 ?_
            have a := h2 (by omega)
            have b := h.mono hi h5
            have : q t ≠ j := fun e => hq ⟨by omega, e⟩
            omega
          · exact h.rest i j h5 hiR (by omega)
        rw [colF_skip hR a2]
        refine allF_fix ho h n (j + 1) t (by omega) ht (fun k hk => by have := h1 k hk; omega) fun hk => ?_
        have a := h2 hk
        have : q t ≠ j := fun e => hq ⟨hk, e⟩
        omega
    · exact if_neg hR
end
/-- A Hermite form is its own Hermite form. -/
theorem herX_fix {R C : Nat} {xs : List Int} {q : Nat → Nat} {T : Nat} (hn : nums xs = true) (h : HerP R C (mxC C xs) q T) : herX R C xs = some (xs, idL R R) :=
  allF_fix (s := (xs, idL R R)) (by unfold okS; rw [hn, idL_nums]; rfl) h C 0 0 (by omega) (Nat.zero_le _) (fun k hk => by omega) fun _ => Nat.zero_le _
/-- The first part of the law: the account times the matrix is the form. -/
theorem herX_prod {R C : Nat} {xs : List Int} {s : HSt} (hl : xs.length = R * C) (hn : nums xs = true) (h : herX R C xs = some s) : mulL R R C s.2 xs = s.1 := by
  obtain ⟨f, -⟩ := herX_says hl hn h
  have e1 : s.1 = tab R C (mxC C s.1) := tab_ext f.siz.l1 fun i j hi hj => rfl
  rw [e1]
  refine tab_ext (mulL_length _ _ _ _ _) fun i j hi hj => ?_
  rw [mulL_at R R C _ _ hi hj, dot_sum]
  exact f.acc.mul i j hi hj
/-- The second: a unimodular multiple has the same form. -/
theorem herX_mix {R C : Nat} {xs us : List Int} {s s' : HSt} (hl : xs.length = R * C) (hn : nums xs = true) (h : herX R C xs = some s) (hu : det R (mxC R us) = 1 ∨ det R (mxC R us) = -1) (hn' : nums (mulL R R C us xs) = true) (h' : herX R C (mulL R R C us xs) = some s') : s'.1 = s.1 := by
  have e : ∀ i j, i < R → j < C → mxC C (mulL R R C us xs) i j = mulX R (mxC R us) (mxC C xs) i j := fun i j hi hj => by
    show (mulL R R C us xs).getD (i * C + j) 0 = _
    rw [mulL_at R R C _ _ hi hj, dot_sum]; rfl
  have s1 : SubL R R C (mxC C (mulL R R C us xs)) (mxC C xs) := (SubL.congr e).trans (SubL.mul R C _ _)
  have s2 : SubL R R C (mxC C xs) (mxC C (mulL R R C us xs)) := (SubL.unmul hu).trans (SubL.congr fun i j hi hj => (e i j hi hj).symm)
  exact herX_uniq (mulL_length _ _ _ _ _) hn' h' hl hn h s1 s2
end Go.Proofs.Ytpelnfenfeoeeaa
end

section
/-
  A region that draws its order and stores, at its end, into cells that it loads: a condition on the world is shown again behind each operation but those that come after all loads. No function of the program is named.
-/
namespace Go.Proofs.Ytpelnfenfeoeeaa

theorem two_only {p : Nat → Prop} (a b : Nat) (ha : p a) (hb : p b) : ∀ j, (j == a || j == b) = true → p j := fun j hj => by
  rw [Bool.or_eq_true, beq_iff_eq, beq_iff_eq] at hj
  rcases hj with rfl | rfl
  · exact ha
  · exact hb
section
variable {P : Program} {ops : Array Oper} {Q : Exit → Act → World → Prop} {md : Region.Mode} {S : World → Prop} {T : Nat → Bool}

/-- Operation j waits for i, at once or by others. -/
def anc (md : Region.Mode) (ops : Array Oper) (i : Nat) : Nat → Nat → Bool
  | 0, _ => false
  | f + 1, j => match ops[j]? with
    | some o => o.after.any fun e => Region.binds md e && (e.on == i || anc md ops i f e.on)
    | none => false
/-- What has come up has come up behind all that it waits for. -/
def closedB (md : Region.Mode) (ops : Array Oper) (listed : Array Bool) : Bool :=
  (List.range ops.size).all fun j => match ops[j]? with
    | some o => !(listed.getD j false) || o.after.all fun e => !(Region.binds md e) || listed.getD e.on false
    | none => true
def Closed (md : Region.Mode) (ops : Array Oper) (listed : Array Bool) : Prop := ∀ (j : Nat) (o : Oper), ops[j]? = some o → listed.getD j false = true → ∀ e ∈ o.after, Region.binds md e = true → listed.getD e.on false = true
theorem closed_of {listed : Array Bool} (h : closedB md ops listed = true) : Closed md ops listed := fun j o ho hl e he hb => by
  unfold closedB at h
  rw [List.all_eq_true] at h
  have hj : j < ops.size := by
    rcases Nat.lt_or_ge j ops.size with h1 | h1
    · exact h1
    · rw [Array.getElem?_eq_none h1] at ho; cases ho
  have h1 := h j (List.mem_range.mpr hj)
  rw [ho] at h1
  dsimp only at h1
  rw [hl] at h1
  simp only [Bool.not_true, Bool.false_or] at h1
  rw [Array.all_eq_true_iff_forall_mem] at h1
  have h2 := h1 e he
  rw [hb] at h2
  simpa using h2
theorem Closed.set {listed : Array Bool} {i : Nat} (h : Closed md ops listed) (hr : i ∈ Region.ready md ops listed) : Closed md ops (listed.setIfInBounds i true) := fun j o ho hl e he hb => by
  by_cases hji : i = j
  · subst hji
    obtain ⟨-, o', ho', hall⟩ := mem_ready.1 hr
    rw [ho] at ho'
    cases ho'
    exact getD_set_true (hall e he hb)
  · rw [getD_set_ne false hji] at hl
    exact getD_set_true (h j o ho hl e he hb)
theorem anc_unlisted {listed : Array Bool} {i : Nat} (h : Closed md ops listed) (hi : listed.getD i false = false) : ∀ (f j : Nat), anc md ops i f j = true → listed.getD j false = false
  | 0, j, ha => by cases ha
  | f + 1, j, ha => by
    unfold anc at ha
    cases ho : ops[j]? with
    | none => rw [ho] at ha; cases ha
    | some o =>
      rw [ho] at ha
      dsimp only at ha
      rw [Array.any_eq_true'] at ha
      obtain ⟨e, he, hb⟩ := ha
      rw [Bool.and_eq_true, Bool.or_eq_true] at hb
      cases hl : listed.getD j false with
      | false => rfl
      | true =>
        have h1 := h j o ho hl e he hb.1
        rcases hb.2 with h2 | h2
        · have e2 : e.on = i := by simpa using h2
          rw [e2, hi] at h1
          cases h1
        · rw [anc_unlisted h hi f e.on h2] at h1
          cases h1
theorem anc_not_ready {listed : Array Bool} {i j f : Nat} (h : Closed md ops listed) (hi : listed.getD i false = false) (ha : anc md ops i f j = true) : j ∉ Region.ready md ops listed := fun hr => by
  have h1 := h.set hr
  obtain ⟨-, o, ho, hall⟩ := mem_ready.1 hr
  cases f with
  | zero => cases ha
  | succ f =>
    unfold anc at ha
    rw [ho] at ha
    dsimp only at ha
    rw [Array.any_eq_true'] at ha
    obtain ⟨e, he, hb⟩ := ha
    rw [Bool.and_eq_true, Bool.or_eq_true] at hb
    have h2 := hall e he hb.1
    rcases hb.2 with h3 | h3
    · have e2 : e.on = i := by simpa using h3
      rw [e2, hi] at h2
      cases h2
    · rw [anc_unlisted h hi f e.on h3] at h2
      cases h2
/-- Whatever order is picked from here on, and S holds behind every operation but those of T. -/
def wpAnyT (P : Program) (md : Region.Mode) (ops : Array Oper) (Q : Exit → Act → World → Prop) (S : World → Prop) (T : Nat → Bool) : Nat → Array Bool → Act → World → Prop
  | 0, listed, a, w => Region.ready md ops listed = [] ∧ Q .normal a w
  | fuel + 1, listed, a, w =>
    (Region.ready md ops listed = [] → Q .normal a w) ∧
    ∀ i ∈ Region.ready md ops listed, wpOp P ops Q i (fun a' w' => (T i = false → S w') ∧ wpAnyT P md ops Q S T fuel (listed.setIfInBounds i true) a' w') a w
theorem wpAny_of_T : ∀ (fuel : Nat) (listed : Array Bool) (a : Act) (w : World), wpAnyT P md ops Q S T fuel listed a w → wpAny P md ops Q fuel listed a w
  | 0, _, _, _, h => h
  | fuel + 1, _, _, _, h => ⟨h.1, fun i hi => wpOp_mono (fun a' w' h' => wpAny_of_T fuel _ a' w' h'.2) (h.2 i hi)⟩
theorem getD_swap {listed : Array Bool} {i : Nat} (h : listed.getD i true = false) : listed.getD i false = false := by
  rcases Nat.lt_or_ge i listed.size with h' | h'
  · simp [h'] at h ⊢; exact h
  · simp [Array.getElem?_eq_none h'] at h
theorem wpAnyT_first {i : Nat} {oi : Oper} {v : Value} (hi : ops[i]? = some oi) (hsel : ∀ (j : Nat) (o : Oper) cs b, ops[j]? = some o → o.op ≠ .select cs b)
    (hQ : ∀ c a w, Q (.panic c) (a.put oi.dst v) w → Q (.panic c) a w) (hT : ∀ j, T j = true → anc md ops i ops.size j = true) :
    ∀ (fuel : Nat) (listed : Array Bool) (a : Act) (w : World), Closed md ops listed →
      (∀ j oj, ops[j]? = some oj → j ≠ i → listed.getD j true = false → (∀ e ∈ oj.after, Region.binds md e = true → e.on ≠ i) → oi.apart ops oj = true) →
      i ∈ Region.ready md ops listed → YieldsIf P ops S oi v a → S w →
      wpAnyT P md ops Q S T fuel (listed.setIfInBounds i true) (a.put oi.dst v) w → wpAnyT P md ops Q S T (fuel + 1) listed a w := by
  intro fuel
  induction fuel with
  | zero =>
    intro listed a w _ _ hr hy hS H
    refine ⟨fun h => (by rw [h] at hr; cases hr), fun j hj => ?_⟩
    by_cases hji : j = i
    · subst hji; exact hy.wpOp hi hS ⟨fun _ => hS, H⟩
    · have := ready_mono hj hji
      rw [H.1] at this
      cases this
  | succ fuel ih =>
    intro listed a w hcl hfree hr hy hS H
    refine ⟨fun h => (by rw [h] at hr; cases hr), fun j hj => ?_⟩
    by_cases hji : j = i
    · subst hji; exact hy.wpOp hi hS ⟨fun _ => hS, H⟩
    · have h1 := H.2 j (ready_mono hj hji)
      have hli := getD_swap (mem_ready.1 hr).1
      have hTj : T j = false := by
        cases hb : T j with
        | false => rfl
        | true => exact absurd hj (anc_not_ready hcl hli (hT j hb))
      obtain ⟨hjun, oj, hoj, hall⟩ := mem_ready.1 hj
      have hnot : ∀ e ∈ oj.after, Region.binds md e = true → e.on ≠ i := fun e he hb heq => by
        have h1 := hall e he hb
        rw [heq, hli] at h1
        cases h1
      have h2 := wpOp_putIf hoj (hfree j oj hoj hji hjun hnot) (fun cs b => hsel i oi cs b hi) (fun cs b => hsel j oj cs b hoj) hQ hy h1
      have hfree' : ∀ k ok, ops[k]? = some ok → k ≠ i → (listed.setIfInBounds j true).getD k true = false →
          (∀ e ∈ ok.after, Region.binds md e = true → e.on ≠ i) → oi.apart ops ok = true := fun k ok hk hki hun hno => by
        refine hfree k ok hk hki ?_ hno
        by_cases hjk : j = k
        · subst hjk; exact hjun
        · rw [getD_set_ne true hjk] at hun; exact hun
      refine wpOp_mono (fun a' w' h3 => ⟨h3.2.1, ih (listed.setIfInBounds j true) a' w' (hcl.set hj) hfree' (ready_mono hr (Ne.symm hji)) h3.1 (h3.2.1 hTj) ?_⟩) h2
      rw [Array.setIfInBounds_comm _ _ hji]
      exact h3.2.2
/-- Take number i first. -/
theorem wpAnyT_take {i : Nat} {oi : Oper} {v : Value} {fuel : Nat} {listed : Array Bool} {a : Act} {w : World} (hi : ops[i]? = some oi)
    (hs : Region.noSelect ops = true) (hf : Region.free md ops listed i = true) (hr : (Region.ready md ops listed).contains i = true) (hcl : closedB md ops listed = true)
    (hT : ∀ j, T j = true → anc md ops i ops.size j = true)
    (hQ : ∀ c a w, Q (.panic c) (a.put oi.dst v) w → Q (.panic c) a w) (hy : YieldsIf P ops S oi v a) (hS : S w)
    (h : wpAnyT P md ops Q S T fuel (listed.setIfInBounds i true) (a.put oi.dst v) w) : wpAnyT P md ops Q S T (fuel + 1) listed a w :=
  wpAnyT_first hi (Region.noSelect_spec hs) hQ hT fuel listed a w (closed_of hcl) (Region.free_spec hi hf) (by simpa using hr) hy hS h
theorem wpAnyT_done {listed : Array Bool} {a : Act} {w : World} (hr : Region.ready md ops listed = []) (h : Q .normal a w) :
    ∀ fuel, wpAnyT P md ops Q S T fuel listed a w
  | 0 => ⟨hr, h⟩
  | _ + 1 => ⟨fun _ => h, by rw [hr]; simp⟩
/-- Each of the operations rs comes up next. -/
def AllReadyT (P : Program) (md : Region.Mode) (ops : Array Oper) (Q : Exit → Act → World → Prop) (S : World → Prop) (T : Nat → Bool) (fuel : Nat) (listed : Array Bool) (a : Act) (w : World) (rs : List Nat) : Prop :=
  ∀ i ∈ rs, wpOp P ops Q i (fun a' w' => (T i = false → S w') ∧ wpAnyT P md ops Q S T fuel (listed.setIfInBounds i true) a' w') a w
theorem AllReadyT.nil {fuel : Nat} {listed : Array Bool} {a : Act} {w : World} : AllReadyT P md ops Q S T fuel listed a w [] := fun _ h => by cases h
theorem AllReadyT.cons {fuel : Nat} {listed : Array Bool} {a : Act} {w : World} {i : Nat} {o : Oper} {rs : List Nat} (ho : ops[i]? = some o)
    (h : ∀ K' : Act → World → Prop, Shut (∀ a w, (T i = false → S w) → wpAnyT P md ops Q S T fuel (listed.setIfInBounds i true) a w → K' a w) → if Region.wanted o (yielded ops a.tmps) = true then Oper.wp P o a w K' Q else K' (a.put o.dst undef) w)
    (hs : AllReadyT P md ops Q S T fuel listed a w rs) : AllReadyT P md ops Q S T fuel listed a w (i :: rs) := fun j hj => by
  rcases List.mem_cons.1 hj with rfl | hj
  · exact wpOp_step ho (fun K' hK => h K' (fun a w hS hW => hK a w ⟨hS, hW⟩))
  · exact hs j hj
theorem wpAnyT_ready {rs : List Nat} {fuel : Nat} {listed : Array Bool} {a : Act} {w : World} (hr : Region.ready md ops listed = rs) (hne : rs ≠ [])
    (h : AllReadyT P md ops Q S T fuel listed a w rs) : wpAnyT P md ops Q S T (fuel + 1) listed a w := ⟨fun h0 => absurd (hr ▸ h0) hne, hr ▸ h⟩
end
end Go.Proofs.Ytpelnfenfeoeeaa
end

section
/-
  A region that draws its order and stores, at its end, into cells that it loads: outside of a fence. No function of the program is named.
-/
namespace Go.Proofs.Ytpelnfenfeoeeaa

theorem one_only {p : Nat → Prop} (a : Nat) (ha : p a) : ∀ j, (j == a) = true → p j := fun j hj => by
  rw [beq_iff_eq] at hj
  subst hj
  exact ha
theorem wp_region_T {P : Program} {id : Nat} {ops : Array Oper} {Q : Exit → Act → World → Prop} {S : World → Prop} {T : Nat → Bool} {a : Act} {w : World} (hm : P.follows .mixedOrders = true) (hS : S w.drew)
    (h : S w.drew → wpAnyT P .any ops Q S T ops.size (Array.replicate ops.size false) a w.drew) : (Code.region id ops true).wp P Q a w := wp_region_any hm (wpAny_of_T _ _ _ _ (h hS))
end Go.Proofs.Ytpelnfenfeoeeaa
end

section
/-
  Plain mathematics of chapter 1: Euclid's steps on triples, their sizes, and what they lead to. Nothing of a program is imported.
-/
namespace Go.Proofs.Ytpelnfenfeoeeaa

/-- Euclid's steps: (g, x, y) and (h, u, v), at most n of them. -/
def egN : Nat → Int → Int → Int → Int → Int → Int → Int × Int × Int
  | 0, g, x, y, _, _, _ => (g, x, y)
  | n + 1, g, x, y, h, u, v => if h = 0 then (g, x, y) else egN n h u v (g - g.tdiv h * h) (x - g.tdiv h * u) (y - g.tdiv h * v)

theorem rem_lt (g h : Int) (hh : h ≠ 0) : (g - g.tdiv h * h).natAbs < h.natAbs := by
  have e : g - g.tdiv h * h = g.tmod h := by have := Int.tdiv_mul_add_tmod g h; omega
  rw [e, Int.natAbs_tmod]
  exact Nat.mod_lt _ (by omega)

theorem egN_fuel : ∀ (n m : Nat) (g x y h u v : Int), h.natAbs ≤ n → h.natAbs ≤ m → egN n g x y h u v = egN m g x y h u v := by
  intro n
  induction n with
  | zero =>
    intro m g x y h u v hn _
    have h0 : h = 0 := by omega
    subst h0
    cases m <;> simp [egN]
  | succ n ih =>
    intro m g x y h u v hn hm
    by_cases h0 : h = 0
    · subst h0; cases m <;> simp [egN]
    · cases m with
      | zero => omega
      | succ m =>
        have := rem_lt g h h0
        simp only [egN, if_neg h0]
        exact ih m _ _ _ _ _ _ (by omega) (by omega)

/-- The steps to the end. -/
def eg (g x y h u v : Int) : Int × Int × Int := egN h.natAbs g x y h u v
theorem eg_end (g x y u v : Int) : eg g x y 0 u v = (g, x, y) := by simp [eg, egN]
theorem eg_step (g x y h u v : Int) (hh : h ≠ 0) : eg g x y h u v = eg h u v (g - g.tdiv h * h) (x - g.tdiv h * u) (y - g.tdiv h * v) := by
  have hl := rem_lt g h hh
  unfold eg
  obtain ⟨k, hk⟩ : ∃ k, h.natAbs = k + 1 := ⟨h.natAbs - 1, by omega⟩
  rw [hk]
  simp only [egN, if_neg hh]
  exact egN_fuel _ _ _ _ _ _ _ _ (by omega) (by omega)

/-- One column of the steps: the products g*u and h*x stand on two sides, and together they are c. -/
def Half (c g x h u : Int) : Prop := ∃ s : Int, (s = 1 ∨ s = -1) ∧ 0 ≤ s * (g * u) ∧ s * (h * x) ≤ 0 ∧ s * (g * u) - s * (h * x) = c

theorem between (k g m : Int) (h : 0 ≤ k * g) (hm : (0 ≤ m ∧ m ≤ g) ∨ (g ≤ m ∧ m ≤ 0)) : 0 ≤ k * m := by
  rcases Int.lt_trichotomy m 0 with h1 | h1 | h1
  · have hg : g < 0 := by omega
    have hk : k ≤ 0 := by
      rcases Int.lt_or_le 0 k with hp | hp
      · have := Int.mul_neg_of_pos_of_neg hp hg; omega
      · exact hp
    exact Int.mul_nonneg_of_nonpos_of_nonpos hk (by omega)
  · subst h1; simp
  · have hg : 0 < g := by omega
    have hk : 0 ≤ k := by
      rcases Int.lt_or_le k 0 with hp | hp
      · have := Int.mul_neg_of_neg_of_pos hp hg; omega
      · exact hp
    exact Int.mul_nonneg hk (by omega)

theorem tdiv_between (g h : Int) :
    ((0 ≤ g.tdiv h * h ∧ g.tdiv h * h ≤ g) ∨ (g ≤ g.tdiv h * h ∧ g.tdiv h * h ≤ 0)) ∧ ((0 ≤ g - g.tdiv h * h ∧ g - g.tdiv h * h ≤ g) ∨ (g ≤ g - g.tdiv h * h ∧ g - g.tdiv h * h ≤ 0)) := by
  have e := Int.tdiv_mul_add_tmod g h
  rcases Int.lt_or_le g 0 with hg | hg
  · have h1 : (-g).tmod h = - g.tmod h := Int.neg_tmod g h
    have h2 : 0 ≤ (-g).tmod h := Int.tmod_nonneg h (by omega)
    have h3 : (-g).tdiv h * h = - (g.tdiv h * h) := by rw [Int.neg_tdiv, Int.neg_mul]
    have h4 : (-g).tmod h ≤ -g := by
      have := Int.natAbs_tmod (-g) h
      have := Nat.mod_le (-g).natAbs h.natAbs
      omega
    omega
  · have h2 : 0 ≤ g.tmod h := Int.tmod_nonneg h hg
    have h4 : g.tmod h ≤ g := by
      have := Int.natAbs_tmod g h
      have := Nat.mod_le g.natAbs h.natAbs
      omega
    omega

theorem Half.step {c g x h u : Int} (hf : Half c g x h u) : Half c h u (g - g.tdiv h * h) (x - g.tdiv h * u) := by
  obtain ⟨s, hs, h1, h2, h3⟩ := hf
  obtain ⟨b1, b2⟩ := tdiv_between g h
  have k1 : 0 ≤ (s * u) * g := by have : (s * u) * g = s * (g * u) := by rw [Int.mul_assoc, Int.mul_comm u g]
                                  omega
  have m1 := between _ _ _ k1 b1
  have m2 := between _ _ _ k1 b2
  have e1 : -s * (h * (x - g.tdiv h * u)) = (s * u) * (g.tdiv h * h) - s * (h * x) := by
    simp only [Int.mul_sub, Int.neg_mul]
    have : s * (h * (g.tdiv h * u)) = s * u * (g.tdiv h * h) := by
      simp only [Int.mul_assoc, Int.mul_comm, Int.mul_left_comm]
    omega
  have e2 : -s * ((g - g.tdiv h * h) * u) = -((s * u) * (g - g.tdiv h * h)) := by
    rw [Int.neg_mul]; congr 1
    rw [Int.mul_assoc, Int.mul_comm u]
  have e3 : (s * u) * (g.tdiv h * h) + (s * u) * (g - g.tdiv h * h) = s * (g * u) := by
    rw [← Int.mul_add, show g.tdiv h * h + (g - g.tdiv h * h) = g from by omega, Int.mul_assoc, Int.mul_comm u]
  refine ⟨-s, by omega, ?_, ?_, ?_⟩
  · rw [e1]; omega
  · rw [e2]; omega
  · rw [e1, e2]; omega

theorem abs_le_of_mul (k x c : Int) (hk : k ≠ 0) (h1 : -c ≤ k * x) (h2 : k * x ≤ c) : -c ≤ x ∧ x ≤ c := by
  have e : (k * x).natAbs = k.natAbs * x.natAbs := Int.natAbs_mul k x
  have h3 : x.natAbs ≤ k.natAbs * x.natAbs := Nat.le_mul_of_pos_left _ (by omega)
  omega

/-- The sizes: as long as h is not 0, x is at most c. -/
theorem Half.small {c g x h u : Int} (hf : Half c g x h u) (hh : h ≠ 0) : -c ≤ x ∧ x ≤ c := by
  obtain ⟨s, hs, h1, h2, h3⟩ := hf
  refine abs_le_of_mul h x c hh ?_ ?_ <;> rcases hs with rfl | rfl <;> omega
theorem Half.small2 {c g x h u : Int} (hf : Half c g x h u) (hg : g ≠ 0) : -c ≤ u ∧ u ≤ c := by
  obtain ⟨s, hs, h1, h2, h3⟩ := hf
  refine abs_le_of_mul g u c hg ?_ ?_ <;> rcases hs with rfl | rfl <;> omega

theorem half_first (a b : Int) : Half (b.natAbs : Int) a 1 b 0 := by
  rcases Int.lt_or_le b 0 with hb | hb
  · exact ⟨1, .inl rfl, by simp, by omega, by omega⟩
  · exact ⟨-1, .inr rfl, by simp, by omega, by omega⟩
theorem half_second (a b : Int) : Half (a.natAbs : Int) a 0 b 1 := by
  rcases Int.lt_or_le a 0 with hb | hb
  · exact ⟨-1, .inr rfl, by omega, by simp, by omega⟩
  · exact ⟨1, .inl rfl, by omega, by simp, by omega⟩

/-- What holds of the numbers at each step. -/
structure Inv (a b g x y h u v : Int) : Prop where
  g0 : -400000000 ≤ g ∧ g ≤ 400000000
  h0 : -400000000 ≤ h ∧ h ≤ 400000000
  x0 : -400000000 ≤ x ∧ x ≤ 400000000
  y0 : -400000000 ≤ y ∧ y ≤ 400000000
  u0 : -400000000 ≤ u ∧ u ≤ 400000000
  v0 : -400000000 ≤ v ∧ v ≤ 400000000
  gc : a * x + b * y = g
  hc : a * u + b * v = h
  hx : Half (b.natAbs : Int) g x h u
  hy : Half (a.natAbs : Int) g y h v
  gd : Int.gcd g h = Int.gcd a b

theorem Inv.start (a b : Int) (ha : -400000000 ≤ a ∧ a ≤ 400000000) (hb : -400000000 ≤ b ∧ b ≤ 400000000) : Inv a b a 1 0 b 0 1 :=
  ⟨ha, hb, by omega, by omega, by omega, by omega, by omega, by omega, half_first a b, half_second a b, rfl⟩

theorem gcd_sub_mul (g h q : Int) : Int.gcd h (g - q * h) = Int.gcd g h := by
  rw [Int.gcd_comm g h, show g - q * h = g + h * (-q) from by rw [Int.mul_neg, Int.mul_comm h q]; omega]
  exact Int.gcd_add_mul_left_right h g (-q)

theorem Inv.step {a b g x y h u v : Int} (ha : -400000000 ≤ a ∧ a ≤ 400000000) (hb : -400000000 ≤ b ∧ b ≤ 400000000) (i : Inv a b g x y h u v) (hh : h ≠ 0) :
    Inv a b h u v (g - g.tdiv h * h) (x - g.tdiv h * u) (y - g.tdiv h * v) := by
  have hl := rem_lt g h hh
  have h0 := i.h0
  have kx := i.hx.step
  have ky := i.hy.step
  have bx := kx.small2 hh
  have by' := ky.small2 hh
  refine ⟨i.h0, by omega, i.u0, i.v0, by omega, by omega, i.hc, ?_, kx, ky, ?_⟩
  · have g1 := i.gc
    have h1 := i.hc
    rw [Int.mul_sub, Int.mul_sub]
    have e : ∀ q : Int, a * (q * u) + b * (q * v) = q * h := fun q => by
      rw [← h1, Int.mul_add, Int.mul_left_comm a, Int.mul_left_comm b]
    have e' := e (g.tdiv h)
    omega
  · rw [gcd_sub_mul]; exact i.gd

/-- What the walk needs of one step: no sum and no product is too large. -/
theorem Inv.fits {a b g x y h u v : Int} (ha : -400000000 ≤ a ∧ a ≤ 400000000) (hb : -400000000 ≤ b ∧ b ≤ 400000000) (i : Inv a b g x y h u v) (hh : h ≠ 0) :
    (-400000000 ≤ g.tdiv h ∧ g.tdiv h ≤ 400000000) ∧ (-800000000 ≤ g.tdiv h * h ∧ g.tdiv h * h ≤ 800000000) ∧ (-800000000 ≤ g.tdiv h * u ∧ g.tdiv h * u ≤ 800000000) ∧ (-800000000 ≤ g.tdiv h * v ∧ g.tdiv h * v ≤ 800000000) := by
  have j := i.step ha hb hh
  have g0 := i.g0; have x0 := i.x0; have y0 := i.y0; have h0 := i.h0
  have h1 := j.h0; have u1 := j.u0; have v1 := j.v0
  have q : (g.tdiv h).natAbs ≤ g.natAbs := by rw [Int.natAbs_tdiv]; exact Nat.div_le_self _ _
  refine ⟨by omega, by omega, by omega, by omega⟩

/-- The end: g is the greatest common divisor, but for its sign. -/
theorem Inv.last {a b g x y u v : Int} (i : Inv a b g x y 0 u v) : (g.natAbs : Int) = (Int.gcd a b : Int) := by
  have := i.gd
  rw [Int.gcd_zero_right] at this
  omega

/-! ### Remainders, quotients rounded down -/
theorem gcd_round (x y : Int) : Int.gcd y (x.tmod y) = Int.gcd x y := by
  rw [show x.tmod y = x - x.tdiv y * y from by have := Int.tdiv_mul_add_tmod x y; omega]
  exact gcd_sub_mul x y _
theorem tmod_small (x y : Int) (hy : y ≠ 0) : (x.tmod y).natAbs < y.natAbs := by
  rw [Int.natAbs_tmod]; exact Nat.mod_lt _ (by omega)

theorem ediv_of (n d q r : Int) (hd : 0 < d) (h : n = q * d + r) (h0 : 0 ≤ r) (h1 : r < d) : n / d = q ∧ n % d = r :=
  (Int.ediv_emod_unique hd).2 ⟨by rw [h, Int.mul_comm]; omega, h0, h1⟩
theorem tdiv_up (n d : Int) (hd : 0 < d) (h : 0 ≤ n.tmod d) : n / d = n.tdiv d ∧ n % d = n.tmod d := by
  have e := Int.tdiv_mul_add_tmod n d
  have l := tmod_small n d (by omega)
  exact ediv_of n d _ _ hd (by omega) h (by omega)
theorem tdiv_down (n d : Int) (hd : 0 < d) (h : n.tmod d < 0) : n / d = n.tdiv d - 1 ∧ n % d = n.tmod d + d := by
  have e := Int.tdiv_mul_add_tmod n d
  have l := tmod_small n d (by omega)
  exact ediv_of n d _ _ hd (by rw [Int.sub_mul]; omega) (by omega) (by omega)
theorem tdiv_bd (n d : Int) (h1 : -400000000 ≤ n) (h2 : n ≤ 400000000) : -400000000 ≤ n.tdiv d ∧ n.tdiv d ≤ 400000000 := by
  have q : (n.tdiv d).natAbs ≤ n.natAbs := by rw [Int.natAbs_tdiv]; exact Nat.div_le_self _ _
  omega
theorem ediv_bd (n d : Int) (hd : 0 < d) (h1 : -400000000 ≤ n) (h2 : n ≤ 400000000) : -400000001 ≤ n / d ∧ n / d ≤ 400000000 := by
  have b := tdiv_bd n d h1 h2
  rcases Int.lt_or_le (n.tmod d) 0 with h | h
  · have := (tdiv_down n d hd h).1; omega
  · have := (tdiv_up n d hd h).1; omega
theorem mul_ediv_bd (n d : Int) (hd : 0 < d) : n - d < d * (n / d) ∧ d * (n / d) ≤ n := by
  have e := Int.mul_ediv_add_emod n d
  have l := Int.emod_lt_of_pos n hd
  have l' := Int.emod_nonneg n (show d ≠ 0 by omega)
  omega

theorem iDiv_pos (n d : Int) (hd0 : d ≠ 0) (h : 0 ≤ n.tmod d) : n / d = n.tdiv d ∧ n % d = n.tmod d := by
  rcases Int.lt_or_le 0 d with hd | hd
  · exact tdiv_up n d hd h
  · obtain ⟨c, rfl⟩ : ∃ c, d = -c := ⟨-d, by omega⟩
    rw [Int.ediv_neg, Int.emod_neg, Int.tdiv_neg, Int.tmod_neg]
    rw [Int.tmod_neg] at h
    have := tdiv_up n c (by omega) h
    exact ⟨by rw [this.1], this.2⟩
theorem iDiv_neg (n c : Int) (hc : 0 < c) (h : n.tmod (-c) < 0) : n / -c = n.tdiv (-c) + 1 ∧ n % -c = n.tmod (-c) - -c := by
  rw [Int.ediv_neg, Int.emod_neg, Int.tdiv_neg, Int.tmod_neg]
  rw [Int.tmod_neg] at h
  have := tdiv_down n c hc h
  omega


end Go.Proofs.Ytpelnfenfeoeeaa
end

section
/-
  Chapter 1, in the model: |n|.
-/
namespace Go.Proofs.Ytpelnfenfeoeeaa
open Go.RowKit

theorem tdiv_bdw (n d : Int) (h1 : -4000000000000000000 ≤ n) (h2 : n ≤ 4000000000000000000) : -4000000000000000000 ≤ n.tdiv d ∧ n.tdiv d ≤ 4000000000000000000 := by
  have q : (n.tdiv d).natAbs ≤ n.natAbs := by rw [Int.natAbs_tdiv]; exact Nat.div_le_self _ _
  omega
theorem sAbs_p (n : Int) (w : World) (h1 : 0 ≤ n) (h2 : n ≤ 9223372036854775807) :
    Calls Try.prog 100 #[.int .i64 n] w fun e w' => e = .returned (.int .i64 n) ∧ w = w' := by
  go_enter Try.func100, Try.ntmps100
  go_wp2
  all_goals
    go_ret
    exact ⟨ret_int (by omega), rfl⟩
theorem sAbs_n (n : Int) (w : World) (h1 : 0 < n) (h2 : n ≤ 9223372036854775807) :
    Calls Try.prog 100 #[.int .i64 (-n)] w fun e w' => e = .returned (.int .i64 n) ∧ w = w' := by
  go_enter Try.func100, Try.ntmps100
  go_wp2
  all_goals
    go_ret
    exact ⟨ret_int (by omega), rfl⟩
theorem sAbs (n : Int) (w : World) (h1 : -9000000000000000000 ≤ n) (h2 : n ≤ 9000000000000000000) :
    Calls Try.prog 100 #[.int .i64 n] w fun e w' => e = .returned (.int .i64 (n.natAbs : Int)) ∧ w = w' := by
  rcases Int.lt_or_le n 0 with h | h
  · obtain ⟨m, rfl⟩ : ∃ m, n = -m := ⟨-n, by omega⟩
    rw [show (((-m).natAbs : Nat) : Int) = m by omega]
    exact sAbs_n m w (by omega) (by omega)
  · rw [show ((n.natAbs : Nat) : Int) = n by omega]
    exact sAbs_p n w (by omega) (by omega)
end Go.Proofs.Ytpelnfenfeoeeaa
end

section
/-
  Chapter 12, in the model: a cell, the row that is least in a column, whether it is alone, marks.
-/
namespace Go.Proofs.Ytpelnfenfeoeeaa
set_option maxRecDepth 100000
open Go.RowKit

/-- Where a cell lies. -/
theorem cell_idx {R C i j : Nat} (hR : R ≤ 24) (hC : C ≤ 24) (hi : i < R) (hj : j < C) : i * C + j < R * C ∧ IntKind.i64.wrap ((i : Int) * (C : Int)) = (i : Int) * (C : Int) ∧ IntKind.i64.wrap ((i : Int) * (C : Int) + (j : Int)) = ((i * C + j : Nat) : Int) := by
  have h1 : i * C + j < R * C := idx_lt hi hj
  have h2 : R * C ≤ 24 * 24 := Nat.mul_le_mul hR hC
  have c1 : (i : Int) * (C : Int) = ((i * C : Nat) : Int) := (Int.natCast_mul _ _).symm
  refine ⟨h1, IntWalk.i64_in _ (by rw [c1]; omega), ?_⟩
  rw [show (i : Int) * (C : Int) + (j : Int) = ((i * C + j : Nat) : Int) by rw [c1]; omega]
  exact IntWalk.i64_in _ (by omega)
theorem sAbsN (n : Int) (w : World) (h1 : -4000000000000000000 ≤ n) (h2 : n ≤ 4000000000000000000) : Calls Try.prog 100 #[.int .i64 n] w (Gives (.int .i64 (n.natAbs : Int)) w) := by
  by_cases hn : 0 ≤ n
  · refine (sAbs_p n w hn (by omega)).mono ?_
    rintro e w' ⟨rfl, rfl⟩
    exact ⟨by rw [show ((n.natAbs : Nat) : Int) = n by omega], Below.refl _ _⟩
  · have := sAbs_n (-n) w (by omega) (by omega)
    rw [Int.neg_neg] at this
    refine this.mono ?_
    rintro e w' ⟨rfl, rfl⟩
    exact ⟨by rw [show ((n.natAbs : Nat) : Int) = -n by omega], Below.refl _ _⟩
set_option maxHeartbeats 1000000 in
theorem sCel (R C : Nat) (a : Option Addr) (n m i j : Nat) (xs : List Int) (w : World) (h : Rd w a xs) (hx : xs.length = n) (hn : n = R * C) (hR : R ≤ 24) (hC : C ≤ 24) (hi : i < R) (hj : j < C) :
    Calls Try.prog 63 #[.agg #[.int .i64 R, .int .i64 C, .slice a n m], .int .i64 i, .int .i64 j] w (Gives (.int .i64 (mxC C xs i j)) w) := by
  obtain ⟨x1, x2, x3⟩ := cell_idx hR hC hi hj
  have h := h.below ((Below.refl _ _).alloc (Nat.le_refl _) (.cells #[.int .i64 R, .int .i64 C, .slice a n m] 26))
  obtain ⟨b, o, rfl, hc⟩ := h (i * C + j) (by omega)
  have V : Hid (mxC C xs i j = xs.getD (i * C + j) 0) := rfl
  obtain ⟨x, hxx⟩ : ∃ x, xs.getD (i * C + j) 0 = x := ⟨_, rfl⟩
  obtain ⟨P, hP⟩ : ∃ P, i * C + j = P := ⟨_, rfl⟩
  rw [hxx] at hc V
  rw [hP] at hc x1 x3
  have P0 : (0 : Int) ≤ (P : Int) := by omega
  have P1 : (P : Int) < (n : Int) := by omega
  rw [V.out]
  clear h hx hxx hP V hn x1
  go_enter Try.func63, Try.ntmps63
  go_wp2_with fail
  go_ret
  exact ⟨rfl, by repeat (first | exact Below.refl _ _ | refine below_drewN ?_ _ | refine Below.alloc ?_ (by simp <;> omega) _)⟩
set_option maxHeartbeats 1000000 in
theorem sAlone (R C : Nat) (a : Option Addr) (n m p j t : Nat) (s : HSt) (w : World) (h : Rd w a s.1) (hx : s.1.length = n) (hn : n = R * C) (hR : R ≤ 24) (hC : C ≤ 24) (hj : j < C) (ht : t ≤ R) (hp : p < R) :
    Calls Try.prog 138 #[.agg #[.int .i64 R, .int .i64 C, .slice a n m], .int .i64 t, .int .i64 j, .int .i64 p] w (Gives (.bool (aloneB R C p j t s)) w) := by
  have K0 : Hid (Blk3 (w.alloc (.cells #[.int .i64 R, .int .i64 C, .slice a n m] 26)) w.heap.size 26 (.int .i64 R) (.int .i64 C) (.slice a n m)) := Blk3.at_ _ _ _ _ rfl
  have B0 : Hid (Below w.heap.size w (w.alloc (.cells #[.int .i64 R, .int .i64 C, .slice a n m] 26))) := (Below.refl _ _).alloc (Nat.le_refl _) _
  have CE : Hid (∀ i w', i < R → Below w.heap.size w w' → Calls Try.prog 63 #[.agg #[.int .i64 R, .int .i64 C, .slice a n m], .int .i64 i, .int .i64 j] w' (Gives (.int .i64 (celS C s i j)) w')) := fun i w' hi hb => sCel R C a n m i j s.1 w' (h.below hb) hx hn hR hC hi hj
  have VF : Hid (∀ i, i < R → t ≤ i → i ≠ p → celS C s i j ≠ 0 → aloneB R C p j t s = false) := fun i h1 h2 h3 h4 => aloneB_false h1 h2 h3 h4
  have VT : Hid ((∀ i, i < R → t ≤ i → i ≠ p → celS C s i j = 0) → aloneB R C p j t s = true) := aloneB_true
  generalize aloneB R C p j t s = bb at VF VT ⊢
  clear h hx hn
  go_enter Try.func138, Try.ntmps138
  go_wp2_with fail
  go_loopw [8, 9] (fun _ v9 wr => ∃ i : Nat, v9 = .int .i64 i ∧ t ≤ i ∧ i ≤ R ∧ (∀ k, t ≤ k → k < i → k ≠ p → celS C s k j = 0) ∧ Blk3 wr w.heap.size 26 (.int .i64 R) (.int .i64 C) (.slice a n m) ∧ Below w.heap.size w wr) (fun _ v9 _ => R - (intOf v9).toNat)
  case atStart => exact ⟨t, rfl, Nat.le_refl _, ht, fun k h1 h2 => by omega, K0.out, B0.out⟩
  case round =>
    clear K0 B0
    obtain ⟨i, rfl, hti, hi, hk, hK, hB⟩ := hrel
    have HK := Lib.hid hk
    have K := Lib.hid hK
    have B := Lib.hid hB
    clear hk hK hB
    obtain ⟨p0, p1, p2, -, -, -⟩ := K.out.all
    by_cases hlt : i < R
    · by_cases hip : i = p
      · have n1 : ((i : Int) != (p : Int)) = false := by simp [hip]
        have HK2 : Hid (∀ k, t ≤ k → k < i + 1 → k ≠ p → celS C s k j = 0) := fun k h1 h2 h3 => HK.out k h1 (by omega) h3
        clear hip
        go_wp2_with fail
        go_roundw
        case rel => exact ⟨i + 1, by go_num, by omega, by omega, HK2.out, K.out, B.out⟩
        case measure => simp [intOf]; omega
      · have n1 : ((i : Int) != (p : Int)) = true := by simp; omega
        have CI := Lib.hid (CE.out i wr hlt B.out)
        have VFi : Hid (celS C s i j ≠ 0 → bb = false) := fun h => VF.out i hlt hti hip h
        have HK2 : Hid (celS C s i j = 0 → ∀ k, t ≤ k → k < i + 1 → k ≠ p → celS C s k j = 0) := fun h0 k h1 h2 h3 => by
          rcases Nat.lt_or_ge k i with h4 | h4
          · exact HK.out k h1 h4 h3
          · obtain rfl : k = i := by omega
            exact h0
        generalize celS C s i j = z at CI VFi HK2
        clear hip
        go_wp2_with fail
        refine CI.out.mono ?_
        rintro e w3 ⟨rfl, hb3⟩
        have K3 := Lib.hid (K.out.step hb3)
        have B3 := Lib.hid (B.out.trans (hb3.mono B.out.size))
        clear hb3 CI p0 p1 p2
        by_cases hz : z = 0
        · have n2 : (z != 0) = false := by simp [hz]
          have HK3 := Lib.hid (HK2.out hz)
          clear hz
          go_wp2_with fail
          go_roundw
          case rel => exact ⟨i + 1, by go_num, by omega, by omega, HK3.out, K3.out, B3.out⟩
          case measure => simp [intOf]; omega
        · have n2 : (z != 0) = true := by simpa using hz
          have V := Lib.hid (VFi.out hz)
          clear hz
          go_wp2_with fail
          go_ret
          exact ⟨by rw [V.out]; rfl, B3.out⟩
    · obtain rfl : i = R := by omega
      have V := Lib.hid (VT.out fun k h1 h2 h3 => HK.out k h2 h1 h3)
      go_wp2_with fail
      go_ret
      exact ⟨by rw [V.out]; rfl, B.out⟩
set_option maxHeartbeats 2000000 in
/-- The box of the matrix, in every later world. -/
theorem leF {W w' : World} {b : Nat} {t : TypeId} {p q r : Value} (h0 : Blk3 W b t p q r) (hb : Below W.heap.size W w') : w'.cell? ⟨b, 0, none⟩ = some p ∧ w'.cell? ⟨b, 1, none⟩ = some q ∧ w'.cell? ⟨b, 2, none⟩ = some r := by
  obtain ⟨a1, a2, a3, -, -, -⟩ := (h0.step hb).all
  exact ⟨a1, a2, a3⟩
set_option maxHeartbeats 4000000 in
theorem sLeast (R C : Nat) (a : Option Addr) (n m j t : Nat) (s : HSt) (w : World) (h : Rd w a s.1) (hx : s.1.length = n) (hn : n = R * C) (hR : R ≤ 24) (hC : C ≤ 24) (hj : j < C) (ht : t ≤ R) (ho : nums s.1 = true) :
    Calls Try.prog 137 #[.agg #[.int .i64 R, .int .i64 C, .slice a n m], .int .i64 t, .int .i64 j] w (Gives (.int .i64 (leastS R C j t s)) w) := by
  have K0 : Hid (Blk3 (w.alloc (.cells #[.int .i64 R, .int .i64 C, .slice a n m] 26)) w.heap.size 26 (.int .i64 R) (.int .i64 C) (.slice a n m)) := Blk3.at_ _ _ _ _ rfl
  have B0 : Hid (Below w.heap.size w (w.alloc (.cells #[.int .i64 R, .int .i64 C, .slice a n m] 26))) := (Below.refl _ _).alloc (Nat.le_refl _) _
  have CE : Hid (∀ i w', i < R → Below w.heap.size w w' → Calls Try.prog 63 #[.agg #[.int .i64 R, .int .i64 C, .slice a n m], .int .i64 i, .int .i64 j] w' (Gives (.int .i64 (celS C s i j)) w')) := fun i w' hi hb => sCel R C a n m i j s.1 w' (h.below hb) hx hn hR hC hi hj
  have NU : Hid (∀ i, NumP (celS C s i j)) := fun i => nums_def ho _
  have LS : Hid (leastS R C j t s = leastF (fun i => celS C s i j) t (R - t)) := rfl
  have LF : Hid (∀ k, (leastF (fun i => celS C s i j) t k = -1) ∨ ∃ p : Nat, leastF (fun i => celS C s i j) t k = (p : Int) ∧ p < t + k) := fun k => by
    rcases leastF_says (fun i => celS C s i j) t k with ⟨h1, -⟩ | ⟨p, h1, -, h2, -⟩
    · exact .inl h1
    · exact .inr ⟨p, h1, h2⟩
  have LN : Hid (∀ k, leastF (fun i => celS C s i j) t (k + 1) = if celS C s (t + k) j ≠ 0 ∧ (leastF (fun i => celS C s i j) t k < 0 ∨ (celS C s (t + k) j).natAbs < (celS C s (leastF (fun i => celS C s i j) t k).toNat j).natAbs) then ((t + k : Nat) : Int) else leastF (fun i => celS C s i j) t k) := fun k => rfl
  obtain ⟨L, hL⟩ : ∃ L : Nat → Int, leastF (fun i => celS C s i j) t = L := ⟨_, rfl⟩
  rw [hL] at LS LF LN
  have L0 : Hid (L 0 = -1) := by refine Lib.hid ?_; rw [← hL]; rfl
  rw [LS.out]
  clear h hx hn ho hL LS
  go_enter Try.func137, Try.ntmps137
  go_wp2_with fail
  go_loopw [7, 8, 9] (fun v7 v8 _ wr => ∃ k : Nat, v7 = .int .i64 (L k) ∧ v8 = .int .i64 ((t + k : Nat) : Int) ∧ t + k ≤ R ∧ Blk3 wr w.heap.size 26 (.int .i64 R) (.int .i64 C) (.slice a n m) ∧ Below w.heap.size w wr) (fun _ v8 _ _ => R - (intOf v8).toNat)
  case atStart => exact ⟨0, by rw [L0.out], rfl, by omega, K0.out, B0.out⟩
  case round =>
    clear K0 B0
    obtain ⟨k, rfl, rfl, hk, hK, hB⟩ := hrel
    have K := Lib.hid hK
    have B := Lib.hid hB
    clear hK hB
    obtain ⟨p0, p1, p2, -, -, -⟩ := K.out.all
    by_cases hlt : t + k < R
    · have CI := Lib.hid (CE.out (t + k) wr hlt B.out)
      have NI := NU.out (t + k)
      have LI := Lib.hid (LN.out k)
      have LK := Lib.hid (LF.out k)
      obtain ⟨x, hx⟩ : ∃ x, celS C s (t + k) j = x := ⟨_, rfl⟩
      obtain ⟨T, hT⟩ : ∃ T, t + k = T := ⟨_, rfl⟩
      rw [hx] at CI NI LI
      rw [hT] at CI LI hlt ⊢
      have ET := Lib.hid hT
      clear hx hT
      obtain ⟨n1, n2⟩ := NI
      go_wp2_with fail
      refine CI.out.mono ?_
      rintro e w3 ⟨rfl, hb3⟩
      have K3 := Lib.hid (K.out.step hb3)
      have B3 := Lib.hid (B.out.trans (hb3.mono B.out.size))
      clear hb3 CI p0 p1 p2 K B
      by_cases hx0 : x = 0
      · have e1 : (x != 0) = false := by simp [hx0]
        have LE : Hid (L (k + 1) = L k) := by refine Lib.hid ?_; rw [LI.out, if_neg fun h => h.1 hx0]
        clear hx0
        go_wp2_with fail
        go_quiet (fail)
        go_wp2_with fail
        go_roundw
        case rel => exact ⟨k + 1, by rw [LE.out], by rw [← Nat.add_assoc, ET.out]; go_num, by have := ET.out; omega, K3.out.drewN nq, below_drewN B3.out nq⟩
        case measure => simp [intOf]; omega
      have e1 : (x != 0) = true := by simpa using hx0
      rcases LK.out with h1 | ⟨p, h1, h2⟩
      · have LE : Hid (L (k + 1) = T) := by refine Lib.hid ?_; rw [LI.out, if_pos ⟨hx0, .inl (by omega)⟩]
        rw [h1]
        clear hx0 h1
        go_wp2_with fail
        go_quiet (fail)
        go_wp2_with fail
        go_roundw
        case rel => exact ⟨k + 1, by rw [LE.out], by rw [← Nat.add_assoc, ET.out]; go_num, by have := ET.out; omega, K3.out.drewN nq, below_drewN B3.out nq⟩
        case measure => simp [intOf]; omega
      · rename World => wr
        have hpR : p < R := by have := ET.out; omega
        have CB : Hid (∀ w', Below wr.heap.size wr w' → Calls Try.prog 63 #[.agg #[.int .i64 R, .int .i64 C, .slice a n m], .int .i64 p, .int .i64 j] w' (Gives (.int .i64 (celS C s p j)) w')) := fun w' hb => CE.out p w' hpR (B3.out.trans (hb.mono B3.out.size))
        have NB := NU.out p
        rw [h1, Int.toNat_natCast] at LI
        rw [h1]
        obtain ⟨y, hy⟩ : ∃ y, celS C s p j = y := ⟨_, rfl⟩
        rw [hy] at CB NB LI
        obtain ⟨n3, n4⟩ := NB
        have AX : Hid (∀ w', Calls Try.prog 100 #[.int .i64 x] w' (Gives (.int .i64 (x.natAbs : Int)) w')) := fun w' => sAbsN x w' (by omega) (by omega)
        have AB : Hid (∀ w', Calls Try.prog 100 #[.int .i64 y] w' (Gives (.int .i64 (y.natAbs : Int)) w')) := fun w' => sAbsN y w' (by omega) (by omega)
        have p3 : ¬ (p : Int) < 0 := by omega
        have KI := K3
        clear hy
        by_cases hlt2 : x.natAbs < y.natAbs
        · have LE : Hid (L (k + 1) = T) := by refine Lib.hid ?_; rw [LI.out, if_pos ⟨hx0, .inr hlt2⟩]
          obtain ⟨ax, hax⟩ : ∃ z : Int, (x.natAbs : Int) = z := ⟨_, rfl⟩
          obtain ⟨ay, hay⟩ : ∃ z : Int, (y.natAbs : Int) = z := ⟨_, rfl⟩
          have l9 : ax < ay := by omega
          rw [hax] at AX
          rw [hay] at AB
          clear hx0 h1 hax hay hlt2
          go_wp2_with fail
          refine wp_region_T (S := fun w' => Below wr.heap.size wr w') (T := fun _ => false) (by kernel_rfl) (Below.refl _ _).drew (fun hH => ?_)
          refine wpAnyT_take (i := 0) (v := ?_) (by simp only [List.getElem?_toArray, List.getElem?_cons_zero]; rfl) (by kernel_rfl) (by kernel_rfl) (by kernel_rfl) (by kernel_rfl) (fun _ hj => by cases hj) (by exact fun _ _ _ h => h) (Or.inl ⟨by rfl, ?_⟩) hH ?_
          rotate_left
          · (intro wS hS; clear hS; go_simp; try rfl)
          try simp only [Act.put, List.setIfInBounds_toArray, List.set_cons_zero, List.set_cons_succ]
          refine wpAnyT_take (i := 1) (v := ?_) (by simp only [List.getElem?_toArray, List.getElem?_cons_succ, List.getElem?_cons_zero]; rfl) (by kernel_rfl) (by kernel_rfl) (by kernel_rfl) (by kernel_rfl) (fun _ hj => by cases hj) (by exact fun _ _ _ h => h) (Or.inl ⟨by rfl, ?_⟩) hH ?_
          rotate_left
          · (intro wS hS; clear hS; go_simp; try rfl)
          try simp only [Act.put, List.setIfInBounds_toArray, List.set_cons_zero, List.set_cons_succ]
          refine wpAnyT_take (i := 2) (v := ?_) (by simp only [List.getElem?_toArray, List.getElem?_cons_succ, List.getElem?_cons_zero]; rfl) (by kernel_rfl) (by kernel_rfl) (by kernel_rfl) (by kernel_rfl) (fun _ hj => by cases hj) (by exact fun _ _ _ h => h) (Or.inl ⟨by rfl, ?_⟩) hH ?_
          rotate_left
          · (intro wS hS; clear hS; go_simp; try rfl)
          try simp only [Act.put, List.setIfInBounds_toArray, List.set_cons_zero, List.set_cons_succ]
          refine wpAnyT_take (i := 3) (v := ?_) (by simp only [List.getElem?_toArray, List.getElem?_cons_succ, List.getElem?_cons_zero]; rfl) (by kernel_rfl) (by kernel_rfl) (by kernel_rfl) (by kernel_rfl) (fun _ hj => by cases hj) (by exact fun _ _ _ h => h) (Or.inl ⟨by rfl, ?_⟩) hH ?_
          rotate_left
          · (intro wS hS; clear hS; go_simp; try rfl)
          try simp only [Act.put, List.setIfInBounds_toArray, List.set_cons_zero, List.set_cons_succ]
          refine wpAnyT_take (i := 4) (v := ?_) (by simp only [List.getElem?_toArray, List.getElem?_cons_succ, List.getElem?_cons_zero]; rfl) (by kernel_rfl) (by kernel_rfl) (by kernel_rfl) (by kernel_rfl) (fun _ hj => by cases hj) (by exact fun _ _ _ h => h) (Or.inl ⟨by rfl, ?_⟩) hH ?_
          rotate_left
          · (intro wS hS; clear hS; go_simp; try rfl)
          try simp only [Act.put, List.setIfInBounds_toArray, List.set_cons_zero, List.set_cons_succ]
          refine wpAnyT_take (i := 5) (v := ?_) (by simp only [List.getElem?_toArray, List.getElem?_cons_succ, List.getElem?_cons_zero]; rfl) (by kernel_rfl) (by kernel_rfl) (by kernel_rfl) (by kernel_rfl) (fun _ hj => by cases hj) (by exact fun _ _ _ h => h) (Or.inl ⟨by rfl, ?_⟩) hH ?_
          rotate_left
          · (intro wS hS; clear hS; go_simp; try rfl)
          try simp only [Act.put, List.setIfInBounds_toArray, List.set_cons_zero, List.set_cons_succ]
          refine wpAnyT_take (i := 6) (v := ?_) (by simp only [List.getElem?_toArray, List.getElem?_cons_succ, List.getElem?_cons_zero]; rfl) (by kernel_rfl) (by kernel_rfl) (by kernel_rfl) (by kernel_rfl) (fun _ hj => by cases hj) (by exact fun _ _ _ h => h) (Or.inl ⟨by rfl, ?_⟩) hH ?_
          rotate_left
          · (intro wS hS; clear hS; go_simp; try rfl)
          try simp only [Act.put, List.setIfInBounds_toArray, List.set_cons_zero, List.set_cons_succ]
          refine wpAnyT_take (i := 8) (v := ?_) (by simp only [List.getElem?_toArray, List.getElem?_cons_succ, List.getElem?_cons_zero]; rfl) (by kernel_rfl) (by kernel_rfl) (by kernel_rfl) (by kernel_rfl) (fun _ hj => by cases hj) (by exact fun _ _ _ h => h) (Or.inl ⟨by rfl, ?_⟩) hH ?_
          rotate_left
          · (intro wS hS; (try dsimp only at hS); obtain ⟨k1, k2, k3⟩ := leF KI.out hS; go_simp; try rfl)
          try simp only [Act.put, List.setIfInBounds_toArray, List.set_cons_zero, List.set_cons_succ]
          refine wpAnyT_take (i := 9) (v := ?_) (by simp only [List.getElem?_toArray, List.getElem?_cons_succ, List.getElem?_cons_zero]; rfl) (by kernel_rfl) (by kernel_rfl) (by kernel_rfl) (by kernel_rfl) (fun _ hj => by cases hj) (by exact fun _ _ _ h => h) (Or.inl ⟨by rfl, ?_⟩) hH ?_
          rotate_left
          · (intro wS hS; clear hS; go_simp; try rfl)
          try simp only [Act.put, List.setIfInBounds_toArray, List.set_cons_zero, List.set_cons_succ]
          refine wpAnyT_take (i := 10) (v := ?_) (by simp only [List.getElem?_toArray, List.getElem?_cons_succ, List.getElem?_cons_zero]; rfl) (by kernel_rfl) (by kernel_rfl) (by kernel_rfl) (by kernel_rfl) (fun _ hj => by cases hj) (by exact fun _ _ _ h => h) (Or.inl ⟨by rfl, ?_⟩) hH ?_
          rotate_left
          · (intro wS hS; clear hS; go_simp; try rfl)
          try simp only [Act.put, List.setIfInBounds_toArray, List.set_cons_zero, List.set_cons_succ]
          refine wpAnyT_ready (rs := [7]) (by kernel_rfl) (by simp) ?_
          refine AllReadyT.cons (by simp only [List.getElem?_toArray, List.getElem?_cons_succ, List.getElem?_cons_zero]; rfl) (fun K hK => ?_) AllReadyT.nil
          go_simp
          (with_reducible refine (AX.out _).mono ?_)
          rintro e v1 ⟨rfl, hb1⟩
          try dsimp only
          refine hK.out _ _ (fun _ => hH.trans (hb1.mono hH.size)) ?_
          clear hK K
          have hH := hH.trans (hb1.mono hH.size)
          clear hb1
          try simp only [Act.put, List.setIfInBounds_toArray, List.set_cons_zero, List.set_cons_succ]
          refine wpAnyT_ready (rs := [11]) (by kernel_rfl) (by simp) ?_
          refine AllReadyT.cons (by simp only [List.getElem?_toArray, List.getElem?_cons_succ, List.getElem?_cons_zero]; rfl) (fun K hK => ?_) AllReadyT.nil
          go_simp
          (with_reducible refine (CB.out _ (hH.mono (Nat.le_refl _))).mono ?_)
          rintro e v2 ⟨rfl, hb2⟩
          try dsimp only
          refine hK.out _ _ (fun _ => hH.trans (hb2.mono hH.size)) ?_
          clear hK K
          have hH := hH.trans (hb2.mono hH.size)
          clear hb2
          try simp only [Act.put, List.setIfInBounds_toArray, List.set_cons_zero, List.set_cons_succ]
          refine wpAnyT_ready (rs := [12]) (by kernel_rfl) (by simp) ?_
          refine AllReadyT.cons (by simp only [List.getElem?_toArray, List.getElem?_cons_succ, List.getElem?_cons_zero]; rfl) (fun K hK => ?_) AllReadyT.nil
          go_simp
          (with_reducible refine (AB.out _).mono ?_)
          rintro e v3 ⟨rfl, hb3⟩
          try dsimp only
          refine hK.out _ _ (fun _ => hH.trans (hb3.mono hH.size)) ?_
          clear hK K
          have hH := hH.trans (hb3.mono hH.size)
          clear hb3
          try simp only [Act.put, List.setIfInBounds_toArray, List.set_cons_zero, List.set_cons_succ]
          refine wpAnyT_take (i := 13) (v := ?_) (by simp only [List.getElem?_toArray, List.getElem?_cons_succ, List.getElem?_cons_zero]; rfl) (by kernel_rfl) (by kernel_rfl) (by kernel_rfl) (by kernel_rfl) (fun _ hj => by cases hj) (by exact fun _ _ _ h => h) (Or.inl ⟨by rfl, ?_⟩) hH ?_
          rotate_left
          · (intro wS hS; clear hS; go_simp; try rfl)
          try simp only [Act.put, List.setIfInBounds_toArray, List.set_cons_zero, List.set_cons_succ]
          refine wpAnyT_take (i := 14) (v := ?_) (by simp only [List.getElem?_toArray, List.getElem?_cons_succ, List.getElem?_cons_zero]; rfl) (by kernel_rfl) (by kernel_rfl) (by kernel_rfl) (by kernel_rfl) (fun _ hj => by cases hj) (by exact fun _ _ _ h => h) (Or.inl ⟨by rfl, ?_⟩) hH ?_
          rotate_left
          · (intro wS hS; clear hS; go_simp; try rfl)
          try simp only [Act.put, List.setIfInBounds_toArray, List.set_cons_zero, List.set_cons_succ]
          refine wpAnyT_take (i := 15) (v := ?_) (by simp only [List.getElem?_toArray, List.getElem?_cons_succ, List.getElem?_cons_zero]; rfl) (by kernel_rfl) (by kernel_rfl) (by kernel_rfl) (by kernel_rfl) (fun _ hj => by cases hj) (by exact fun _ _ _ h => h) (Or.inl ⟨by rfl, ?_⟩) hH ?_
          rotate_left
          · (intro wS hS; clear hS; go_simp; try rfl)
          try simp only [Act.put, List.setIfInBounds_toArray, List.set_cons_zero, List.set_cons_succ]
          refine wpAnyT_done (by kernel_rfl) ?_ _
          go_wp2_with fail
          go_roundw
          case rel => exact ⟨k + 1, by rw [LE.out], by rw [← Nat.add_assoc, ET.out]; go_num, by have := ET.out; omega, K3.out.step hH, B3.out.trans (hH.mono B3.out.size)⟩
          case measure => simp [intOf]; omega
        · have LE : Hid (L (k + 1) = p) := by
            refine Lib.hid ?_
            rw [LI.out, if_neg]
            rintro ⟨-, h | h⟩
            · omega
            · exact hlt2 h
          obtain ⟨ax, hax⟩ : ∃ z : Int, (x.natAbs : Int) = z := ⟨_, rfl⟩
          obtain ⟨ay, hay⟩ : ∃ z : Int, (y.natAbs : Int) = z := ⟨_, rfl⟩
          have l9 : ¬ ax < ay := by omega
          rw [hax] at AX
          rw [hay] at AB
          clear hx0 h1 hax hay hlt2
          go_wp2_with fail
          refine wp_region_T (S := fun w' => Below wr.heap.size wr w') (T := fun _ => false) (by kernel_rfl) (Below.refl _ _).drew (fun hH => ?_)
          refine wpAnyT_take (i := 0) (v := ?_) (by simp only [List.getElem?_toArray, List.getElem?_cons_zero]; rfl) (by kernel_rfl) (by kernel_rfl) (by kernel_rfl) (by kernel_rfl) (fun _ hj => by cases hj) (by exact fun _ _ _ h => h) (Or.inl ⟨by rfl, ?_⟩) hH ?_
          rotate_left
          · (intro wS hS; clear hS; go_simp; try rfl)
          try simp only [Act.put, List.setIfInBounds_toArray, List.set_cons_zero, List.set_cons_succ]
          refine wpAnyT_take (i := 1) (v := ?_) (by simp only [List.getElem?_toArray, List.getElem?_cons_succ, List.getElem?_cons_zero]; rfl) (by kernel_rfl) (by kernel_rfl) (by kernel_rfl) (by kernel_rfl) (fun _ hj => by cases hj) (by exact fun _ _ _ h => h) (Or.inl ⟨by rfl, ?_⟩) hH ?_
          rotate_left
          · (intro wS hS; clear hS; go_simp; try rfl)
          try simp only [Act.put, List.setIfInBounds_toArray, List.set_cons_zero, List.set_cons_succ]
          refine wpAnyT_take (i := 2) (v := ?_) (by simp only [List.getElem?_toArray, List.getElem?_cons_succ, List.getElem?_cons_zero]; rfl) (by kernel_rfl) (by kernel_rfl) (by kernel_rfl) (by kernel_rfl) (fun _ hj => by cases hj) (by exact fun _ _ _ h => h) (Or.inl ⟨by rfl, ?_⟩) hH ?_
          rotate_left
          · (intro wS hS; clear hS; go_simp; try rfl)
          try simp only [Act.put, List.setIfInBounds_toArray, List.set_cons_zero, List.set_cons_succ]
          refine wpAnyT_take (i := 3) (v := ?_) (by simp only [List.getElem?_toArray, List.getElem?_cons_succ, List.getElem?_cons_zero]; rfl) (by kernel_rfl) (by kernel_rfl) (by kernel_rfl) (by kernel_rfl) (fun _ hj => by cases hj) (by exact fun _ _ _ h => h) (Or.inl ⟨by rfl, ?_⟩) hH ?_
          rotate_left
          · (intro wS hS; clear hS; go_simp; try rfl)
          try simp only [Act.put, List.setIfInBounds_toArray, List.set_cons_zero, List.set_cons_succ]
          refine wpAnyT_take (i := 4) (v := ?_) (by simp only [List.getElem?_toArray, List.getElem?_cons_succ, List.getElem?_cons_zero]; rfl) (by kernel_rfl) (by kernel_rfl) (by kernel_rfl) (by kernel_rfl) (fun _ hj => by cases hj) (by exact fun _ _ _ h => h) (Or.inl ⟨by rfl, ?_⟩) hH ?_
          rotate_left
          · (intro wS hS; clear hS; go_simp; try rfl)
          try simp only [Act.put, List.setIfInBounds_toArray, List.set_cons_zero, List.set_cons_succ]
          refine wpAnyT_take (i := 5) (v := ?_) (by simp only [List.getElem?_toArray, List.getElem?_cons_succ, List.getElem?_cons_zero]; rfl) (by kernel_rfl) (by kernel_rfl) (by kernel_rfl) (by kernel_rfl) (fun _ hj => by cases hj) (by exact fun _ _ _ h => h) (Or.inl ⟨by rfl, ?_⟩) hH ?_
          rotate_left
          · (intro wS hS; clear hS; go_simp; try rfl)
          try simp only [Act.put, List.setIfInBounds_toArray, List.set_cons_zero, List.set_cons_succ]
          refine wpAnyT_take (i := 6) (v := ?_) (by simp only [List.getElem?_toArray, List.getElem?_cons_succ, List.getElem?_cons_zero]; rfl) (by kernel_rfl) (by kernel_rfl) (by kernel_rfl) (by kernel_rfl) (fun _ hj => by cases hj) (by exact fun _ _ _ h => h) (Or.inl ⟨by rfl, ?_⟩) hH ?_
          rotate_left
          · (intro wS hS; clear hS; go_simp; try rfl)
          try simp only [Act.put, List.setIfInBounds_toArray, List.set_cons_zero, List.set_cons_succ]
          refine wpAnyT_take (i := 8) (v := ?_) (by simp only [List.getElem?_toArray, List.getElem?_cons_succ, List.getElem?_cons_zero]; rfl) (by kernel_rfl) (by kernel_rfl) (by kernel_rfl) (by kernel_rfl) (fun _ hj => by cases hj) (by exact fun _ _ _ h => h) (Or.inl ⟨by rfl, ?_⟩) hH ?_
          rotate_left
          · (intro wS hS; (try dsimp only at hS); obtain ⟨k1, k2, k3⟩ := leF KI.out hS; go_simp; try rfl)
          try simp only [Act.put, List.setIfInBounds_toArray, List.set_cons_zero, List.set_cons_succ]
          refine wpAnyT_take (i := 9) (v := ?_) (by simp only [List.getElem?_toArray, List.getElem?_cons_succ, List.getElem?_cons_zero]; rfl) (by kernel_rfl) (by kernel_rfl) (by kernel_rfl) (by kernel_rfl) (fun _ hj => by cases hj) (by exact fun _ _ _ h => h) (Or.inl ⟨by rfl, ?_⟩) hH ?_
          rotate_left
          · (intro wS hS; clear hS; go_simp; try rfl)
          try simp only [Act.put, List.setIfInBounds_toArray, List.set_cons_zero, List.set_cons_succ]
          refine wpAnyT_take (i := 10) (v := ?_) (by simp only [List.getElem?_toArray, List.getElem?_cons_succ, List.getElem?_cons_zero]; rfl) (by kernel_rfl) (by kernel_rfl) (by kernel_rfl) (by kernel_rfl) (fun _ hj => by cases hj) (by exact fun _ _ _ h => h) (Or.inl ⟨by rfl, ?_⟩) hH ?_
          rotate_left
          · (intro wS hS; clear hS; go_simp; try rfl)
          try simp only [Act.put, List.setIfInBounds_toArray, List.set_cons_zero, List.set_cons_succ]
          refine wpAnyT_ready (rs := [7]) (by kernel_rfl) (by simp) ?_
          refine AllReadyT.cons (by simp only [List.getElem?_toArray, List.getElem?_cons_succ, List.getElem?_cons_zero]; rfl) (fun K hK => ?_) AllReadyT.nil
          go_simp
          (with_reducible refine (AX.out _).mono ?_)
          rintro e v1 ⟨rfl, hb1⟩
          try dsimp only
          refine hK.out _ _ (fun _ => hH.trans (hb1.mono hH.size)) ?_
          clear hK K
          have hH := hH.trans (hb1.mono hH.size)
          clear hb1
          try simp only [Act.put, List.setIfInBounds_toArray, List.set_cons_zero, List.set_cons_succ]
          refine wpAnyT_ready (rs := [11]) (by kernel_rfl) (by simp) ?_
          refine AllReadyT.cons (by simp only [List.getElem?_toArray, List.getElem?_cons_succ, List.getElem?_cons_zero]; rfl) (fun K hK => ?_) AllReadyT.nil
          go_simp
          (with_reducible refine (CB.out _ (hH.mono (Nat.le_refl _))).mono ?_)
          rintro e v2 ⟨rfl, hb2⟩
          try dsimp only
          refine hK.out _ _ (fun _ => hH.trans (hb2.mono hH.size)) ?_
          clear hK K
          have hH := hH.trans (hb2.mono hH.size)
          clear hb2
          try simp only [Act.put, List.setIfInBounds_toArray, List.set_cons_zero, List.set_cons_succ]
          refine wpAnyT_ready (rs := [12]) (by kernel_rfl) (by simp) ?_
          refine AllReadyT.cons (by simp only [List.getElem?_toArray, List.getElem?_cons_succ, List.getElem?_cons_zero]; rfl) (fun K hK => ?_) AllReadyT.nil
          go_simp
          (with_reducible refine (AB.out _).mono ?_)
          rintro e v3 ⟨rfl, hb3⟩
          try dsimp only
          refine hK.out _ _ (fun _ => hH.trans (hb3.mono hH.size)) ?_
          clear hK K
          have hH := hH.trans (hb3.mono hH.size)
          clear hb3
          try simp only [Act.put, List.setIfInBounds_toArray, List.set_cons_zero, List.set_cons_succ]
          refine wpAnyT_take (i := 13) (v := ?_) (by simp only [List.getElem?_toArray, List.getElem?_cons_succ, List.getElem?_cons_zero]; rfl) (by kernel_rfl) (by kernel_rfl) (by kernel_rfl) (by kernel_rfl) (fun _ hj => by cases hj) (by exact fun _ _ _ h => h) (Or.inl ⟨by rfl, ?_⟩) hH ?_
          rotate_left
          · (intro wS hS; clear hS; go_simp; try rfl)
          try simp only [Act.put, List.setIfInBounds_toArray, List.set_cons_zero, List.set_cons_succ]
          refine wpAnyT_take (i := 14) (v := ?_) (by simp only [List.getElem?_toArray, List.getElem?_cons_succ, List.getElem?_cons_zero]; rfl) (by kernel_rfl) (by kernel_rfl) (by kernel_rfl) (by kernel_rfl) (fun _ hj => by cases hj) (by exact fun _ _ _ h => h) (Or.inl ⟨by rfl, ?_⟩) hH ?_
          rotate_left
          · (intro wS hS; clear hS; go_simp; try rfl)
          try simp only [Act.put, List.setIfInBounds_toArray, List.set_cons_zero, List.set_cons_succ]
          refine wpAnyT_take (i := 15) (v := ?_) (by simp only [List.getElem?_toArray, List.getElem?_cons_succ, List.getElem?_cons_zero]; rfl) (by kernel_rfl) (by kernel_rfl) (by kernel_rfl) (by kernel_rfl) (fun _ hj => by cases hj) (by exact fun _ _ _ h => h) (Or.inl ⟨by rfl, ?_⟩) hH ?_
          rotate_left
          · (intro wS hS; clear hS; go_simp; try rfl)
          try simp only [Act.put, List.setIfInBounds_toArray, List.set_cons_zero, List.set_cons_succ]
          refine wpAnyT_done (by kernel_rfl) ?_ _
          go_wp2_with fail
          go_roundw
          case rel => exact ⟨k + 1, by rw [LE.out], by rw [← Nat.add_assoc, ET.out]; go_num, by have := ET.out; omega, K3.out.step hH, B3.out.trans (hH.mono B3.out.size)⟩
          case measure => simp [intOf]; omega
    · have hke : Hid (k = R - t) := by show _ = _; omega
      go_wp2_with fail
      go_ret
      exact ⟨by rw [← hke.out]; rfl, B.out⟩
end Go.Proofs.Ytpelnfenfeoeeaa
end

section
/-
  Chapter 1, in the model: GcdOf.
-/
namespace Go.Proofs.Ytpelnfenfeoeeaa
open Go.RowKit

set_option maxHeartbeats 400000 in
theorem sGcd (a b : Int) (w : World) (ha : -400000000 ≤ a ∧ a ≤ 400000000) (hb : -400000000 ≤ b ∧ b ≤ 400000000) :
    Calls Try.prog 74 #[.int .i64 a, .int .i64 b] w fun e w' => e = .returned (.int .i64 (Int.gcd a b : Int)) ∧ ∃ n, w' = w.drewN n := by
  obtain ⟨ha1, ha2⟩ := ha
  obtain ⟨hb1, hb2⟩ := hb
  go_enter Try.func74, Try.ntmps74
  go_wp2_with (go_at_call 105; refine (sIsNum_t _ _ (by omega) (by omega)).mono ?_; rintro e w' ⟨rfl, rfl⟩)
  go_loopw [0, 1] (fun x y wr => ∃ p q : Int, x = .int .i64 p ∧ y = .int .i64 q ∧ -400000000 ≤ p ∧ p ≤ 400000000 ∧ -400000000 ≤ q ∧ q ≤ 400000000 ∧ Int.gcd p q = Int.gcd a b ∧ ∃ n, wr = w.drewN n) (fun _ y _ => (intOf y).natAbs)
  case atStart => exact ⟨a, b, rfl, rfl, ha1, ha2, hb1, hb2, rfl, 0, rfl⟩
  case round =>
    obtain ⟨p, q, rfl, rfl, p1, p2, q1, q2, hg, n, rfl⟩ := hrel
    have HG := Lib.hid hg
    clear hg
    by_cases hq : q = 0
    · subst hq
      go_wp2
      all_goals
        go_ret
        exact ⟨by rw [← HG.out, Int.gcd_zero_right]; exact ret_int (by omega), n, rfl⟩
    · have t1 := tmod_small p q hq
      have t2 := gcd_round p q
      have b1 : -400000000 ≤ p.tmod q := by omega
      have b2 : p.tmod q ≤ 400000000 := by omega
      have T1 := Lib.hid t1
      have T2 := Lib.hid t2
      clear t1 t2
      have hq' : (q == 0) = false := by simpa using hq
      go_wp2
      go_quiet (fail)
      go_wp2
      go_roundw
      case rel => exact ⟨q, p.tmod q, rfl, rfl, q1, q2, b1, b2, T2.out.trans HG.out, _, by rw [World.drewN_drewN]⟩
      case measure => simpa [intOf] using T1.out
theorem sGcd_f (a b : Int) (w : World) (h : ¬ ((-400000000 ≤ a ∧ a ≤ 400000000) ∧ (-400000000 ≤ b ∧ b ≤ 400000000))) :
    Calls Try.prog 74 #[.int .i64 a, .int .i64 b] w fun e w' => e = .returned (.int .i64 0) ∧ w = w' := by
  by_cases ha : -400000000 ≤ a ∧ a ≤ 400000000
  · have hb : b < -400000000 ∨ 400000000 < b := by omega
    clear h
    go_enter Try.func74, Try.ntmps74
    go_wp2_with fail
    refine (sIsNum_t _ _ ha.1 ha.2).mono ?_
    rintro e w' ⟨rfl, rfl⟩
    go_wp2_with fail
    refine (sIsNum_f _ _ hb).mono ?_
    rintro e w' ⟨rfl, rfl⟩
    go_wp2_with fail
    go_ret
    exact ⟨rfl, rfl⟩
  · have ha' : a < -400000000 ∨ 400000000 < a := by omega
    clear h ha
    go_enter Try.func74, Try.ntmps74
    go_wp2_with fail
    refine (sIsNum_f _ _ ha').mono ?_
    rintro e w' ⟨rfl, rfl⟩
    go_wp2_with fail
    go_ret
    exact ⟨rfl, rfl⟩

end Go.Proofs.Ytpelnfenfeoeeaa
end

section
/-
  Chapter 3, in the program: IsMatrix.
-/
namespace Go.Proofs.Ytpelnfenfeoeeaa
open Go.RowKit

theorem iSize_t (n : Int) (w : World) (h1 : 0 ≤ n) (h2 : n ≤ 24) :
    Calls Try.prog 112 #[.int .i64 n] w fun e w' => e = .returned (.bool true) ∧ w = w' := by
  go_enter Try.func112, Try.ntmps112
  go_wp2
  go_ret
  exact ⟨rfl, rfl⟩
theorem iSize_f (n : Int) (w : World) (h : n < 0 ∨ 24 < n) :
    Calls Try.prog 112 #[.int .i64 n] w fun e w' => e = .returned (.bool false) ∧ w = w' := by
  by_cases h1 : 0 ≤ n
  · have h2 : decide (n ≤ 24) = false := by simp; omega
    go_enter Try.func112, Try.ntmps112
    go_wp2
    go_ret
    exact ⟨rfl, rfl⟩
  · go_enter Try.func112, Try.ntmps112
    go_wp2
    go_ret
    exact ⟨rfl, rfl⟩
theorem iSize (n : Int) (w : World) :
    Calls Try.prog 112 #[.int .i64 n] w fun e w' => e = .returned (.bool (decide (SizeP n))) ∧ w = w' := by
  by_cases h : SizeP n
  · rw [decide_eq_true h]; exact iSize_t n w h.1 h.2
  · rw [decide_eq_false h]; exact iSize_f n w (by unfold SizeP at h; omega)
theorem iIsNum (n : Int) (w : World) :
    Calls Try.prog 114 #[.int .i64 n] w fun e w' => e = .returned (.bool (decide (NumP n))) ∧ w = w' := by
  by_cases h : NumP n
  · rw [decide_eq_true h]; exact iIsNum_t n w h.1 h.2
  · rw [decide_eq_false h]; exact iIsNum_f n w (by unfold NumP at h; omega)
/-- The step of IsMatrix's fold. -/
theorem iStep (b : Bool) (i j z : Int) (w : World) :
    Calls Try.prog 113 #[.bool b, .int .i64 i, .int .i64 j, .int .i64 z] w fun e w' => e = .returned (.bool (b && decide (NumP z))) ∧ w = w' := by
  cases b
  · go_enter Try.func113, Try.ntmps113
    go_wp2_with fail
    go_ret
    exact ⟨rfl, rfl⟩
  · go_enter Try.func113, Try.ntmps113
    go_wp2_with fail
    refine (iIsNum z _).mono ?_
    rintro e w' ⟨rfl, rfl⟩
    go_wp2_with fail
    go_ret
    exact ⟨rfl, rfl⟩
theorem take_nums (zs : List Int) (k : Nat) (hk : k < zs.length) : nums (zs.take (k + 1)) = (nums (zs.take k) && decide (NumP (zs.getD k 0))) := by
  unfold nums
  rw [List.take_succ_eq_append_getElem hk, List.all_append]
  simp only [List.all_cons, List.all_nil, Bool.and_true, List.getD, List.getElem?_eq_getElem hk, Option.getD_some]
set_option maxHeartbeats 400000 in
theorem iFoldB (r c : Int) (a : Option Addr) (cap : Nat) (zs : List Int) (w : World) (h : Rd w a zs) (hn : zs.length ≤ 16777216) (hc : zs.length = 0 ∨ 0 < c) :
    Calls Try.prog 66 #[.agg #[.int .i64 r, .int .i64 c, .slice a zs.length cap], .bool true, .func (.func 113) #[] #[]] w (Gives (.bool (nums zs)) w) := by
  have B0 : ∀ o, Below w.heap.size w (w.alloc o) := fun o => (Below.refl _ _).alloc (Nat.le_refl _) o
  have BH := Lib.hid B0
  have H := Lib.hid h
  obtain ⟨n, hnn⟩ : ∃ n, zs.length = n := ⟨_, rfl⟩
  have HN := Lib.hid hnn
  rw [hnn] at hn hc ⊢
  clear h B0 hnn
  go_enter Try.func66, Try.ntmps66
  go_wp2_with fail
  go_loopw [7, 8, 9, 14] (fun b _ _ i wr => ∃ k : Nat, i = .int .i64 k ∧ k ≤ n ∧ b = .bool (nums (zs.take k)) ∧ ∃ q, wr = (w.alloc (.cells #[.int .i64 r, .int .i64 c, .slice a n cap] 26)).drewN q) (fun _ _ _ i _ => n - (intOf i).toNat)
  case atStart => exact ⟨0, rfl, by omega, rfl, 0, rfl⟩
  case round =>
    obtain ⟨k, rfl, hk, rfl, q, rfl⟩ := hrel
    by_cases hlt : k < n
    · have c0 : (c == 0) = false := by simp; omega
      obtain ⟨b, o, rfl, hcell⟩ := (H.out.below (BH.out (.cells #[.int .i64 r, .int .i64 c, .slice a n cap] 26))) k (by rw [HN.out]; exact hlt)
      obtain ⟨z, hz⟩ : ∃ z, zs.getD k 0 = z := ⟨_, rfl⟩
      obtain ⟨bb, hbb⟩ : ∃ bb, nums (zs.take k) = bb := ⟨_, rfl⟩
      rw [hz] at hcell
      have Z := Lib.hid hz
      have BB := Lib.hid hbb
      rw [hbb]
      clear hz hbb
      go_wp2_with fail
      go_quiet ((refine (iStep _ _ _ _ _).mono ?_; rintro e w' ⟨rfl, rfl⟩; exact ⟨rfl, _, rfl⟩))
      go_wp2_with fail
      go_roundw
      case rel => exact ⟨k + 1, by go_num, by omega, by rw [take_nums zs k (by rw [HN.out]; exact hlt), BB.out, Z.out], _, rfl⟩
      case measure => simp [intOf]; omega
    · have hkn : k = n := by omega
      subst hkn
      have E : Hid (nums (zs.take k) = nums zs) := by show nums (zs.take k) = nums zs; rw [← HN.out, List.take_length]
      go_wp2_with fail
      go_ret
      exact ⟨by rw [E.out]; rfl, below_drewN (BH.out _) q⟩

set_option maxHeartbeats 400000 in
theorem iIsMat (r c : Int) (a : Option Addr) (cap : Nat) (zs : List Int) (w : World) (h : Rd w a zs) (hn : zs.length ≤ 16777216) :
    Calls Try.prog 58 #[.agg #[.int .i64 r, .int .i64 c, .slice a zs.length cap]] w (Gives (.bool (isMat r c zs)) w) := by
  have B0 : ∀ o, Below w.heap.size w (w.alloc o) := fun o => (Below.refl _ _).alloc (Nat.le_refl _) o
  have BH := Lib.hid B0
  have H := Lib.hid h
  clear h B0
  obtain ⟨n, hnn⟩ : ∃ n, zs.length = n := ⟨_, rfl⟩
  have HN := Lib.hid hnn
  have ED : isMat r c zs = (decide (SizeP r) && decide (SizeP c) && decide ((n : Int) = r * c) && nums zs) := by unfold isMat; rw [hnn]
  have E := Lib.hid ED
  rw [hnn] at hn ⊢
  clear hnn ED
  by_cases hr : 0 ≤ r ∧ r ≤ 24
  · by_cases hc : 0 ≤ c ∧ c ≤ 24
    · obtain ⟨m1, m2⟩ := mul_size r c hr hc
      by_cases hl : (n : Int) = r * c
      · have l1 : ((n : Int) != r * c) = false := by simpa using hl
        have l2 : ((n : Int) == r * c) = true := by simpa using hl
        have E2 : Hid (isMat r c zs = nums zs) := by
          show isMat r c zs = nums zs
          rw [E.out, show decide (SizeP r) = true from decide_eq_true hr, show decide (SizeP c) = true from decide_eq_true hc, show decide ((n : Int) = r * c) = true from decide_eq_true hl]; rfl
        have hz : zs.length = 0 ∨ 0 < c := by
          rw [HN.out]
          rcases Nat.eq_zero_or_pos n with e | e
          · exact .inl e
          · right
            rcases Int.lt_or_lt_of_ne (a := c) (b := 0) (fun e0 => by rw [e0, Int.mul_zero] at hl; omega) with h | h <;> omega
        have HZ := Lib.hid hz
        clear hl hz
        obtain ⟨r1, r2⟩ := hr
        obtain ⟨c1, c2⟩ := hc
        go_enter Try.func58, Try.ntmps58
        go_wp2_with (go_at_call 112; refine (iSize_t _ _ (by omega) (by omega)).mono ?_; rintro e w' ⟨rfl, rfl⟩)
        have ST := iFoldB r c a cap zs _ (H.out.below (BH.out (.cells #[.int .i64 r, .int .i64 c, .slice a n cap] 26))) (by rw [HN.out]; exact hn) HZ.out
        rw [HN.out] at ST
        refine ST.mono ?_
        clear ST
        rintro e w' ⟨rfl, hb⟩
        have HB := Lib.hid ((BH.out _).trans (hb.mono (BH.out (.cells #[.int .i64 r, .int .i64 c, .slice a n cap] 26)).size))
        clear hb
        go_wp2_with fail
        go_ret
        exact ⟨by rw [E2.out]; rfl, HB.out⟩
      · have l1 : ((n : Int) != r * c) = true := by simpa using hl
        have l2 : ((n : Int) == r * c) = false := by simpa using hl
        have E2 : Hid (isMat r c zs = false) := by
          show isMat r c zs = false
          rw [E.out, show decide ((n : Int) = r * c) = false from decide_eq_false hl]; simp
        clear hl
        obtain ⟨r1, r2⟩ := hr
        obtain ⟨c1, c2⟩ := hc
        go_enter Try.func58, Try.ntmps58
        go_wp2_with (go_at_call 112; refine (iSize_t _ _ (by omega) (by omega)).mono ?_; rintro e w' ⟨rfl, rfl⟩)
        go_ret
        exact ⟨by rw [E2.out]; rfl, BH.out _⟩
    · have E2 : Hid (isMat r c zs = false) := by
        show isMat r c zs = false
        rw [E.out, show decide (SizeP c) = false from decide_eq_false hc]; simp
      have hc' : c < 0 ∨ 24 < c := by omega
      clear hc
      go_enter Try.func58, Try.ntmps58
      go_wp2_with fail
      refine (iSize_t r _ hr.1 hr.2).mono ?_
      rintro e w' ⟨rfl, rfl⟩
      go_wp2_with fail
      refine (iSize_f c _ hc').mono ?_
      rintro e w' ⟨rfl, rfl⟩
      go_wp2_with fail
      go_ret
      exact ⟨by rw [E2.out]; rfl, BH.out _⟩
  · have E2 : Hid (isMat r c zs = false) := by
      show isMat r c zs = false
      rw [E.out, show decide (SizeP r) = false from decide_eq_false hr]; simp
    have hr' : r < 0 ∨ 24 < r := by omega
    clear hr
    go_enter Try.func58, Try.ntmps58
    go_wp2_with fail
    refine (iSize_f r _ hr').mono ?_
    rintro e w' ⟨rfl, rfl⟩
    go_wp2_with fail
    go_ret
    exact ⟨by rw [E2.out]; rfl, BH.out _⟩
end Go.Proofs.Ytpelnfenfeoeeaa
end

section
/-
  Chapter 3, in the program: a row that shares its memory with the matrix.
-/
namespace Go.Proofs.Ytpelnfenfeoeeaa
set_option maxRecDepth 100000
open Go.RowKit

/-- The cells of a row. -/
def rwL (c : Nat) (v : Nat → Int) : List Int := (List.range c).map v
theorem rwL_length (c : Nat) (v : Nat → Int) : (rwL c v).length = c := by simp [rwL]
theorem rwL_at {c : Nat} {v : Nat → Int} {j : Nat} (hj : j < c) : (rwL c v).getD j 0 = v j := by simp [rwL, List.getD, hj]
theorem rwL_congr {c : Nat} {u v : Nat → Int} (h : ∀ j, j < c → u j = v j) : rwL c u = rwL c v := List.map_congr_left fun j hj => h j (List.mem_range.mp hj)
/-- What rowIn gives: a slice q' of the room behind cell D of what q begins. -/
def RowAt (q : Option Addr) (D c : Nat) (w : World) (e : Ending) (w' : World) : Prop :=
  ∃ (q' : Option Addr) (m' : Nat), e = .returned (.slice q' c m') ∧ c ≤ m' ∧ (∀ g o : Nat, q = some ⟨g, o, none⟩ → 0 < c → q' = some ⟨g, o + D, none⟩) ∧ (q = none → q' = none) ∧ Below w.heap.size w w'
/-- A row of what is read. -/
theorem Rd.row {w : World} {q q' : Option Addr} {xs : List Int} {r c i : Nat} (h : Rd w q xs) (hx : xs.length = r * c) (hi : i < r) (hq : ∀ g o : Nat, q = some ⟨g, o, none⟩ → 0 < c → q' = some ⟨g, o + i * c, none⟩) : Rd w q' (rwL c (mxC c xs i)) := fun j hj => by
  rw [rwL_length] at hj
  obtain ⟨b, o, ha, hc⟩ := h (i * c + j) (by rw [hx]; exact idx_lt hi hj)
  refine ⟨b, o + i * c, hq b o ha (by omega), ?_⟩
  rw [rwL_at hj, Nat.add_assoc]
  exact hc
set_option maxHeartbeats 1000000 in
theorem iRowIn (r c i D N cap : Nat) (q : Option Addr) (w : World) (hq : Spot q) (hD : i * c = D) (hN : D + c ≤ N) (hc : N ≤ cap) (hn : q = none → cap = 0) (h1 : N ≤ 600) (hi : i ≤ 600) :
    Calls Try.prog 83 #[.agg #[.int .i64 r, .int .i64 c, .slice q N cap], .int .i64 i] w (RowAt q D c w) := by
  have u1 : (i : Int) * (c : Int) = (D : Int) := by rw [← hD]; exact (Int.natCast_mul _ _).symm
  have u2 : ((i : Int) + 1) * (c : Int) = ((D + c : Nat) : Int) := by rw [Int.add_mul, Int.one_mul, u1]; rfl
  have v1 : IntKind.i64.wrap ((i : Int) * (c : Int)) = (D : Int) := by rw [u1]; exact IntWalk.i64_in _ (by omega)
  have v2 : IntKind.i64.wrap ((i : Int) + 1) = (i : Int) + 1 := IntWalk.i64_in _ (by omega)
  have v3 : IntKind.i64.wrap (((i : Int) + 1) * (c : Int)) = ((D + c : Nat) : Int) := by rw [u2]; exact IntWalk.i64_in _ (by omega)
  have Z : Hid (c = 0 → D = 0) := fun h => by rw [← hD, h, Nat.mul_zero]
  have Dm : D + c ≤ cap := by omega
  have K0 : Hid (Blk3 (w.alloc (.cells #[.int .i64 r, .int .i64 c, .slice q N cap] 26)) w.heap.size 26 (.int .i64 r) (.int .i64 c) (.slice q N cap)) := Blk3.at_ _ _ _ _ rfl
  have B : Hid (Below w.heap.size w (w.alloc (.cells #[.int .i64 r, .int .i64 c, .slice q N cap] 26))) := (Below.refl _ _).alloc (Nat.le_refl _) _
  clear hD u1 u2
  rcases hq with rfl | ⟨g, o, rfl⟩
  · obtain rfl : cap = 0 := hn rfl
    obtain rfl : c = 0 := by omega
    obtain rfl : D = 0 := by omega
    obtain rfl : N = 0 := by omega
    go_enter Try.func83, Try.ntmps83
    go_wp2_with fail
    exact bodyPost_ret (v := .slice none 0 0) (by simp [results, Try.results83, go_sem]) rfl ⟨none, 0, rfl, Nat.le_refl _, (fun g o h => by cases h), (fun _ => rfl), B.out⟩
  · rcases Nat.lt_or_ge D cap with hlt | hge
    · go_enter Try.func83, Try.ntmps83
      go_wp2_with fail
      rw [show D + c - D = c by omega]
      exact bodyPost_ret (v := .slice (some ⟨g, o + D, none⟩) c (cap - D)) (by simp [results, Try.results83, go_sem]) rfl ⟨_, _, rfl, by omega, (fun g' o' h _ => by injection h with h; injection h with h1 h2; rw [h1, h2]), (fun h => by cases h), B.out⟩
    · obtain rfl : c = 0 := by omega
      obtain rfl : D = 0 := Z.out rfl
      obtain rfl : cap = 0 := by omega
      obtain rfl : N = 0 := by omega
      go_enter Try.func83, Try.ntmps83
      go_wp2_with fail
      exact bodyPost_ret (v := .slice (some ⟨g, o, none⟩) 0 0) (by simp [results, Try.results83, go_sem]) rfl ⟨_, _, rfl, Nat.le_refl _, (fun g' o' h h0 => by omega), (fun h => by cases h), B.out⟩
end Go.Proofs.Ytpelnfenfeoeeaa
end

section
/-
  What cutting out a row asks of a matrix's cells.
-/
namespace Go.Proofs.Ytpelnfenfeoeeaa
open Go.RowKit

/-- What cutting out a row asks of a matrix's cells. -/
structure CelA (a : Option Addr) (L m : Nat) : Prop where
  spot : Spot a
  le : L ≤ m
  nil : a = none → m = 0
theorem Own.celA {B N cap : Nat} {w : World} {q : Option Addr} {zs : List Int} (h : Own B w (.slice q N cap) zs) : CelA q N cap := by
  rcases h with ⟨e, -⟩ | ⟨g, c, e, -, -, h3, -⟩
  · injection e with e1 e2 e3
    subst e1 e2 e3
    exact ⟨.inl rfl, Nat.le_refl _, fun _ => rfl⟩
  · injection e with e1 e2 e3
    subst e1 e2 e3
    exact ⟨Spot.of _ _, h3, fun h => by cases h⟩
end Go.Proofs.Ytpelnfenfeoeeaa
end
