/-
  Texts of this seat, joined: ZASmK · ZASmJ · ZAMatI · ZARI1 · ZARI2 · ZARdCells · ZAShelf · ZACloneI · ZACopyI · ZADoneI · ZARI3 · ZARI3a
-/
import Derived.BigQuiet
import Derived.Deep.QuietTactic
import Derived.Handy
import Derived.Ground.Names2Prog
import Derived.Shelf.Slices.Clone
import Derived.Test.YtpelnfenfeoeeaaProg
import Derived.Deep.RegionHeld3
import Derived.Deep.DeepCutAuto
import Derived.Test.YtpelnfenfeoeeaaPk24
import Derived.Test.YtpelnfenfeoeeaaPk25

section
/-
  Plain mathematics of chapter 13: the rounds come to an end; Smith forms as they are made. Nothing of a program is used.
-/
namespace Go.Proofs.Ytpelnfenfeoeeaa
def FlagS (R C t : Nat) (s : SSt) : Prop := plS R C t s = some (t, t) ∧ ∃ b, t < b ∧ b < C ∧ cel3S C s t b % cel3S C s t t ≠ 0
def FuelS (R C t f : Nat) (s : SSt) : Prop := 1 ≤ f ∧ ∀ i j, plS R C t s = some (i, j) → 2 * (cel3S C s i j).natAbs + 1 < f ∨ (FlagS R C t s ∧ 2 * (cel3S C s i j).natAbs < f)
def fu0 (R C t : Nat) (s : SSt) : Nat := match plS R C t s with
  | none => 1
  | some (i, j) => 2 * (cel3S C s i j).natAbs + 2
theorem FuelS.start (R C t : Nat) (s : SSt) : FuelS R C t (fu0 R C t s) s := by
  refine ⟨?_, fun i j h => ?_⟩
  · unfold fu0; split <;> omega
  · unfold fu0; rw [h]; exact .inl (by dsimp only; omega)
section
variable {R C t : Nat} {M : Mx} {s : SSt}
theorem FuelS.of_small {u : SSt} {f m a b : Nat} (hr : t < R) (hc : t < C) (hm : 2 * m ≤ f) (ha : t ≤ a) (haR : a < R) (hb : t ≤ b) (hbC : b < C) (hz : cel3S C u a b ≠ 0) (hl : (cel3S C u a b).natAbs < m) : FuelS R C t f u := by
  refine ⟨by omega, fun i j h => ?_⟩
  rcases plS_says R C t u hr hc with ⟨h1, -⟩ | ⟨i', j', hP⟩
  · rw [h1] at h; cases h
  · rw [hP.eq] at h
    cases h
    have := hP.least a b ha haR hb hbC hz
    exact .inl (by omega)
theorem fuel_left {i j f : Nat} (hF : Fin3 R C M s) (hI : SmI R C (mxC C s.1) t) (hr : t < R) (hc : t < C) (hP : PlaceP R C t s i j) (hfu : FuelS R C t (f + 1) s) (ho : ok3 (rdF R C t (sw3 R C t i j s)) = true) (hcl : clB R C t (rdF R C t (sw3 R C t i j s)) = false) : FuelS R C t f (rdF R C t (sw3 R C t i j s)) := by
  obtain ⟨-, -, -, g4, g5⟩ := round_says hF hI hr hc hP ho
  have hm : 2 * (cel3S C s i j).natAbs ≤ f := by
    rcases hfu.2 i j hP.eq with h | h
    · omega
    · omega
  have hnz := hP.nz
  rcases clB_false hcl with ⟨a, h1, h2, h3⟩ | ⟨b, h1, h2, h3⟩
  · have := g4 a h1 h2
    exact FuelS.of_small hr hc hm (by omega) h2 (Nat.le_refl _) hc h3 (by omega)
  · have e := g5 b h1 h2
    have b1 := Int.emod_nonneg (cel3S C (sw3 R C t i j s) t b) hnz
    have b2 := Int.emod_lt (cel3S C (sw3 R C t i j s) t b) hnz
    exact FuelS.of_small hr hc hm (Nat.le_refl _) hr (by omega) h2 h3 (by omega)
theorem fuel_add {i j f k : Nat} (hF : Fin3 R C M s) (hI : SmI R C (mxC C s.1) t) (hr : t < R) (hc : t < C) (hP : PlaceP R C t s i j) (hfu : FuelS R C t (f + 1) s) (ho : ok3 (rdF R C t (sw3 R C t i j s)) = true) (hcl : clB R C t (rdF R C t (sw3 R C t i j s)) = true) (hn : ndF R C t (rdF R C t (sw3 R C t i j s)) = some k) (ho2 : ok3 (row3 R C 2 t k 1 (rdF R C t (sw3 R C t i j s))) = true) : FuelS R C t f (row3 R C 2 t k 1 (rdF R C t (sw3 R C t i j s))) := by
  obtain ⟨g1, -, g3, -, g5⟩ := round_says hF hI hr hc hP ho
  obtain ⟨c1, c2⟩ := clB_true hcl
  obtain ⟨k0, k1, b, b0, b1, b2⟩ := ndF_some hn
  have hnz := hP.nz
  have hm : 2 * (cel3S C s i j).natAbs + 1 ≤ f := by
    rcases hfu.2 i j hP.eq with h | ⟨⟨e, b', h1, h2, h3⟩, -⟩
    · omega
    · exfalso
      rw [hP.eq] at e
      cases e
      have es : sw3 R C t t t s = s := by
        unfold sw3
        rw [if_neg (fun h => h rfl), if_neg (fun h => h rfl)]
      have := g5 b' h1 h2
      rw [c2 b' h1 h2, es] at this
      exact h3 this.symm
  obtain ⟨-, q2⟩ := g1.row (.inr (.inr rfl)) hr k1 (fun _ => by omega) (by decide) ho2
  have row : ∀ x, x < C → cel3S C (row3 R C 2 t k 1 (rdF R C t (sw3 R C t i j s))) t x = cel3S C (rdF R C t (sw3 R C t i j s)) t x + cel3S C (rdF R C t (sw3 R C t i j s)) k x := fun x hx => by
    rw [q2 t x hr hx]
    unfold opX
    rw [if_neg (by decide), if_neg (by decide), if_pos rfl, Int.mul_one]; rfl
  have ep : cel3S C (row3 R C 2 t k 1 (rdF R C t (sw3 R C t i j s))) t t = cel3S C s i j := by rw [row t hc, c1 k k0 k1, g3, Int.add_zero]
  have eb : cel3S C (row3 R C 2 t k 1 (rdF R C t (sw3 R C t i j s))) t b = cel3S C (rdF R C t (sw3 R C t i j s)) k b := by rw [row b b1, c2 b b0 b1, Int.zero_add]
  rw [g3] at b2
  rw [← eb] at b2
  generalize row3 R C 2 t k 1 (rdF R C t (sw3 R C t i j s)) = w at ep b2 ⊢
  refine ⟨by omega, fun i' j' h => ?_⟩
  rcases plS_says R C t w hr hc with ⟨h1, -⟩ | ⟨a', b', hP'⟩
  · rw [h1] at h; cases h
  · rw [hP'.eq] at h
    cases h
    have hle := hP'.least t t (Nat.le_refl _) hr (Nat.le_refl _) hc (by rw [ep]; exact hnz)
    rw [ep] at hle
    by_cases hlt : (cel3S C w i' j').natAbs < (cel3S C s i j).natAbs
    · exact .inl (by omega)
    · obtain ⟨e1, e2⟩ := hP'.first (by rw [ep]; exact hnz) (by rw [ep]; omega)
      subst e1 e2
      exact .inr ⟨⟨hP'.eq, b, b0, b1, by rw [ep]; exact b2⟩, by omega⟩
theorem nums_neg {I J C : Nat} {z : Int} {xs : List Int} (h : nums xs = true) : nums (opL 1 I J z C xs) = true := nums_true fun p hp => by
  rw [opL_length] at hp
  rw [opL_getD hp]
  unfold opAt
  rw [if_neg (by decide), if_pos rfl]
  have hx := nums_def h p
  split
  · rw [mulB_num hx (by decide)]
    have : NumP (xs.getD p 0 * -1) := by unfold NumP at *; omega
    rw [fitB_num this]; exact this
  · exact hx
def ng3 (R C t : Nat) (u : SSt) : SSt := if cel3S C u t t < 0 then row3 R C 1 t t 0 u else u
theorem ng3_says (hF : Fin3 R C M s) (hI : SmI R C (mxC C s.1) t) (hr : t < R) (hc : t < C) (h0 : cel3S C s t t ≠ 0) (h1 : ∀ i, t < i → i < R → cel3S C s i t = 0) (h2 : ∀ j, t < j → j < C → cel3S C s t j = 0) (h3 : ∀ i j, t < i → i < R → t < j → j < C → cel3S C s t t ∣ cel3S C s i j) : Fin3 R C M (ng3 R C t s) ∧ SmI R C (mxC C (ng3 R C t s).1) (t + 1) := by
  by_cases hn : cel3S C s t t < 0
  · have es : ng3 R C t s = row3 R C 1 t t 0 s := if_pos hn
    rw [es]
    obtain ⟨a, b, c⟩ := ok3_and hF.ok
    obtain ⟨q1, q2⟩ := hF.row (k := 1) (I := t) (J := t) (z := 0) (.inr (.inl rfl)) hr hr (fun h => absurd rfl h) (by decide) (ok3_of (nums_neg a) (nums_neg b) c)
    have other : ∀ i j, i < R → j < C → i ≠ t → cel3S C (row3 R C 1 t t 0 s) i j = cel3S C s i j := fun i j hi hj hne => by
      rw [q2 i j hi hj]
      unfold opX
      rw [if_neg (by decide), if_pos rfl, if_neg hne]; rfl
    have own : ∀ j, j < C → cel3S C (row3 R C 1 t t 0 s) t j = - cel3S C s t j := fun j hj => by
      rw [q2 t j hr hj]
      unfold opX
      rw [if_neg (by decide), if_pos rfl, if_pos rfl]; rfl
    refine ⟨q1, ((hI.op (k := 1) (z := 0) (Nat.le_refl _) hr (Nat.le_refl _) hr).congr fun i j hi hj => q2 i j hi hj).put hr hc ?_ ?_ ?_ ?_⟩
    · have := own t hc
      change 0 < cel3S C (row3 R C 1 t t 0 s) t t
      omega
    · intro j hj hjC
      have := own j hjC
      rw [h2 j hj hjC] at this
      exact this
    · intro i hi hiR
      exact (other i t hiR hc (by omega)).trans (h1 i hi hiR)
    · intro i j hi hiR hj hjC
      change cel3S C (row3 R C 1 t t 0 s) t t ∣ cel3S C (row3 R C 1 t t 0 s) i j
      rw [own t hc, other i j hiR hjC (by omega)]
      exact Int.neg_dvd.mpr (h3 i j hi hiR hj hjC)
  · have es : ng3 R C t s = s := if_neg hn
    rw [es]
    exact ⟨hF, hI.put hr hc (by change 0 < cel3S C s t t; omega) h2 h1 h3⟩
end
def outS (R C : Nat) : Nat → Nat → SSt → Option SSt
  | 0, _, s => some s
  | n + 1, t, s => match loopS R C t (fu0 R C t s) s with
    | none => none
    | some (u, b) => if b = true then outS R C n (t + 1) (ng3 R C t u) else some u
theorem outS_says {R C : Nat} {M : Mx} : ∀ (n t : Nat) (s : SSt) {s' : SSt}, t + n = min R C → Fin3 R C M s → SmI R C (mxC C s.1) t → outS R C n t s = some s' → Fin3 R C M s' ∧ ∃ f, SmP R C (mxC C s'.1) f
  | 0, t, s, s', hn, hF, hI, h => by
    cases h
    exact ⟨hF, _, hI.done fun i j h1 h2 h3 h4 => by omega⟩
  | n + 1, t, s, s', hn, hF, hI, h => by
    have hr : t < R := by omega
    have hc : t < C := by omega
    have e : outS R C (n + 1) t s = (match loopS R C t (fu0 R C t s) s with
      | none => none
      | some (u, b) => if b = true then outS R C n (t + 1) (ng3 R C t u) else some u) := rfl
    rw [e] at h
    cases hl : loopS R C t (fu0 R C t s) s with
    | none => rw [hl] at h; cases h
    | some z =>
      obtain ⟨u, b⟩ := z
      rw [hl] at h
      dsimp only at h
      obtain ⟨f1, i1, z1, z2⟩ := loopS_says hr hc _ s hF hI hl
      cases b with
      | false =>
        rw [if_neg (by decide)] at h
        cases h
        exact ⟨f1, _, i1.done (z1 rfl)⟩
      | true =>
        rw [if_pos rfl] at h
        obtain ⟨y0, y1, y2, y3⟩ := z2 rfl
        obtain ⟨f2, i2⟩ := ng3_says f1 i1 hr hc y0 y1 y2 y3
        exact outS_says n (t + 1) _ (by omega) f2 i2 h
def smX (R C : Nat) (xs : List Int) : Option SSt := outS R C (min R C) 0 (xs, idL R R, idL C C)
theorem smX_says {R C : Nat} {xs : List Int} {s : SSt} (hl : xs.length = R * C) (hn : nums xs = true) (h : smX R C xs = some s) : Fin3 R C (mxC C xs) s ∧ ∃ f, SmP R C (mxC C s.1) f := by
  refine outS_says (min R C) 0 (xs, idL R R, idL C C) (by omega) ⟨⟨hl, idL_length R R, idL_length C C, MkOr.of_nums hn, MkOr.of_nums (idL_nums R), MkOr.of_nums (idL_nums C)⟩, ok3_of hn (idL_nums R) (idL_nums C), ?_⟩ (SmI.start _ _ _) h
  exact (Acc3.start R C (mxC C xs)).congr (mxL_idL R).symm (mxL_idL C).symm fun _ _ _ _ => rfl
end Go.Proofs.Ytpelnfenfeoeeaa
end

section
/-
  Plain mathematics of chapter 13: what SmithForm, IsSmith and FactorsOf answer.
-/
namespace Go.Proofs.Ytpelnfenfeoeeaa
def lastD (C : Nat) (xs : List Int) (a : Nat) : Int := match a with
  | 0 => 1
  | a + 1 => mxC C xs a a
def okD (C : Nat) (xs : List Int) (a b : Nat) : Prop := (a ≠ b → mxC C xs a b = 0) ∧ 0 ≤ mxC C xs a b ∧ (a = b → lastD C xs a ∣ mxC C xs a b)
instance (C : Nat) (xs : List Int) (a b : Nat) : Decidable (okD C xs a b) := by unfold okD; exact inferInstance
def fcL (_R C : Nat) (xs : List Int) (i : Nat) : List Int := ((List.range i).map fun k => mxC C xs k k).filter fun x => decide (x ≠ 0)
theorem fcL_succ (R C : Nat) (xs : List Int) (i : Nat) : fcL R C xs (i + 1) = if mxC C xs i i = 0 then fcL R C xs i else fcL R C xs i ++ [mxC C xs i i] := by
  unfold fcL
  rw [List.range_succ, List.map_append, List.filter_append]
  by_cases h : mxC C xs i i = 0
  · rw [if_pos h]; simp [h]
  · rw [if_neg h]; simp [h]
theorem fcL_le (R C : Nat) (xs : List Int) (i : Nat) : (fcL R C xs i).length ≤ i := by
  unfold fcL
  refine Nat.le_trans (List.length_filter_le _ _) ?_
  simp
theorem fcL_form {R C : Nat} {xs : List Int} {f : Nat → Int} (h : SmP R C (mxC C xs) f) : ∃ T, T ≤ min R C ∧ (∀ i, i < T → f i ≠ 0) ∧ (∀ i, T ≤ i → f i = 0) ∧ fcL R C xs (min R C) = (List.range T).map f := by
  have key : ∀ n, n ≤ min R C → ∃ T, T ≤ n ∧ (∀ i, i < T → f i ≠ 0) ∧ (∀ i, T ≤ i → i < n → f i = 0) ∧ fcL R C xs n = (List.range T).map f := fun n => by
    induction n with
    | zero => exact fun _ => ⟨0, Nat.le_refl _, fun i hi => by omega, fun i _ hi => by omega, rfl⟩
    | succ n ih =>
      intro hn
      obtain ⟨T, h1, h2, h3, h4⟩ := ih (by omega)
      have e : mxC C xs n n = f n := by rw [h.dia n n (by omega) (by omega), if_pos rfl]
      rw [fcL_succ, e]
      by_cases h0 : f n = 0
      · rw [if_pos h0]
        refine ⟨T, by omega, h2, fun i hi hin => ?_, h4⟩
        rcases Nat.lt_or_ge i n with h5 | h5
        · exact h3 i hi h5
        · obtain rfl : i = n := by omega
          exact h0
      · rw [if_neg h0]
        have hT : T = n := by
          rcases Nat.lt_or_ge T n with h5 | h5
          · have h6 := h.dvd T n (by omega)
            rw [h3 T (Nat.le_refl _) h5] at h6
            exact absurd (Int.zero_dvd.mp h6) h0
          · omega
        subst hT
        refine ⟨T + 1, Nat.le_refl _, fun i hi => ?_, fun i hi hin => by omega, ?_⟩
        · rcases Nat.lt_or_ge i T with h5 | h5
          · exact h2 i h5
          · obtain rfl : i = T := by omega
            exact h0
        · rw [h4, List.range_succ, List.map_append]; rfl
  obtain ⟨T, h1, h2, h3, h4⟩ := key (min R C) (Nat.le_refl _)
  refine ⟨T, h1, h2, fun i hi => ?_, h4⟩
  rcases Nat.lt_or_ge i (min R C) with h5 | h5
  · exact h3 i hi h5
  · exact h.out i (by omega)
structure SR where
  ok : Bool
  d : MR
  u : MR
  v : MR
def SR.no : SR := ⟨false, MR.no, MR.no, MR.no⟩
def SR.of (r c : Int) : Option SSt → SR
  | some s => ⟨true, ⟨true, r, c, s.1⟩, ⟨true, r, r, s.2.1⟩, ⟨true, c, c, s.2.2⟩⟩
  | none => SR.no
def smR (r c : Int) (xs : List Int) : SR := if isMat r c xs = true then SR.of r c (smX r.toNat c.toNat xs) else SR.no
theorem smR_no {r c : Int} {xs : List Int} (h : isMat r c xs = false) : smR r c xs = SR.no := by unfold smR; rw [if_neg (by rw [h]; decide)]
def fcX (r c : Int) (xs : List Int) : List Int × Bool := if (smR r c xs).ok = true then (fcL r.toNat c.toNat (smR r c xs).d.zs (min r.toNat c.toNat), true) else ([], false)
theorem smR_says {r c : Int} {xs : List Int} (h : (smR r c xs).ok = true) : ∃ (R C : Nat) (s : SSt) (f : Nat → Int), r = R ∧ c = C ∧ R ≤ 24 ∧ C ≤ 24 ∧ isMat r c xs = true ∧ xs.length = R * C ∧ nums xs = true ∧ smX R C xs = some s ∧ smR r c xs = ⟨true, ⟨true, R, C, s.1⟩, ⟨true, R, R, s.2.1⟩, ⟨true, C, C, s.2.2⟩⟩ ∧ Fin3 R C (mxC C xs) s ∧ SmP R C (mxC C s.1) f := by
  cases hm : isMat r c xs with
  | false => rw [smR_no hm] at h; cases h
  | true =>
    obtain ⟨⟨r0, r1⟩, ⟨c0, c1⟩, hl, hn⟩ := isMat_says hm
    obtain ⟨R, rfl⟩ := Int.eq_ofNat_of_zero_le r0
    obtain ⟨C, rfl⟩ := Int.eq_ofNat_of_zero_le c0
    have hl : xs.length = R * C := by rw [← Int.natCast_mul] at hl; omega
    have e : smR R C xs = SR.of R C (smX R C xs) := by unfold smR; rw [if_pos hm]; rfl
    rw [e] at h ⊢
    cases hx : smX R C xs with
    | none => rw [hx] at h; cases h
    | some s =>
      obtain ⟨h1, f, h2⟩ := smX_says hl hn hx
      exact ⟨R, C, s, f, rfl, rfl, by omega, by omega, rfl, hl, hn, (by first | exact hx | rfl), rfl, h1, h2⟩
end Go.Proofs.Ytpelnfenfeoeeaa
end

section
/-
  Chapter 3, in the program: IsMatrix.
-/
namespace Go.Proofs.Ytpelnfenfeoeeaa
open Go.RowKit
theorem iSize_t (n : Int) (w : World) (h1 : 0 ≤ n) (h2 : n ≤ 24) :
    Calls Try.prog 112 #[.int .i64 n] w fun e w' => e = .returned (.bool true) ∧ w = w' := by
  go_enter Try.func112, Try.ntmps112
  go_wp2
  go_ret
  exact ⟨rfl, rfl⟩
theorem iSize_f (n : Int) (w : World) (h : n < 0 ∨ 24 < n) :
    Calls Try.prog 112 #[.int .i64 n] w fun e w' => e = .returned (.bool false) ∧ w = w' := by
  by_cases h1 : 0 ≤ n
  · have h2 : decide (n ≤ 24) = false := by simp; omega
    go_enter Try.func112, Try.ntmps112
    go_wp2
    go_ret
    exact ⟨rfl, rfl⟩
  · go_enter Try.func112, Try.ntmps112
    go_wp2
    go_ret
    exact ⟨rfl, rfl⟩
theorem iIsNum (n : Int) (w : World) :
    Calls Try.prog 114 #[.int .i64 n] w fun e w' => e = .returned (.bool (decide (NumP n))) ∧ w = w' := by
  by_cases h : NumP n
  · rw [decide_eq_true h]; exact iIsNum_t n w h.1 h.2
  · rw [decide_eq_false h]; exact iIsNum_f n w (by unfold NumP at h; omega)
theorem iStep (b : Bool) (i j z : Int) (w : World) :
    Calls Try.prog 113 #[.bool b, .int .i64 i, .int .i64 j, .int .i64 z] w fun e w' => e = .returned (.bool (b && decide (NumP z))) ∧ w = w' := by
  cases b
  · go_enter Try.func113, Try.ntmps113
    go_wp2_with fail
    go_ret
    exact ⟨rfl, rfl⟩
  · go_enter Try.func113, Try.ntmps113
    go_wp2_with fail
    refine (iIsNum z _).mono ?_
    rintro e w' ⟨rfl, rfl⟩
    go_wp2_with fail
    go_ret
    exact ⟨rfl, rfl⟩
theorem take_nums (zs : List Int) (k : Nat) (hk : k < zs.length) : nums (zs.take (k + 1)) = (nums (zs.take k) && decide (NumP (zs.getD k 0))) := by
  unfold nums
  rw [List.take_succ_eq_append_getElem hk, List.all_append]
  simp only [List.all_cons, List.all_nil, Bool.and_true, List.getD, List.getElem?_eq_getElem hk, Option.getD_some]
set_option maxHeartbeats 400000 in
theorem iFoldB (r c : Int) (a : Option Addr) (cap : Nat) (zs : List Int) (w : World) (h : Rd w a zs) (hn : zs.length ≤ 16777216) (hc : zs.length = 0 ∨ 0 < c) :
    Calls Try.prog 66 #[.agg #[.int .i64 r, .int .i64 c, .slice a zs.length cap], .bool true, .func (.func 113) #[] #[]] w (Gives (.bool (nums zs)) w) := by
  have B0 : ∀ o, Below w.heap.size w (w.alloc o) := fun o => (Below.refl _ _).alloc (Nat.le_refl _) o
  have BH := Lib.hid B0
  have H := Lib.hid h
  obtain ⟨n, hnn⟩ : ∃ n, zs.length = n := ⟨_, rfl⟩
  have HN := Lib.hid hnn
  rw [hnn] at hn hc ⊢
  clear h B0 hnn
  go_enter Try.func66, Try.ntmps66
  go_wp2_with fail
  go_loopw [7, 8, 9, 14] (fun b _ _ i wr => ∃ k : Nat, i = .int .i64 k ∧ k ≤ n ∧ b = .bool (nums (zs.take k)) ∧ ∃ q, wr = (w.alloc (.cells #[.int .i64 r, .int .i64 c, .slice a n cap] 26)).drewN q) (fun _ _ _ i _ => n - (intOf i).toNat)
  case atStart => exact ⟨0, rfl, by omega, rfl, 0, rfl⟩
  case round =>
    obtain ⟨k, rfl, hk, rfl, q, rfl⟩ := hrel
    by_cases hlt : k < n
    · have c0 : (c == 0) = false := by simp; omega
      obtain ⟨b, o, rfl, hcell⟩ := (H.out.below (BH.out (.cells #[.int .i64 r, .int .i64 c, .slice a n cap] 26))) k (by rw [HN.out]; exact hlt)
      obtain ⟨z, hz⟩ : ∃ z, zs.getD k 0 = z := ⟨_, rfl⟩
      obtain ⟨bb, hbb⟩ : ∃ bb, nums (zs.take k) = bb := ⟨_, rfl⟩
      rw [hz] at hcell
      have Z := Lib.hid hz
      have BB := Lib.hid hbb
      rw [hbb]
      clear hz hbb
      go_wp2_with fail
      go_quiet ((refine (iStep _ _ _ _ _).mono ?_; rintro e w' ⟨rfl, rfl⟩; exact ⟨rfl, _, rfl⟩))
      go_wp2_with fail
      go_roundw
      case rel => exact ⟨k + 1, by go_num, by omega, by rw [take_nums zs k (by rw [HN.out]; exact hlt), BB.out, Z.out], _, rfl⟩
      case measure => simp [intOf]; omega
    · have hkn : k = n := by omega
      subst hkn
      have E : Hid (nums (zs.take k) = nums zs) := by show nums (zs.take k) = nums zs; rw [← HN.out, List.take_length]
      go_wp2_with fail
      go_ret
      exact ⟨by rw [E.out]; rfl, below_drewN (BH.out _) q⟩
set_option maxHeartbeats 400000 in
theorem iIsMat (r c : Int) (a : Option Addr) (cap : Nat) (zs : List Int) (w : World) (h : Rd w a zs) (hn : zs.length ≤ 16777216) :
    Calls Try.prog 58 #[.agg #[.int .i64 r, .int .i64 c, .slice a zs.length cap]] w (Gives (.bool (isMat r c zs)) w) := by
  have B0 : ∀ o, Below w.heap.size w (w.alloc o) := fun o => (Below.refl _ _).alloc (Nat.le_refl _) o
  have BH := Lib.hid B0
  have H := Lib.hid h
  clear h B0
  obtain ⟨n, hnn⟩ : ∃ n, zs.length = n := ⟨_, rfl⟩
  have HN := Lib.hid hnn
  have ED : isMat r c zs = (decide (SizeP r) && decide (SizeP c) && decide ((n : Int) = r * c) && nums zs) := by unfold isMat; rw [hnn]
  have E := Lib.hid ED
  rw [hnn] at hn ⊢
  clear hnn ED
  by_cases hr : 0 ≤ r ∧ r ≤ 24
  · by_cases hc : 0 ≤ c ∧ c ≤ 24
    · obtain ⟨m1, m2⟩ := mul_size r c hr hc
      by_cases hl : (n : Int) = r * c
      · have l1 : ((n : Int) != r * c) = false := by simpa using hl
        have l2 : ((n : Int) == r * c) = true := by simpa using hl
        have E2 : Hid (isMat r c zs = nums zs) := by
          show isMat r c zs = nums zs
          rw [E.out, show decide (SizeP r) = true from decide_eq_true hr, show decide (SizeP c) = true from decide_eq_true hc, show decide ((n : Int) = r * c) = true from decide_eq_true hl]; rfl
        have hz : zs.length = 0 ∨ 0 < c := by
          rw [HN.out]
          rcases Nat.eq_zero_or_pos n with e | e
          · exact .inl e
          · right
            rcases Int.lt_or_lt_of_ne (a := c) (b := 0) (fun e0 => by rw [e0, Int.mul_zero] at hl; omega) with h | h <;> omega
        have HZ := Lib.hid hz
        clear hl hz
        obtain ⟨r1, r2⟩ := hr
        obtain ⟨c1, c2⟩ := hc
        go_enter Try.func58, Try.ntmps58
        go_wp2_with (go_at_call 112; refine (iSize_t _ _ (by omega) (by omega)).mono ?_; rintro e w' ⟨rfl, rfl⟩)
        have ST := iFoldB r c a cap zs _ (H.out.below (BH.out (.cells #[.int .i64 r, .int .i64 c, .slice a n cap] 26))) (by rw [HN.out]; exact hn) HZ.out
        rw [HN.out] at ST
        refine ST.mono ?_
        clear ST
        rintro e w' ⟨rfl, hb⟩
        have HB := Lib.hid ((BH.out _).trans (hb.mono (BH.out (.cells #[.int .i64 r, .int .i64 c, .slice a n cap] 26)).size))
        clear hb
        go_wp2_with fail
        go_ret
        exact ⟨by rw [E2.out]; rfl, HB.out⟩
      · have l1 : ((n : Int) != r * c) = true := by simpa using hl
        have l2 : ((n : Int) == r * c) = false := by simpa using hl
        have E2 : Hid (isMat r c zs = false) := by
          show isMat r c zs = false
          rw [E.out, show decide ((n : Int) = r * c) = false from decide_eq_false hl]; simp
        clear hl
        obtain ⟨r1, r2⟩ := hr
        obtain ⟨c1, c2⟩ := hc
        go_enter Try.func58, Try.ntmps58
        go_wp2_with (go_at_call 112; refine (iSize_t _ _ (by omega) (by omega)).mono ?_; rintro e w' ⟨rfl, rfl⟩)
        go_ret
        exact ⟨by rw [E2.out]; rfl, BH.out _⟩
    · have E2 : Hid (isMat r c zs = false) := by
        show isMat r c zs = false
        rw [E.out, show decide (SizeP c) = false from decide_eq_false hc]; simp
      have hc' : c < 0 ∨ 24 < c := by omega
      clear hc
      go_enter Try.func58, Try.ntmps58
      go_wp2_with fail
      refine (iSize_t r _ hr.1 hr.2).mono ?_
      rintro e w' ⟨rfl, rfl⟩
      go_wp2_with fail
      refine (iSize_f c _ hc').mono ?_
      rintro e w' ⟨rfl, rfl⟩
      go_wp2_with fail
      go_ret
      exact ⟨by rw [E2.out]; rfl, BH.out _⟩
  · have E2 : Hid (isMat r c zs = false) := by
      show isMat r c zs = false
      rw [E.out, show decide (SizeP r) = false from decide_eq_false hr]; simp
    have hr' : r < 0 ∨ 24 < r := by omega
    clear hr
    go_enter Try.func58, Try.ntmps58
    go_wp2_with fail
    refine (iSize_f r _ hr').mono ?_
    rintro e w' ⟨rfl, rfl⟩
    go_wp2_with fail
    go_ret
    exact ⟨by rw [E2.out]; rfl, BH.out _⟩
end Go.Proofs.Ytpelnfenfeoeeaa
end

section
/-
  Chapter 5, in the program: the kinds of operations.
-/
namespace Go.Proofs.Ytpelnfenfeoeeaa
open Go.RowKit
abbrev aggO (k i j t : Int) : Value := .agg #[.int .i64 k, .int .i64 i, .int .i64 j, .int .i64 t]
theorem below1 (w : World) (o : Obj) : Below w.heap.size w (w.alloc o) := (Below.refl _ _).alloc (Nat.le_refl _) o
theorem iOpOf0 (i j t : Int) (w : World) : Calls Try.prog 167 #[aggO 0 i j t] w (Gives (.iface 146 (aggO 0 i j t)) w) := by
  go_enter Try.func167, Try.ntmps167
  go_wp2_with fail
  go_ret
  exact ⟨rfl, below1 _ _⟩
theorem iOpOf1 (i j t : Int) (w : World) : Calls Try.prog 167 #[aggO 1 i j t] w (Gives (.iface 147 (aggO 1 i j t)) w) := by
  go_enter Try.func167, Try.ntmps167
  go_wp2_with fail
  go_ret
  exact ⟨rfl, below1 _ _⟩
theorem iOpOf2 (i j t : Int) (w : World) : Calls Try.prog 167 #[aggO 2 i j t] w (Gives (.iface 148 (aggO 2 i j t)) w) := by
  go_enter Try.func167, Try.ntmps167
  go_wp2_with fail
  go_ret
  exact ⟨rfl, below1 _ _⟩
theorem iOpOfN (k i j t : Int) (w : World) (h : k < 0 ∨ 2 < k) : Calls Try.prog 167 #[aggO k i j t] w (Gives .nilIface w) := by
  have f0 : (k == 0) = false := by simp; omega
  have f1 : (k == 1) = false := by simp; omega
  have f2 : (k == 2) = false := by simp; omega
  clear h
  go_enter Try.func167, Try.ntmps167
  go_wp2_with fail
  go_ret
  exact ⟨rfl, below1 _ _⟩
theorem iFit0 (i j t : Int) (w : World) : Calls Try.prog 185 #[aggO 0 i j t] w (Gives (.bool (decide (j ≠ i ∧ t = 0))) w) := by
  by_cases e1 : j = i
  · subst e1
    rw [show decide (j ≠ j ∧ t = 0) = false by simp]
    go_enter Try.func185, Try.ntmps185
    go_wp2_with fail
    go_ret
    exact ⟨rfl, below1 _ _⟩
  · have g1 : (i != j) = true := by simp; omega
    have g2 : (i == j) = false := by simp; omega
    by_cases e2 : t = 0
    · subst e2
      rw [show decide (j ≠ i ∧ (0 : Int) = 0) = true by simp [e1]]
      clear e1
      go_enter Try.func185, Try.ntmps185
      go_wp2_with fail
      go_ret
      exact ⟨rfl, below1 _ _⟩
    · have g3 : (t == 0) = false := by simp; omega
      rw [show decide (j ≠ i ∧ t = 0) = false by simp [e2]]
      clear e1 e2
      go_enter Try.func185, Try.ntmps185
      go_wp2_with fail
      go_ret
      exact ⟨rfl, below1 _ _⟩
theorem iFit1 (i j t : Int) (w : World) : Calls Try.prog 187 #[aggO 1 i j t] w (Gives (.bool (decide (j = i ∧ t = 0))) w) := by
  by_cases e1 : j = i
  · subst e1
    by_cases e2 : t = 0
    · subst e2
      rw [show decide (j = j ∧ (0 : Int) = 0) = true by simp]
      go_enter Try.func187, Try.ntmps187
      go_wp2_with fail
      go_ret
      exact ⟨rfl, below1 _ _⟩
    · have g3 : (t == 0) = false := by simp; omega
      rw [show decide (j = j ∧ t = 0) = false by simp [e2]]
      clear e2
      go_enter Try.func187, Try.ntmps187
      go_wp2_with fail
      go_ret
      exact ⟨rfl, below1 _ _⟩
  · have g1 : (i != j) = true := by simp; omega
    have g2 : (i == j) = false := by simp; omega
    rw [show decide (j = i ∧ t = 0) = false by simp [e1]]
    clear e1
    go_enter Try.func187, Try.ntmps187
    go_wp2_with fail
    go_ret
    exact ⟨rfl, below1 _ _⟩
theorem iFit2 (i j t : Int) (w : World) : Calls Try.prog 189 #[aggO 2 i j t] w (Gives (.bool (decide (j ≠ i))) w) := by
  by_cases e1 : j = i
  · subst e1
    rw [show decide (j ≠ j) = false by simp]
    go_enter Try.func189, Try.ntmps189
    go_wp2_with fail
    go_ret
    exact ⟨rfl, below1 _ _⟩
  · have g1 : (i != j) = true := by simp; omega
    have g2 : (i == j) = false := by simp; omega
    rw [show decide (j ≠ i) = true by simp [e1]]
    clear e1
    go_enter Try.func189, Try.ntmps189
    go_wp2_with fail
    go_ret
    exact ⟨rfl, below1 _ _⟩
theorem iDo0 (x y i j t : Int) (w : World) : Calls Try.prog 184 #[aggO 0 i j t, .int .i64 x, .int .i64 y] w (Gives (.tuple #[.int .i64 y, .int .i64 x, .bool true]) w) := by
  go_enter Try.func184, Try.ntmps184
  go_wp2_with fail
  exact bodyPost_ret (v := .tuple #[.int .i64 y, .int .i64 x, .bool true]) (by simp [results, Try.results184, go_sem]) rfl ⟨rfl, below1 _ _⟩
theorem iDo1 (x y i j t : Int) (w : World) (hx : NumP x) : Calls Try.prog 186 #[aggO 1 i j t, .int .i64 x, .int .i64 y] w (Gives (.tuple #[.int .i64 (-x), .int .i64 (-x), .bool true]) w) := by
  obtain ⟨x1, x2⟩ := hx
  have v : IntKind.i64.wrap (-x) = -x := IntWalk.i64_in _ (by omega)
  clear x1 x2
  go_enter Try.func186, Try.ntmps186
  go_wp2_with fail
  exact bodyPost_ret (v := .tuple #[.int .i64 (-x), .int .i64 (-x), .bool true]) (by simp [results, Try.results186, go_sem]) rfl ⟨rfl, below1 _ _⟩
theorem iDo2 (x y i j t : Int) (w : World) (hx : NumP x) (hy : NumP y) (ht : NumP t) : Calls Try.prog 188 #[aggO 2 i j t, .int .i64 x, .int .i64 y] w (Gives (.tuple #[.int .i64 (x + y * t), .int .i64 y, .bool (decide (NumP (y * t)))]) w) := by
  obtain ⟨m1, m2⟩ := mul_num y t hy ht
  obtain ⟨x1, x2⟩ := hx
  have v1 : IntKind.i64.wrap (y * t) = y * t := IntWalk.i64_in _ (by omega)
  have v2 : IntKind.i64.wrap (x + y * t) = x + y * t := IntWalk.i64_in _ (by omega)
  clear m1 m2 x1 x2 hy ht
  go_enter Try.func188, Try.ntmps188
  go_wp2_with fail
  go_quiet ((refine (iIsNum _ _).mono ?_; rintro e w' ⟨rfl, rfl⟩; exact ⟨rfl, _, rfl⟩))
  go_wp2_with fail
  exact bodyPost_ret (v := .tuple #[.int .i64 (x + y * t), .int .i64 y, .bool (decide (NumP (y * t)))]) (by simp [results, Try.results188, go_sem]) rfl ⟨rfl, below_drewN (below1 _ _) nq⟩
theorem iRow (n rows : Int) (pb : Nat) (w : World) (hc : w.cell? ⟨pb, 0, none⟩ = some (.int .i64 rows)) : Calls Try.prog 168 #[.int .i64 n, .pointer (some ⟨pb, 0, none⟩)] w fun e w' => e = .returned (.bool (decide (0 ≤ n ∧ n < rows))) ∧ w = w' := by
  by_cases h0 : 0 ≤ n
  · by_cases h1 : n < rows
    · rw [show decide (0 ≤ n ∧ n < rows) = true by simp [h0, h1]]
      go_enter Try.func168, Try.ntmps168
      go_wp2_with fail
      go_ret
      exact ⟨rfl, rfl⟩
    · rw [show decide (0 ≤ n ∧ n < rows) = false by simp [h1]]
      have h2 : decide (n < rows) = false := by simpa using h1
      go_enter Try.func168, Try.ntmps168
      go_wp2_with fail
      go_ret
      exact ⟨rfl, rfl⟩
  · rw [show decide (0 ≤ n ∧ n < rows) = false by simp [h0]]
    have h2 : decide (0 ≤ n) = false := by simpa using h0
    go_enter Try.func168, Try.ntmps168
    go_wp2_with fail
    go_ret
    exact ⟨rfl, rfl⟩
end Go.Proofs.Ytpelnfenfeoeeaa
end

section
/-
  Chapter 5, in the program: IsRowOp.
-/
namespace Go.Proofs.Ytpelnfenfeoeeaa
open Go.RowKit
theorem cell_new (w : World) (v : Value) (t : TypeId) (pb : Nat) (h : pb = w.heap.size) : (w.alloc (.cells #[v] t)).cell? ⟨pb, 0, none⟩ = some v := by
  subst h
  have e : (w.alloc (.cells #[v] t)).heap[w.heap.size]? = some (.cells #[v] t (0, 0)) := by show (w.heap.push _)[w.heap.size]? = _; rw [Array.getElem?_push, if_pos rfl]
  generalize w.alloc (.cells #[v] t) = w' at e
  simp [World.cell?, e]
theorem iRow_t (n rows : Int) (pb : Nat) (w : World) (hc : w.cell? ⟨pb, 0, none⟩ = some (.int .i64 rows)) (h : 0 ≤ n ∧ n < rows) : Calls Try.prog 168 #[.int .i64 n, .pointer (some ⟨pb, 0, none⟩)] w fun e w' => e = .returned (.bool true) ∧ w = w' := by
  have := iRow n rows pb w hc; rwa [decide_eq_true h] at this
theorem iRow_f (n rows : Int) (pb : Nat) (w : World) (hc : w.cell? ⟨pb, 0, none⟩ = some (.int .i64 rows)) (h : n < 0 ∨ rows ≤ n) : Calls Try.prog 168 #[.int .i64 n, .pointer (some ⟨pb, 0, none⟩)] w fun e w' => e = .returned (.bool false) ∧ w = w' := by
  have := iRow n rows pb w hc; rwa [decide_eq_false (by omega)] at this
theorem step2 {w a c : World} (h : Below w.heap.size w a) (hb : Below a.heap.size a c) : Below w.heap.size w c := h.trans (hb.mono h.size)
set_option maxHeartbeats 1000000 in
theorem iIsOp (k i j t rows : Int) (w : World) : Calls Try.prog 166 #[.agg #[.int .i64 k, .int .i64 i, .int .i64 j, .int .i64 t], .int .i64 rows] w (Gives (.bool (isOp k i j t rows)) w) := by
  have BH : Hid (∀ o o2, Below w.heap.size w ((w.alloc o).alloc o2)) := fun o o2 => ((Below.refl _ _).alloc (Nat.le_refl _) o).alloc (by simp) o2
  have CN : Hid (∀ o, ((w.alloc o).alloc (.cells #[.int .i64 rows] 3)).cell? ⟨w.heap.size + 1, 0, none⟩ = some (.int .i64 rows)) := fun o => cell_new _ _ _ _ (by simp)
  by_cases h2 : 0 ≤ rows ∧ rows ≤ 24
  · by_cases h3 : 0 ≤ i ∧ i < rows
    · by_cases h4 : 0 ≤ j ∧ j < rows
      · by_cases h5 : NumP t
        · have RG : Hid (rangeOp k i j t rows = (decide (0 ≤ k ∧ k ≤ 2))) := by show rangeOp k i j t rows = _; unfold rangeOp; rw [decide_eq_true h2, decide_eq_true (show 0 ≤ i ∧ i ≤ rows - 1 by omega), decide_eq_true (show 0 ≤ j ∧ j ≤ rows - 1 by omega), decide_eq_true h5]; simp only [Bool.and_true]
          by_cases k0 : k = 0
          · subst k0
            have V : Hid (isOp 0 i j t rows = decide (j ≠ i ∧ t = 0)) := by show isOp 0 i j t rows = _; unfold isOp; rw [RG.out]; rfl
            obtain ⟨b, hbb⟩ : ∃ b, decide (j ≠ i ∧ t = 0) = b := ⟨_, rfl⟩
            have FT := Lib.hid (iFit0 i j t)
            rw [hbb] at V
            have FT : Hid (∀ w, Calls Try.prog 185 #[aggO 0 i j t] w (Gives (.bool b) w)) := fun w => by rw [← hbb]; exact FT.out w
            clear hbb
            go_enter Try.func166, Try.ntmps166
            go_wp2_with fail
            refine (iSize_t rows _ h2.1 h2.2).mono ?_
            rintro e w' ⟨rfl, rfl⟩
            go_wp2_with fail
            refine (iRow_t i rows _ _ (CN.out _) h3).mono ?_
            rintro e w' ⟨rfl, rfl⟩
            go_wp2_with fail
            refine (iRow_t j rows _ _ (CN.out _) h4).mono ?_
            rintro e w' ⟨rfl, rfl⟩
            go_wp2_with fail
            refine (iIsNum_t t _ h5.1 h5.2).mono ?_
            rintro e w' ⟨rfl, rfl⟩
            go_wp2_with fail
            refine (iOpOf0 i j t _).mono ?_
            rintro e w1 ⟨rfl, hb⟩
            have B : Hid (Below w.heap.size w w1) := step2 (BH.out _ _) hb
            clear hb
            go_wp2_with fail
            refine (FT.out _).mono ?_
            rintro e w2 ⟨rfl, hb⟩
            have B2 : Hid (Below w.heap.size w w2) := step2 B.out hb
            clear hb
            go_wp2_with fail
            go_ret
            exact ⟨by rw [V.out]; rfl, B2.out⟩
          by_cases k1 : k = 1
          · subst k1
            have V : Hid (isOp 1 i j t rows = decide (j = i ∧ t = 0)) := by show isOp 1 i j t rows = _; unfold isOp; rw [RG.out]; rfl
            obtain ⟨b, hbb⟩ : ∃ b, decide (j = i ∧ t = 0) = b := ⟨_, rfl⟩
            have FT := Lib.hid (iFit1 i j t)
            rw [hbb] at V
            have FT : Hid (∀ w, Calls Try.prog 187 #[aggO 1 i j t] w (Gives (.bool b) w)) := fun w => by rw [← hbb]; exact FT.out w
            clear hbb
            go_enter Try.func166, Try.ntmps166
            go_wp2_with fail
            refine (iSize_t rows _ h2.1 h2.2).mono ?_
            rintro e w' ⟨rfl, rfl⟩
            go_wp2_with fail
            refine (iRow_t i rows _ _ (CN.out _) h3).mono ?_
            rintro e w' ⟨rfl, rfl⟩
            go_wp2_with fail
            refine (iRow_t j rows _ _ (CN.out _) h4).mono ?_
            rintro e w' ⟨rfl, rfl⟩
            go_wp2_with fail
            refine (iIsNum_t t _ h5.1 h5.2).mono ?_
            rintro e w' ⟨rfl, rfl⟩
            go_wp2_with fail
            refine (iOpOf1 i j t _).mono ?_
            rintro e w1 ⟨rfl, hb⟩
            have B : Hid (Below w.heap.size w w1) := step2 (BH.out _ _) hb
            clear hb
            go_wp2_with fail
            refine (FT.out _).mono ?_
            rintro e w2 ⟨rfl, hb⟩
            have B2 : Hid (Below w.heap.size w w2) := step2 B.out hb
            clear hb
            go_wp2_with fail
            go_ret
            exact ⟨by rw [V.out]; rfl, B2.out⟩
          by_cases k2 : k = 2
          · subst k2
            have V : Hid (isOp 2 i j t rows = decide (j ≠ i)) := by show isOp 2 i j t rows = _; unfold isOp; rw [RG.out]; rfl
            obtain ⟨b, hbb⟩ : ∃ b, decide (j ≠ i) = b := ⟨_, rfl⟩
            have FT := Lib.hid (iFit2 i j t)
            rw [hbb] at V
            have FT : Hid (∀ w, Calls Try.prog 189 #[aggO 2 i j t] w (Gives (.bool b) w)) := fun w => by rw [← hbb]; exact FT.out w
            clear hbb
            go_enter Try.func166, Try.ntmps166
            go_wp2_with fail
            refine (iSize_t rows _ h2.1 h2.2).mono ?_
            rintro e w' ⟨rfl, rfl⟩
            go_wp2_with fail
            refine (iRow_t i rows _ _ (CN.out _) h3).mono ?_
            rintro e w' ⟨rfl, rfl⟩
            go_wp2_with fail
            refine (iRow_t j rows _ _ (CN.out _) h4).mono ?_
            rintro e w' ⟨rfl, rfl⟩
            go_wp2_with fail
            refine (iIsNum_t t _ h5.1 h5.2).mono ?_
            rintro e w' ⟨rfl, rfl⟩
            go_wp2_with fail
            refine (iOpOf2 i j t _).mono ?_
            rintro e w1 ⟨rfl, hb⟩
            have B : Hid (Below w.heap.size w w1) := step2 (BH.out _ _) hb
            clear hb
            go_wp2_with fail
            refine (FT.out _).mono ?_
            rintro e w2 ⟨rfl, hb⟩
            have B2 : Hid (Below w.heap.size w w2) := step2 B.out hb
            clear hb
            go_wp2_with fail
            go_ret
            exact ⟨by rw [V.out]; rfl, B2.out⟩
          have V : Hid (isOp k i j t rows = false) := by show isOp k i j t rows = false; unfold isOp; rw [RG.out, decide_eq_false (by omega)]; rfl
          have hk : k < 0 ∨ 2 < k := by omega
          clear k0 k1 k2
          go_enter Try.func166, Try.ntmps166
          go_wp2_with fail
          refine (iSize_t rows _ h2.1 h2.2).mono ?_
          rintro e w' ⟨rfl, rfl⟩
          go_wp2_with fail
          refine (iRow_t i rows _ _ (CN.out _) h3).mono ?_
          rintro e w' ⟨rfl, rfl⟩
          go_wp2_with fail
          refine (iRow_t j rows _ _ (CN.out _) h4).mono ?_
          rintro e w' ⟨rfl, rfl⟩
          go_wp2_with fail
          refine (iIsNum_t t _ h5.1 h5.2).mono ?_
          rintro e w' ⟨rfl, rfl⟩
          go_wp2_with fail
          refine (iOpOfN k i j t _ hk).mono ?_
          rintro e w1 ⟨rfl, hb⟩
          have B : Hid (Below w.heap.size w w1) := step2 (BH.out _ _) hb
          clear hb
          go_wp2_with fail
          go_ret
          exact ⟨by rw [V.out]; rfl, B.out⟩
        · have V : Hid (isOp k i j t rows = false) := by show isOp k i j t rows = false; unfold isOp rangeOp; rw [decide_eq_false h5]; simp
          have hx : t < -400000000 ∨ 400000000 < t := by unfold NumP at h5; omega
          clear h5
          go_enter Try.func166, Try.ntmps166
          go_wp2_with fail
          refine (iSize_t rows _ h2.1 h2.2).mono ?_
          rintro e w' ⟨rfl, rfl⟩
          go_wp2_with fail
          refine (iRow_t i rows _ _ (CN.out _) h3).mono ?_
          rintro e w' ⟨rfl, rfl⟩
          go_wp2_with fail
          refine (iRow_t j rows _ _ (CN.out _) h4).mono ?_
          rintro e w' ⟨rfl, rfl⟩
          go_wp2_with fail
          refine (iIsNum_f t _ hx).mono ?_
          rintro e w' ⟨rfl, rfl⟩
          go_wp2_with fail
          go_ret
          exact ⟨by rw [V.out]; rfl, BH.out _ _⟩
      · have V : Hid (isOp k i j t rows = false) := by show isOp k i j t rows = false; unfold isOp rangeOp; rw [decide_eq_false (show ¬ (0 ≤ j ∧ j ≤ rows - 1) by omega)]; simp
        have hx : j < 0 ∨ rows ≤ j := by omega
        clear h4
        go_enter Try.func166, Try.ntmps166
        go_wp2_with fail
        refine (iSize_t rows _ h2.1 h2.2).mono ?_
        rintro e w' ⟨rfl, rfl⟩
        go_wp2_with fail
        refine (iRow_t i rows _ _ (CN.out _) h3).mono ?_
        rintro e w' ⟨rfl, rfl⟩
        go_wp2_with fail
        refine (iRow_f j rows _ _ (CN.out _) hx).mono ?_
        rintro e w' ⟨rfl, rfl⟩
        go_wp2_with fail
        go_ret
        exact ⟨by rw [V.out]; rfl, BH.out _ _⟩
    · have V : Hid (isOp k i j t rows = false) := by show isOp k i j t rows = false; unfold isOp rangeOp; rw [decide_eq_false (show ¬ (0 ≤ i ∧ i ≤ rows - 1) by omega)]; simp
      have hx : i < 0 ∨ rows ≤ i := by omega
      clear h3
      go_enter Try.func166, Try.ntmps166
      go_wp2_with fail
      refine (iSize_t rows _ h2.1 h2.2).mono ?_
      rintro e w' ⟨rfl, rfl⟩
      go_wp2_with fail
      refine (iRow_f i rows _ _ (CN.out _) hx).mono ?_
      rintro e w' ⟨rfl, rfl⟩
      go_wp2_with fail
      go_ret
      exact ⟨by rw [V.out]; rfl, BH.out _ _⟩
  · have V : Hid (isOp k i j t rows = false) := by show isOp k i j t rows = false; unfold isOp rangeOp; rw [decide_eq_false h2]; simp
    have hx : rows < 0 ∨ 24 < rows := by omega
    clear h2
    go_enter Try.func166, Try.ntmps166
    go_wp2_with fail
    refine (iSize_f rows _ hx).mono ?_
    rintro e w' ⟨rfl, rfl⟩
    go_wp2_with fail
    go_ret
    exact ⟨by rw [V.out]; rfl, BH.out _ _⟩
end Go.Proofs.Ytpelnfenfeoeeaa
end

section
/-
  A block of ints, cell by cell.
-/
namespace Go.Proofs.Ytpelnfenfeoeeaa
open Go.RowKit
theorem Rd.cells {w : World} {b o : Nat} {zs : List Int} (h : Rd w (some ⟨b, o, none⟩) zs) (j : Nat) (hj : j < zs.length) : w.cell? ⟨b, o + j, none⟩ = some (.int .i64 (zs.getD j 0)) := by
  obtain ⟨b', o', e, hc⟩ := h j hj
  injection e with e
  injection e with e1 e2
  subst e1 e2
  exact hc
theorem Rd.addr {w : World} {a : Option Addr} {zs : List Int} (h : Rd w a zs) (hz : 0 < zs.length) : ∃ b o : Nat, a = some ⟨b, o, none⟩ := by
  obtain ⟨b, o, e, -⟩ := h 0 hz
  exact ⟨b, o, e⟩
end Go.Proofs.Ytpelnfenfeoeeaa
end

section
/-
  Contracts of Go's library at this translation, each one application of a theorem of the guide's library: slices_Clone_int, slices_Clone_int_zero, slices_Clone_int_nil.
-/
namespace Go.Proofs
open Go.Shelf
def Try.laysNm215_ren : Go.Shelf.Ren := ⟨fun | 15 => 115 | n => n, fun | 22 => 22 | 3 => 3 | 4 => 4 | n => n, fun | n => n⟩
theorem Try.laysNm215 : Go.Proofs.Lays2.n15 Try.prog Try.laysNm215_ren := {
  mixed := by kernel_rfl
  f15 := Try.func115.trans (congrArg some (by kernel_rfl))
  t3 := Try.underlying3
  a3 := Try.isAgg3
  z3 := Try.sizeOf3
  v3 := Try.zeroValue3
  t4 := Try.underlying4
  a4 := Try.isAgg4
  z4 := Try.sizeOf4
  v4 := Try.zeroValue4
  t22 := Try.underlying22
  a22 := Try.isAgg22
  z22 := Try.sizeOf22
  v22 := Try.zeroValue22
  i3 := by kernel_rfl }
open Go.RowKit Go.Lib in
theorem Try.slices_Clone_int (b off n c : Nat) (zs : List Int) (w : World) (hz : n ≤ zs.length) (hbig : n * 8 ≤ 140737488355328) (hc : ∀ j, j < zs.length → w.cell? ⟨b, off + j, none⟩ = some (.int .i64 (zs.getD j 0))) :
    Calls Try.prog 115 #[.slice (some ⟨b, off, none⟩) n c] w fun e w' => ∃ v', e = .returned v' ∧ w'.ownsRow w.heap.size 3 1 v' n ((zs.take n).map (Value.int .i64)) ∧ v' ≠ .slice none 0 0 ∧ Below w.heap.size w w' := Any.slices_Clone_int Try.laysNm215 b off n c zs w hz hbig hc
open Go.RowKit Go.Lib in
theorem Try.slices_Clone_int_nil (n c : Nat) (w : World) :
    Calls Try.prog 115 #[.slice none n c] w fun e w' => e = .returned (.slice none 0 0) ∧ w' = w := Any.slices_Clone_int_nil Try.laysNm215 n c w
open Go.RowKit Go.Lib in
theorem Try.slices_Clone_int_zero (a : Addr) (c : Nat) (w : World) :
    Calls Try.prog 115 #[.slice (some a) 0 c] w fun e w' => ∃ v', e = .returned v' ∧ w'.ownsRow w.heap.size 3 1 v' 0 [] ∧ v' ≠ .slice none 0 0 ∧ Below w.heap.size w w' := Any.slices_Clone_int_zero Try.laysNm215 a c w
end Go.Proofs
end

section
/-
  Chapter 3, in the program: slices.Clone over slices of ints.
-/
namespace Go.Proofs.Ytpelnfenfeoeeaa
open Go.RowKit
def Copy (zs : List Int) (w : World) (e : Ending) (w' : World) : Prop := ∃ v, e = .returned v ∧ Own w.heap.size w' v zs ∧ Below w.heap.size w w'
theorem iClone (a : Option Addr) (cap : Nat) (zs : List Int) (w : World) (h : Rd w a zs) (hn : zs.length ≤ 16777216) :
    Calls Try.prog 115 #[.slice a zs.length cap] w (Copy zs w) := by
  rcases Nat.eq_zero_or_pos zs.length with e | hz
  · obtain rfl : zs = [] := List.eq_nil_of_length_eq_zero e
    cases a with
    | none => exact (Try.slices_Clone_int_nil 0 cap w).mono fun e w' ⟨h1, h2⟩ => ⟨_, h1, .inl ⟨rfl, rfl⟩, by rw [h2]; exact Below.refl _ _⟩
    | some x => exact (Try.slices_Clone_int_zero x cap w).mono fun e w' ⟨v, h1, h2, _, h3⟩ => ⟨v, h1, Own.of_row h2 (by simp), h3⟩
  · obtain ⟨b, o, rfl⟩ := h.addr hz
    refine (Try.slices_Clone_int b o zs.length cap zs w (Nat.le_refl _) (by omega) h.cells).mono fun e w' ⟨v, h1, h2, _, h3⟩ => ⟨v, h1, Own.of_row ?_ hn, h3⟩
    rw [List.take_length] at h2
    exact h2
theorem In.cases {B T : Nat} {w : World} {v : Value} {zs : List Int} (h : In B T w v zs) : (v = .slice none 0 0 ∧ zs = []) ∨ ∃ (g cap : Nat), v = .slice (some ⟨g, 0, none⟩) zs.length cap ∧ B ≤ g ∧ g < T ∧ Ints w g zs ∧ zs.length ≤ cap := by
  rcases h with h | ⟨g, cap, hv, hB, hT, hi, hl, _⟩
  · exact .inl h
  · exact .inr ⟨g, cap, hv, hB, hT, hi, hl⟩
def CopyN (n : Nat) (zs : List Int) (w : World) (e : Ending) (w' : World) : Prop := ∃ q qc, e = .returned (.slice q n qc) ∧ Own w.heap.size w' (.slice q n qc) zs ∧ Below w.heap.size w w'
theorem iCloneN (a : Option Addr) (cap n : Nat) (zs : List Int) (hz : zs.length = n) (w : World) (h : Rd w a zs) (hn : n ≤ 16777216) :
    Calls Try.prog 115 #[.slice a n cap] w (CopyN n zs w) := by
  subst hz
  refine (iClone a cap zs w h hn).mono ?_
  rintro e w' ⟨v, rfl, own, hb⟩
  obtain ⟨q, qc, rfl, -, -⟩ := own.form
  exact ⟨q, qc, rfl, own, hb⟩
theorem seven {W w' : World} {b : Nat} {t : TypeId} {p q r : Value} (h0 : Blk3 W b t p q r) (hb : Below W.heap.size W w') :
    w'.cell? ⟨b, 0, none⟩ = some p ∧ w'.cell? ⟨b, 1, none⟩ = some q ∧ w'.cell? ⟨b, 2, none⟩ = some r :=
  ⟨(h0.keep hb h0.lt).cell0, (h0.keep hb h0.lt).cell1, (h0.keep hb h0.lt).cell2⟩
end Go.Proofs.Ytpelnfenfeoeeaa
end

section
/-
  Chapter 3, in the program: a matrix copied.
-/
namespace Go.Proofs.Ytpelnfenfeoeeaa
set_option maxRecDepth 100000
open Go.RowKit
def CopyM (r c : Int) (n : Nat) (zs : List Int) (w : World) (e : Ending) (w' : World) : Prop := ∃ q qc, e = .returned (.agg #[.int .i64 r, .int .i64 c, .slice q n qc]) ∧ Own w.heap.size w' (.slice q n qc) zs ∧ Below w.heap.size w w'
set_option maxHeartbeats 400000 in
theorem iCopyOf (r c : Int) (a : Option Addr) (cap n : Nat) (zs : List Int) (hz : zs.length = n) (w : World) (h : Rd w a zs) (hn : n ≤ 16777216) :
    Calls Try.prog 60 #[.agg #[.int .i64 r, .int .i64 c, .slice a n cap]] w (CopyM r c n zs w) := by
  have H := Lib.hid h
  have HZ := Lib.hid hz
  have K0 : Hid (Blk3 ((w.alloc (.cells #[.int .i64 r, .int .i64 c, .slice a n cap] 26)).alloc (.cells #[.int .i64 0, .int .i64 0, .slice none 0 0] 26)) w.heap.size 26 (.int .i64 r) (.int .i64 c) (.slice a n cap)) := (Blk3.at_ _ _ _ _ rfl).old _
  have K1 : Hid (Blk3 ((w.alloc (.cells #[.int .i64 r, .int .i64 c, .slice a n cap] 26)).alloc (.cells #[.int .i64 0, .int .i64 0, .slice none 0 0] 26)) (w.heap.size + 1) 26 (.int .i64 0) (.int .i64 0) (.slice none 0 0)) := Blk3.at_ _ _ _ _ (by simp)
  have B : Hid (Below w.heap.size w ((w.alloc (.cells #[.int .i64 r, .int .i64 c, .slice a n cap] 26)).alloc (.cells #[.int .i64 0, .int .i64 0, .slice none 0 0] 26))) := ((Below.refl _ _).alloc (Nat.le_refl _) _).alloc (by simp) _
  clear h hz
  go_enter Try.func60, Try.ntmps60
  go_wp2_with fail
  refine wp_region_held_drew (S := fun w' => Blk3 w' w.heap.size 26 (.int .i64 r) (.int .i64 c) (.slice a n cap) ∧ (∃ p q r, Blk3 w' (w.heap.size + 1) 26 p q r) ∧ Below w.heap.size w w') (by kernel_rfl) ⟨K0.out.drew, ⟨_, _, _, K1.out.drew⟩, B.out.drew⟩ (fun hH => ?_)
  refine wpAnyH_take (i := 0) (v := ?_) (by simp only [List.getElem?_toArray, List.getElem?_cons_zero]; rfl) (by kernel_rfl) (by kernel_rfl) (by kernel_rfl) (by exact fun _ _ _ h => h) (Or.inl ⟨by rfl, ?_⟩) hH ?_
  rotate_left
  · (intro wS hS; (try dsimp only at hS); obtain ⟨hS, -, -⟩ := hS; obtain ⟨k1, k2, k3, -, -, -⟩ := hS.all; go_simp; try rfl)
  try simp only [Act.put, List.setIfInBounds_toArray, List.set_cons_zero, List.set_cons_succ]
  refine wpAnyH_take (i := 1) (v := ?_) (by simp only [List.getElem?_toArray, List.getElem?_cons_succ, List.getElem?_cons_zero]; rfl) (by kernel_rfl) (by kernel_rfl) (by kernel_rfl) (by exact fun _ _ _ h => h) (Or.inl ⟨by rfl, ?_⟩) hH ?_
  rotate_left
  · (intro wS hS; (try dsimp only at hS); obtain ⟨hS, -, -⟩ := hS; obtain ⟨k1, k2, k3, -, -, -⟩ := hS.all; go_simp; try rfl)
  try simp only [Act.put, List.setIfInBounds_toArray, List.set_cons_zero, List.set_cons_succ]
  refine wpAnyH_take (i := 2) (v := ?_) (by simp only [List.getElem?_toArray, List.getElem?_cons_succ, List.getElem?_cons_zero]; rfl) (by kernel_rfl) (by kernel_rfl) (by kernel_rfl) (by exact fun _ _ _ h => h) (Or.inl ⟨by rfl, ?_⟩) hH ?_
  rotate_left
  · (intro wS hS; (try dsimp only at hS); obtain ⟨hS, -, -⟩ := hS; obtain ⟨k1, k2, k3, -, -, -⟩ := hS.all; go_simp; try rfl)
  try simp only [Act.put, List.setIfInBounds_toArray, List.set_cons_zero, List.set_cons_succ]
  refine wpAnyH_take (i := 3) (v := ?_) (by simp only [List.getElem?_toArray, List.getElem?_cons_succ, List.getElem?_cons_zero]; rfl) (by kernel_rfl) (by kernel_rfl) (by kernel_rfl) (by exact fun _ _ _ h => h) (Or.inl ⟨by rfl, ?_⟩) hH ?_
  rotate_left
  · (intro wS hS; (try dsimp only at hS); obtain ⟨hS, -, -⟩ := hS; obtain ⟨k1, k2, k3, -, -, -⟩ := hS.all; go_simp; try rfl)
  try simp only [Act.put, List.setIfInBounds_toArray, List.set_cons_zero, List.set_cons_succ]
  refine wpAnyH_take (i := 4) (v := ?_) (by simp only [List.getElem?_toArray, List.getElem?_cons_succ, List.getElem?_cons_zero]; rfl) (by kernel_rfl) (by kernel_rfl) (by kernel_rfl) (by exact fun _ _ _ h => h) (Or.inl ⟨by rfl, ?_⟩) hH ?_
  rotate_left
  · (intro wS hS; (try dsimp only at hS); obtain ⟨hS, -, -⟩ := hS; obtain ⟨k1, k2, k3, -, -, -⟩ := hS.all; go_simp; try rfl)
  try simp only [Act.put, List.setIfInBounds_toArray, List.set_cons_zero, List.set_cons_succ]
  refine wpAnyH_take (i := 5) (v := ?_) (by simp only [List.getElem?_toArray, List.getElem?_cons_succ, List.getElem?_cons_zero]; rfl) (by kernel_rfl) (by kernel_rfl) (by kernel_rfl) (by exact fun _ _ _ h => h) (Or.inl ⟨by rfl, ?_⟩) hH ?_
  rotate_left
  · (intro wS hS; (try dsimp only at hS); obtain ⟨hS, -, -⟩ := hS; obtain ⟨k1, k2, k3, -, -, -⟩ := hS.all; go_simp; try rfl)
  try simp only [Act.put, List.setIfInBounds_toArray, List.set_cons_zero, List.set_cons_succ]
  refine wpAnyH_ready (rs := [6]) (by kernel_rfl) (by simp) ?_
  refine AllReadyH.cons (by simp only [List.getElem?_toArray, List.getElem?_cons_succ, List.getElem?_cons_zero]; rfl) (fun K hK => ?_) AllReadyH.nil
  go_simp
  obtain ⟨hH0, ⟨p, q, s, hH1⟩, hH2⟩ := hH
  have l1 := hH1.lt
  (with_reducible refine (iCloneN a cap n zs HZ.out _ (H.out.below hH2) (by omega)).mono ?_)
  rintro e v1 ⟨q0, qc, rfl, own, hb1⟩
  try dsimp only
  have J0 := Lib.hid (hH0.step hb1)
  have J1 := Lib.hid (hH1.step hb1)
  have JB := Lib.hid (stepB hH2 hb1)
  have O := Lib.hid own
  have l2 : w.heap.size + 1 < _ := l1
  refine hK.out _ _ ⟨J0.out, ⟨_, _, _, J1.out⟩, JB.out⟩ (fun hH => ?_)
  clear hK K own
  try simp only [Act.put, List.setIfInBounds_toArray, List.set_cons_zero, List.set_cons_succ]
  refine wpAnyH_take (i := 7) (v := ?_) (by simp only [List.getElem?_toArray, List.getElem?_cons_succ, List.getElem?_cons_zero]; rfl) (by kernel_rfl) (by kernel_rfl) (by kernel_rfl) (by exact fun _ _ _ h => h) (Or.inl ⟨by rfl, ?_⟩) hH ?_
  rotate_left
  · (intro wS hS; clear hS; go_simp; try rfl)
  try simp only [Act.put, List.setIfInBounds_toArray, List.set_cons_zero, List.set_cons_succ]
  refine wpAnyH_ready (rs := [8]) (by kernel_rfl) (by simp) ?_
  refine AllReadyH.cons (by simp only [List.getElem?_toArray, List.getElem?_cons_succ, List.getElem?_cons_zero]; rfl) (fun K hK => ?_) AllReadyH.nil
  obtain ⟨y0, y1, y2, y3, y4, y5⟩ := J1.out.all
  clear hH
  go_simp
  have Z0 := Lib.hid (((J0.out.far (a := ⟨w.heap.size + 1, 0, none⟩) (by simp) (.int .i64 r)).far (a := ⟨w.heap.size + 1, 1, none⟩) (by simp) (.int .i64 c)).far (a := ⟨w.heap.size + 1, 2, none⟩) (by simp) (.slice q0 n qc))
  have Z1 := Lib.hid (((J1.out.set0 (.int .i64 r)).set1 (.int .i64 c)).set2 (.slice q0 n qc))
  have OO := Lib.hid (((O.out.far (a := ⟨w.heap.size + 1, 0, none⟩) l2 (.int .i64 r)).far (a := ⟨w.heap.size + 1, 1, none⟩) l2 (.int .i64 c)).far (a := ⟨w.heap.size + 1, 2, none⟩) l2 (.slice q0 n qc))
  refine hK.out _ _ ⟨Z0.out, ⟨_, _, _, Z1.out⟩, ((JB.out.setCell (Nat.le_succ _) _).setCell (Nat.le_succ _) _).setCell (Nat.le_succ _) _⟩ (fun hH => ?_)
  have ZB := Lib.hid hH.2.2
  clear hK K hH
  refine wpAnyH_done (by kernel_rfl) ?_ _
  go_wp2_with fail
  obtain ⟨E0, E1, E2, -, -, -⟩ := Z1.out.all
  exact bodyPost_ret (v := .agg #[.int .i64 r, .int .i64 c, .slice q0 n qc]) (by simp [results, Try.results60, go_sem, E0, E1, E2]) rfl ⟨q0, qc, rfl, OO.out.le (by omega), ZB.out⟩
end Go.Proofs.Ytpelnfenfeoeeaa
end

section
/-
  Chapter 3, in the program: a matrix that is handed on if it is valid.
-/
namespace Go.Proofs.Ytpelnfenfeoeeaa
open Go.RowKit
set_option maxHeartbeats 400000 in
theorem iDone (r c : Int) (a : Option Addr) (cap : Nat) (zs : List Int) (w : World) (h : Rd w a zs) (hn : zs.length ≤ 16777216) :
    Calls Try.prog 92 #[.agg #[.int .i64 r, .int .i64 c, .slice a zs.length cap]] w (Gives (DoneRes r c (.slice a zs.length cap) (isMat r c zs)) w) := by
  have H := Lib.hid h
  clear h
  go_enter Try.func92, Try.ntmps92
  go_wp2_with fail
  refine (iIsMat r c a cap zs _ (H.out.below (((Below.refl _ _).alloc (Nat.le_refl _) _).alloc (by simp) _)) hn).mono ?_
  rintro e w1 ⟨rfl, hb⟩
  have K0 : Hid (Blk3 w1 w.heap.size 26 (.int .i64 r) (.int .i64 c) (.slice a zs.length cap)) := ((Blk3.at_ _ _ _ _ rfl).old _).keep hb (by simp <;> omega)
  have K1 : Hid (Blk3 w1 (w.heap.size + 1) 26 (.int .i64 0) (.int .i64 0) (.slice none 0 0)) := (Blk3.at_ _ _ _ _ (by simp)).keep hb (by simp)
  have B : Hid (Below w.heap.size w w1) := (((Below.refl _ _).alloc (Nat.le_refl _) _).alloc (by simp) _).trans (hb.mono (by simp <;> omega))
  clear hb
  obtain ⟨c0, c1, c2, -, -, -⟩ := K0.out.all
  obtain ⟨d0, d1, d2, g0, g1, g2⟩ := K1.out.all
  have BB : ∀ x y z, Below w.heap.size w (((w1.setCell ⟨w.heap.size + 1, 0, none⟩ x).setCell ⟨w.heap.size + 1, 1, none⟩ y).setCell ⟨w.heap.size + 1, 2, none⟩ z) := fun x y z =>
    ((B.out.setCell (Nat.le_succ _) _).setCell (Nat.le_succ _) _).setCell (Nat.le_succ _) _
  have BH := Lib.hid BB
  clear BB
  rcases Bool.eq_false_or_eq_true (isMat r c zs) with hm | hm
  · rw [hm]
    have M := Lib.hid hm
    clear hm
    go_wp2_with fail
    obtain ⟨E0, E1, E2, -, -, -⟩ := (((K1.out.set0 (.int .i64 r)).set1 (.int .i64 c)).set2 (.slice a zs.length cap)).all
    exact bodyPost_ret (v := .tuple #[.agg #[.int .i64 r, .int .i64 c, .slice a zs.length cap], .bool true]) (by simp [results, Try.results92, go_sem, E0, E1, E2]) rfl ⟨by rw [M.out]; rfl, BH.out _ _ _⟩
  · rw [hm]
    have M := Lib.hid hm
    clear hm
    go_wp2_with fail
    obtain ⟨E0, E1, E2, -, -, -⟩ := (((K1.out.set0 (.int .i64 0)).set1 (.int .i64 0)).set2 (.slice none 0 0)).all
    exact bodyPost_ret (v := .tuple #[.agg #[.int .i64 0, .int .i64 0, .slice none 0 0], .bool false]) (by simp [results, Try.results92, go_sem, E0, E1, E2]) rfl ⟨by rw [M.out]; rfl, BH.out _ _ _⟩
end Go.Proofs.Ytpelnfenfeoeeaa
end

section
/-
  Chapter 5, in the program: DoRowOp.
-/
namespace Go.Proofs.Ytpelnfenfeoeeaa
set_option maxRecDepth 100000
open Go.RowKit
theorem sevB {W w' : World} {b b' : Nat} {t t' : TypeId} {p q r x y z u : Value} (h0 : Blk3 W b t p q r) (h1 : Blk4 W b' t' x y z u) (hb : Below W.heap.size W w') :
    w'.cell? ⟨b, 0, none⟩ = some p ∧ w'.cell? ⟨b, 1, none⟩ = some q ∧ w'.cell? ⟨b, 2, none⟩ = some r ∧ w'.cell? ⟨b', 0, none⟩ = some x ∧ w'.cell? ⟨b', 1, none⟩ = some y ∧ w'.cell? ⟨b', 2, none⟩ = some z ∧ w'.cell? ⟨b', 3, none⟩ = some u := by
  obtain ⟨a1, a2, a3, -, -, -⟩ := (h0.step hb).all
  obtain ⟨c1, c2, c3, c4⟩ := (h1.step hb).all
  exact ⟨a1, a2, a3, c1, c2, c3, c4⟩
theorem colCells {W w' : World} {b ba oa i j n : Nat} {t : TypeId} {p q r : Value} {xs : List Int} (h0 : Blk3 W b t p q r) (h : Rd W (some ⟨ba, oa, none⟩) xs) (hn : xs.length = n) (hi : i < n) (hj : j < n) (hb : Below W.heap.size W w') :
    w'.cell? ⟨b, 0, none⟩ = some p ∧ w'.cell? ⟨b, 1, none⟩ = some q ∧ w'.cell? ⟨b, 2, none⟩ = some r ∧ w'.cell? ⟨ba, oa + i, none⟩ = some (.int .i64 (xs.getD i 0)) ∧ w'.cell? ⟨ba, oa + j, none⟩ = some (.int .i64 (xs.getD j 0)) := by
  obtain ⟨a1, a2, a3, -, -, -⟩ := (h0.step hb).all
  exact ⟨a1, a2, a3, (h.below hb).cells i (by omega), (h.below hb).cells j (by omega)⟩
end Go.Proofs.Ytpelnfenfeoeeaa
end

section
/-
  Chapter 5, in the program: DoRowOp, kind 0.
-/
namespace Go.Proofs.Ytpelnfenfeoeeaa
set_option maxRecDepth 100000
open Go.RowKit
set_option maxRecDepth 100000 in
set_option maxHeartbeats 1000000 in
theorem iOp_0 (R C I J : Nat) (a : Option Addr) (m : Nat) (t : Int) (xs : List Int) (w : World) (h : Rd w a xs) (hn : xs.length ≤ 16777216) (hm : isMat R C xs = true) (ho : isOp 0 I J t R = true) :
    Calls Try.prog 162 #[.agg #[.int .i64 R, .int .i64 C, .slice a xs.length m], .agg #[.int .i64 0, .int .i64 I, .int .i64 J, .int .i64 t]] w (MatRes (MR.done R C (opL 0 I J t C xs)) w) := by
  obtain ⟨⟨r1, r2⟩, ⟨c1, c2⟩, l1, nx⟩ := isMat_says hm
  obtain ⟨hk, -, ⟨i1, i2⟩, ⟨j1, j2⟩, ht, -⟩ := isOp_says ho
  have hIJ := isOp_rows0 ho
  rw [← Int.natCast_mul] at l1
  have hle : R * C ≤ 24 * 24 := Nat.mul_le_mul (by omega) (by omega)
  have hR : R ≤ 24 := by omega
  have hC : C ≤ 24 := by omega
  have hI : I < R := by omega
  have hJ : J < R := by omega
  have IJ := Lib.hid hIJ
  have NX := Lib.hid nx
  have HT := Lib.hid ht
  have M := Lib.hid hm
  have OP := Lib.hid ho
  have hn2 : xs.length ≤ 576 := by omega
  have hN0 : xs.length = R * C := by omega
  have B0 : ∀ o1 o2 o3, Below w.heap.size w (((w.alloc o1).alloc o2).alloc o3) := fun o1 o2 o3 => (((Below.refl _ _).alloc (Nat.le_refl _) _).alloc (by simp) _).alloc (by simp <;> omega) _
  have BH := Lib.hid B0
  have H := Lib.hid h
  obtain ⟨n, hx⟩ : ∃ n, xs.length = n := ⟨_, rfl⟩
  have HX := Lib.hid hx
  rw [hx] at hn hn2 hN0 ⊢
  have HN := Lib.hid hN0
  clear B0 h hx hm ho r1 r2 c1 c2 l1 i1 i2 j1 j2 hle hIJ hN0 nx ht
  go_enter Try.func162, Try.ntmps162
  go_wp2_with fail
  have ST := iIsMat R C a m xs _ (H.out.below (BH.out (.cells #[.int .i64 R, .int .i64 C, .slice a n m] 26) (.cells #[.int .i64 0, .int .i64 I, .int .i64 J, .int .i64 t] 97) (.cells #[.int .i64 0, .int .i64 0, .slice none 0 0] 26))) (by rw [HX.out]; omega)
  rw [HX.out] at ST
  refine ST.mono ?_
  clear ST
  rintro e w1 ⟨rfl, hb⟩
  have K0 : Hid (Blk3 w1 w.heap.size 26 (.int .i64 R) (.int .i64 C) (.slice a n m)) := (((Blk3.at_ _ _ _ _ rfl).old _).old _).keep hb (by simp <;> omega)
  have K1 : Hid (Blk4 w1 (w.heap.size + 1) 97 (.int .i64 0) (.int .i64 I) (.int .i64 J) (.int .i64 t)) := ((Blk4.at_ _ _ _ _ _ (by simp)).old _).keep hb (by simp <;> omega)
  have K2 : Hid (Blk3 w1 (w.heap.size + 1 + 1) 26 (.int .i64 0) (.int .i64 0) (.slice none 0 0)) := (Blk3.at_ _ _ _ _ (by simp)).keep hb (by simp)
  have B : Hid (Below w.heap.size w w1) := (BH.out _ _ _).trans (hb.mono (by simp <;> omega))
  clear hb
  obtain ⟨ca0, ca1, ca2, -, -, -⟩ := K0.out.all
  obtain ⟨cb0, cb1, cb2, cb3⟩ := K1.out.all
  obtain ⟨cc0, cc1, cc2, ff0, ff1, ff2⟩ := K2.out.all
  rw [M.out]
  go_wp2_with fail
  refine (iIsOp 0 I J t R _).mono ?_
  rintro e w2 ⟨rfl, hb⟩
  have K0 := Lib.hid (K0.out.step hb)
  have K1 := Lib.hid (K1.out.step hb)
  have K2 := Lib.hid (K2.out.step hb)
  have B := Lib.hid (stepB B.out hb)
  clear hb ca0 ca1 ca2 cb0 cb1 cb2 cb3 cc0 cc1 cc2 ff0 ff1 ff2
  obtain ⟨da0, da1, da2, -, -, -⟩ := K0.out.all
  obtain ⟨db0, db1, db2, db3⟩ := K1.out.all
  obtain ⟨dc0, dc1, dc2, gf0, gf1, gf2⟩ := K2.out.all
  rw [OP.out]
  go_upto_region 3 with fail
  go_cut [6, 7] (fun s6 s7 wx => ∃ (p6 : Nat) (v0 : Value), s6 = .pointer (some ⟨p6, 0, none⟩) ∧ s7 = .iface 146 (aggO 0 I J t) ∧ Blk3 wx p6 26 (.int .i64 R) (.int .i64 C) v0 ∧ In w2.heap.size wx.heap.size wx v0 xs ∧ Below w2.heap.size w2 wx)
  case first =>
    refine wp_region_held_drew (S := fun w' => Below w2.heap.size w2 w') (by kernel_rfl) (Below.refl _ _).drew (fun hH => ?_)
    refine wpAnyH_take (i := 0) (v := ?_) (by simp only [List.getElem?_toArray, List.getElem?_cons_zero]; rfl) (by kernel_rfl) (by kernel_rfl) (by kernel_rfl) (by exact fun _ _ _ h => h) (Or.inl ⟨by rfl, ?_⟩) hH ?_
    rotate_left
    · (intro wS hS; (try dsimp only at hS); obtain ⟨k1, k2, k3, k4, k5, k6, k7⟩ := sevB K0.out K1.out hS; go_simp; try rfl)
    try simp only [Act.put, List.setIfInBounds_toArray, List.set_cons_zero, List.set_cons_succ]
    refine wpAnyH_take (i := 2) (v := ?_) (by simp only [List.getElem?_toArray, List.getElem?_cons_succ, List.getElem?_cons_zero]; rfl) (by kernel_rfl) (by kernel_rfl) (by kernel_rfl) (by exact fun _ _ _ h => h) (Or.inl ⟨by rfl, ?_⟩) hH ?_
    rotate_left
    · (intro wS hS; (try dsimp only at hS); obtain ⟨k1, k2, k3, k4, k5, k6, k7⟩ := sevB K0.out K1.out hS; go_simp; try rfl)
    try simp only [Act.put, List.setIfInBounds_toArray, List.set_cons_zero, List.set_cons_succ]
    refine wpAnyH_ready (rs := [1, 4]) (by kernel_rfl) (by simp) ?_
    refine AllReadyH.cons (by simp only [List.getElem?_toArray, List.getElem?_cons_succ, List.getElem?_cons_zero]; rfl) (fun K hK => ?_) (AllReadyH.cons (by simp only [List.getElem?_toArray, List.getElem?_cons_succ, List.getElem?_cons_zero]; rfl) (fun K hK => ?_) AllReadyH.nil)
    · go_simp
      have hs1 := hH.size
      (with_reducible refine (iCopyOf R C a m n xs HX.out _ (H.out.below (B.out.trans (hH.mono B.out.size))) (by omega)).mono ?_)
      rintro e v1 ⟨q0, qc, rfl, own, hb1⟩
      have O := Lib.hid own.inn
      clear own
      try dsimp only
      refine hK.out _ _ ?_ (fun hH2 => ?_)
      · exact hH.trans (hb1.mono hH.size)
      clear hK K
      have hO := hH
      clear hH
      have hH := hH2
      clear hH2
      try simp only [Act.put, List.setIfInBounds_toArray, List.set_cons_zero, List.set_cons_succ]
      have z1 := hb1.size
      refine wpAnyH_ready (rs := [3, 4]) (by kernel_rfl) (by simp) ?_
      refine AllReadyH.cons (by simp only [List.getElem?_toArray, List.getElem?_cons_succ, List.getElem?_cons_zero]; rfl) (fun K hK => ?_) (AllReadyH.cons (by simp only [List.getElem?_toArray, List.getElem?_cons_succ, List.getElem?_cons_zero]; rfl) (fun K hK => ?_) AllReadyH.nil)
      · go_simp
        have hs3 := hH.size
        (with_reducible refine (iOpOf0 I J t _).mono ?_)
        rintro e v3 ⟨rfl, hb3⟩
        have O := Lib.hid (O.out.keep hb3)
        try dsimp only
        refine hK.out _ _ ?_ (fun hH2 => ?_)
        · exact hH.trans (hb3.mono hH.size)
        clear hK K
        have hO := hH
        clear hH
        have hH := hH2
        clear hH2
        try simp only [Act.put, List.setIfInBounds_toArray, List.set_cons_zero, List.set_cons_succ]
        have z3 := hb3.size
        refine wpAnyH_ready (rs := [4]) (by kernel_rfl) (by simp) ?_
        refine AllReadyH.cons (by simp only [List.getElem?_toArray, List.getElem?_cons_succ, List.getElem?_cons_zero]; rfl) (fun K hK => ?_) AllReadyH.nil
        go_simp
        have VB : Hid (Blk3 (v3.alloc (.cells #[.int .i64 0, .int .i64 0, .slice none 0 0] 26)) v3.heap.size 26 (.int .i64 0) (.int .i64 0) (.slice none 0 0)) := Blk3.at_ _ _ _ _ rfl
        have PL : w2.heap.size ≤ v3.heap.size := hH.size
        try dsimp only
        refine hK.out _ _ ?_ (fun hH2 => ?_)
        · exact hH.alloc hH.size _
        clear hK K
        have hO := hH
        clear hH
        have hH := hH2
        clear hH2
        try simp only [Act.put, List.setIfInBounds_toArray, List.set_cons_zero, List.set_cons_succ]
        refine wpAnyH_ready (rs := [5]) (by kernel_rfl) (by simp) ?_
        refine AllReadyH.cons (by simp only [List.getElem?_toArray, List.getElem?_cons_succ, List.getElem?_cons_zero]; rfl) (fun K hK => ?_) AllReadyH.nil
        go_simp
        have VB : Hid (Blk3 (v3.alloc (.cells #[.int .i64 R, .int .i64 C, .slice q0 n qc] 26)) v3.heap.size 26 (.int .i64 R) (.int .i64 C) (.slice q0 n qc)) := Blk3.at_ _ _ _ _ rfl
        try dsimp only
        refine hK.out _ _ ?_ (fun hH2 => ?_)
        · exact hO.alloc hO.size _
        clear hK K
        have hO := hH
        clear hH
        have hH := hH2
        clear hH2
        try simp only [Act.put, List.setIfInBounds_toArray, List.set_cons_zero, List.set_cons_succ]
        refine wpAnyH_take (i := 6) (v := ?_) (by simp only [List.getElem?_toArray, List.getElem?_cons_succ, List.getElem?_cons_zero]; rfl) (by kernel_rfl) (by kernel_rfl) (by kernel_rfl) (by exact fun _ _ _ h => h) (Or.inl ⟨by rfl, ?_⟩) hH ?_
        rotate_left
        · (intro wS hS; clear hS; go_simp; try rfl)
        try simp only [Act.put, List.setIfInBounds_toArray, List.set_cons_zero, List.set_cons_succ]
        refine wpAnyH_done (by kernel_rfl) ?_ _
        go_wp2_with fail
        go_meet
        exact ⟨v3.heap.size, _, rfl, rfl, VB.out, (O.out.old _).wide hs1 (by have := hb3.size; first | (simp; done) | (simp; omega) | omega), hH⟩
      · go_simp
        have VB : Hid (Blk3 (v1.alloc (.cells #[.int .i64 0, .int .i64 0, .slice none 0 0] 26)) v1.heap.size 26 (.int .i64 0) (.int .i64 0) (.slice none 0 0)) := Blk3.at_ _ _ _ _ rfl
        have O := Lib.hid (O.out.old (.cells #[.int .i64 0, .int .i64 0, .slice none 0 0] 26))
        have PL : w2.heap.size ≤ v1.heap.size := hH.size
        try dsimp only
        refine hK.out _ _ ?_ (fun hH2 => ?_)
        · exact hH.alloc hH.size _
        clear hK K
        have hO := hH
        clear hH
        have hH := hH2
        clear hH2
        try simp only [Act.put, List.setIfInBounds_toArray, List.set_cons_zero, List.set_cons_succ]
        refine wpAnyH_ready (rs := [3]) (by kernel_rfl) (by simp) ?_
        refine AllReadyH.cons (by simp only [List.getElem?_toArray, List.getElem?_cons_succ, List.getElem?_cons_zero]; rfl) (fun K hK => ?_) AllReadyH.nil
        go_simp
        have hs3 := hH.size
        have lb3 := VB.out.lt
        (with_reducible refine (iOpOf0 I J t _).mono ?_)
        rintro e v3 ⟨rfl, hb3⟩
        have O := Lib.hid (O.out.keep hb3)
        have VB := Lib.hid (VB.out.keep hb3 VB.out.lt)
        try dsimp only
        refine hK.out _ _ ?_ (fun hH2 => ?_)
        · exact hH.trans (hb3.mono hH.size)
        clear hK K
        have hO := hH
        clear hH
        have hH := hH2
        clear hH2
        try simp only [Act.put, List.setIfInBounds_toArray, List.set_cons_zero, List.set_cons_succ]
        have z3 := hb3.size
        refine wpAnyH_ready (rs := [5]) (by kernel_rfl) (by simp) ?_
        refine AllReadyH.cons (by simp only [List.getElem?_toArray, List.getElem?_cons_succ, List.getElem?_cons_zero]; rfl) (fun K hK => ?_) AllReadyH.nil
        obtain ⟨y0, y1, y2, y3, y4, y5⟩ := VB.out.all
        go_simp
        have VB := Lib.hid (((VB.out.set0 (.int .i64 R)).set1 (.int .i64 C)).set2 (.slice q0 n qc))
        try dsimp only
        refine hK.out _ _ ?_ (fun hH2 => ?_)
        · exact (((hH.setCell PL _).setCell PL _).setCell PL _)
        clear hK K
        have hO := hH
        clear hH
        have hH := hH2
        clear hH2
        try simp only [Act.put, List.setIfInBounds_toArray, List.set_cons_zero, List.set_cons_succ]
        refine wpAnyH_take (i := 6) (v := ?_) (by simp only [List.getElem?_toArray, List.getElem?_cons_succ, List.getElem?_cons_zero]; rfl) (by kernel_rfl) (by kernel_rfl) (by kernel_rfl) (by exact fun _ _ _ h => h) (Or.inl ⟨by rfl, ?_⟩) hH ?_
        rotate_left
        · (intro wS hS; clear hS; go_simp; try rfl)
        try simp only [Act.put, List.setIfInBounds_toArray, List.set_cons_zero, List.set_cons_succ]
        refine wpAnyH_done (by kernel_rfl) ?_ _
        go_wp2_with fail
        go_meet
        exact ⟨v1.heap.size, _, rfl, rfl, VB.out, (((O.out.far (by first | exact .inl lb1 | exact .inr (Nat.le_refl _) | omega) _).far (by first | exact .inl lb1 | exact .inr (Nat.le_refl _) | omega) _).far (by first | exact .inl lb1 | exact .inr (Nat.le_refl _) | omega) _).wide hs1 (by have := hb3.size; first | (simp; done) | (simp; omega) | omega), hH⟩
    · go_simp
      have VB : Hid (Blk3 (w2.drew.alloc (.cells #[.int .i64 0, .int .i64 0, .slice none 0 0] 26)) w2.heap.size 26 (.int .i64 0) (.int .i64 0) (.slice none 0 0)) := Blk3.at_ _ _ _ _ rfl
      have PL : w2.heap.size ≤ w2.drew.heap.size := hH.size
      try dsimp only
      refine hK.out _ _ ?_ (fun hH2 => ?_)
      · exact hH.alloc hH.size _
      clear hK K
      have hO := hH
      clear hH
      have hH := hH2
      clear hH2
      try simp only [Act.put, List.setIfInBounds_toArray, List.set_cons_zero, List.set_cons_succ]
      refine wpAnyH_ready (rs := [1]) (by kernel_rfl) (by simp) ?_
      refine AllReadyH.cons (by simp only [List.getElem?_toArray, List.getElem?_cons_succ, List.getElem?_cons_zero]; rfl) (fun K hK => ?_) AllReadyH.nil
      go_simp
      have hs1 := hH.size
      have lb1 := VB.out.lt
      (with_reducible refine (iCopyOf R C a m n xs HX.out _ (H.out.below (B.out.trans (hH.mono B.out.size))) (by omega)).mono ?_)
      rintro e v1 ⟨q0, qc, rfl, own, hb1⟩
      have O := Lib.hid own.inn
      clear own
      have VB := Lib.hid (VB.out.keep hb1 VB.out.lt)
      try dsimp only
      refine hK.out _ _ ?_ (fun hH2 => ?_)
      · exact hH.trans (hb1.mono hH.size)
      clear hK K
      have hO := hH
      clear hH
      have hH := hH2
      clear hH2
      try simp only [Act.put, List.setIfInBounds_toArray, List.set_cons_zero, List.set_cons_succ]
      have z1 := hb1.size
      refine wpAnyH_ready (rs := [3]) (by kernel_rfl) (by simp) ?_
      refine AllReadyH.cons (by simp only [List.getElem?_toArray, List.getElem?_cons_succ, List.getElem?_cons_zero]; rfl) (fun K hK => ?_) AllReadyH.nil
      go_simp
      have hs3 := hH.size
      have lb3 := VB.out.lt
      (with_reducible refine (iOpOf0 I J t _).mono ?_)
      rintro e v3 ⟨rfl, hb3⟩
      have O := Lib.hid (O.out.keep hb3)
      have VB := Lib.hid (VB.out.keep hb3 VB.out.lt)
      try dsimp only
      refine hK.out _ _ ?_ (fun hH2 => ?_)
      · exact hH.trans (hb3.mono hH.size)
      clear hK K
      have hO := hH
      clear hH
      have hH := hH2
      clear hH2
      try simp only [Act.put, List.setIfInBounds_toArray, List.set_cons_zero, List.set_cons_succ]
      have z3 := hb3.size
      refine wpAnyH_ready (rs := [5]) (by kernel_rfl) (by simp) ?_
      refine AllReadyH.cons (by simp only [List.getElem?_toArray, List.getElem?_cons_succ, List.getElem?_cons_zero]; rfl) (fun K hK => ?_) AllReadyH.nil
      obtain ⟨y0, y1, y2, y3, y4, y5⟩ := VB.out.all
      go_simp
      have VB := Lib.hid (((VB.out.set0 (.int .i64 R)).set1 (.int .i64 C)).set2 (.slice q0 n qc))
      try dsimp only
      refine hK.out _ _ ?_ (fun hH2 => ?_)
      · exact (((hH.setCell PL _).setCell PL _).setCell PL _)
      clear hK K
      have hO := hH
      clear hH
      have hH := hH2
      clear hH2
      try simp only [Act.put, List.setIfInBounds_toArray, List.set_cons_zero, List.set_cons_succ]
      refine wpAnyH_take (i := 6) (v := ?_) (by simp only [List.getElem?_toArray, List.getElem?_cons_succ, List.getElem?_cons_zero]; rfl) (by kernel_rfl) (by kernel_rfl) (by kernel_rfl) (by exact fun _ _ _ h => h) (Or.inl ⟨by rfl, ?_⟩) hH ?_
      rotate_left
      · (intro wS hS; clear hS; go_simp; try rfl)
      try simp only [Act.put, List.setIfInBounds_toArray, List.set_cons_zero, List.set_cons_succ]
      refine wpAnyH_done (by kernel_rfl) ?_ _
      go_wp2_with fail
      go_meet
      exact ⟨w2.heap.size, _, rfl, rfl, VB.out, (((O.out.far (by first | exact .inl lb1 | exact .inr (Nat.le_refl _) | omega) _).far (by first | exact .inl lb1 | exact .inr (Nat.le_refl _) | omega) _).far (by first | exact .inl lb1 | exact .inr (Nat.le_refl _) | omega) _).wide hs1 (by have := hb3.size; first | (simp; done) | (simp; omega) | omega), hH⟩
  case rest =>
    obtain ⟨p6, v0, rfl, rfl, k6, in0, hb⟩ := hcut
    have lK0 := K0.out.lt
    have lK1 := K1.out.lt
    have lK2 := K2.out.lt
    have K0 := Lib.hid (K0.out.step hb)
    have K1 := Lib.hid (K1.out.step hb)
    have K2 := Lib.hid (K2.out.step hb)
    have B := Lib.hid (stepB B.out hb)
    have K6 := Lib.hid k6
    have LP := hb.size
    clear hb k6 da0 da1 da2 db0 db1 db2 db3 dc0 dc1 dc2 gf0 gf1 gf2
    obtain ⟨cc0, cc1, cc2, -, -, -⟩ := K0.out.all
    have lw : w.heap.size ≤ w2.heap.size := by have := B.out.size; omega
    rcases in0.cases with ⟨rfl, rfl⟩ | ⟨g, qc, hv, gB, -, gi, gc⟩
    · obtain rfl : n = 0 := HX.out.symm
      have hC0 : C ≤ 0 := by
        rcases Nat.eq_zero_or_pos C with h | h
        · omega
        · have := Nat.mul_pos (show 0 < R by omega) h
          have := HN.out
          omega
      have EQ : Hid (MR.done R C (opL 0 I J t C []) = MR.done R C []) := rfl
      clear in0
      go_wp2_with fail
      go_loopw [31] (fun i wr => i = .int .i64 0 ∧ wr = wc) (fun _ _ => 0)
      case atStart => exact ⟨rfl, rfl⟩
      case round =>
        obtain ⟨rfl, rfl⟩ := hrel
        obtain ⟨dd0, dd1, dd2, -, -, -⟩ := K6.out.all
        go_wp2_with fail
        refine (iDone R C none 0 [] wr (Rd.nil _ _) (by simp)).mono ?_
        rintro e w4 ⟨rfl, hb⟩
        have R2 := Lib.hid (K2.out.step hb)
        have B := Lib.hid (stepB B.out hb)
        clear hb
        obtain ⟨s0, s1, s2, t0, t1, t2⟩ := R2.out.all
        have be : ∀ x y z, Below w.heap.size w (((w4.setCell ⟨w.heap.size + 1 + 1, 0, none⟩ x).setCell ⟨w.heap.size + 1 + 1, 1, none⟩ y).setCell ⟨w.heap.size + 1 + 1, 2, none⟩ z) := fun x y z =>
          (((B.out.setCell (by show w.heap.size ≤ w.heap.size + 1 + 1; omega) _).setCell (by show w.heap.size ≤ w.heap.size + 1 + 1; omega) _).setCell (by show w.heap.size ≤ w.heap.size + 1 + 1; omega) _)
        have BE := Lib.hid be
        clear be
        rcases Bool.eq_false_or_eq_true (isMat R C []) with hd | hd
        · have E : Hid (MR.done R C [] = ⟨true, R, C, []⟩) := by show MR.done R C [] = _; unfold MR.done; rw [hd]; rfl
          rw [hd]
          clear hd
          unfold DoneRes
          go_wp2_with fail
          obtain ⟨E0, E1, E2, -, -, -⟩ := (((R2.out.set0 (.int .i64 R)).set1 (.int .i64 C)).set2 (.slice none 0 0)).all
          rw [EQ.out, E.out]
          exact bodyPost_ret (v := .tuple #[.agg #[.int .i64 R, .int .i64 C, .slice none 0 0], .bool true]) (by simp [results, Try.results162, go_sem, E0, E1, E2]) rfl ⟨_, rfl, .inl ⟨rfl, rfl⟩, BE.out _ _ _⟩
        · have E : Hid (MR.done R C [] = MR.no) := by show MR.done R C [] = _; unfold MR.done; rw [hd]; rfl
          rw [hd]
          clear hd
          unfold DoneRes
          go_wp2_with fail
          obtain ⟨E0, E1, E2, -, -, -⟩ := (((R2.out.set0 (.int .i64 0)).set1 (.int .i64 0)).set2 (.slice none 0 0)).all
          rw [EQ.out, E.out]
          exact bodyPost_ret (v := .tuple #[.agg #[.int .i64 0, .int .i64 0, .slice none 0 0], .bool false]) (by simp [results, Try.results162, go_sem, E0, E1, E2]) rfl ⟨_, rfl, .inl ⟨rfl, rfl⟩, BE.out _ _ _⟩
    rw [HX.out] at hv gc
    subst hv
    have NE := gi.ne_blk K6.out
    have GI := Lib.hid gi
    clear in0 gi
    go_wp2_with fail
    go_loopw [31] (fun i wr => ∃ q : Nat, i = .int .i64 q ∧ q ≤ C ∧ Ints wr g (colTo (rwAt 0 I J t C xs) C xs q) ∧ wc.grownBy wr (some g) ∧ prodTo 0 J t C xs q) (fun i _ => C - (intOf i).toNat)
    case atStart => exact ⟨0, rfl, by omega, by rw [colTo_zero]; exact GI.out, World.grownBy.refl _ _, prodTo_zero _ _ _ _ _⟩
    case round =>
      obtain ⟨q, rfl, hq, hi, hgr, hp⟩ := hrel
      have IT := Lib.hid hi
      have G := Lib.hid hgr
      have P := Lib.hid hp
      clear hi hgr hp
      have R0 := Lib.hid (K0.out.keepOne G.out (by omega))
      have R1 := Lib.hid (K1.out.keepOne G.out (by omega))
      have R2 := Lib.hid (K2.out.keepOne G.out (by omega))
      have R6 := Lib.hid (K6.out.keepOne G.out NE.symm)
      have BW := Lib.hid (B.out.trans (below_of_one G.out (by omega) B.out.size))
      have HR := Lib.hid (H.out.below BW.out)
      obtain ⟨r0, r1, r2, -, -, -⟩ := R0.out.all
      obtain ⟨o0, o1, o2, o3⟩ := R1.out.all
      obtain ⟨s0, s1, s2, -, -, -⟩ := R6.out.all
      by_cases hlt : q < C
      · have a1 : I * C + q < n := by rw [HN.out]; exact idx_lt hI hlt
        have a2 : J * C + q < n := by rw [HN.out]; exact idx_lt hJ hlt
        have c1 : (I : Int) * (C : Int) = ((I * C : Nat) : Int) := (Int.natCast_mul _ _).symm
        have c2 : (J : Int) * (C : Int) = ((J * C : Nat) : Int) := (Int.natCast_mul _ _).symm
        have d1 : 0 ≤ (I : Int) * (C : Int) ∧ (I : Int) * (C : Int) ≤ 600 := by rw [c1]; omega
        have d2 : 0 ≤ (J : Int) * (C : Int) ∧ (J : Int) * (C : Int) ≤ 600 := by rw [c2]; omega
        have e1 : 0 ≤ (I : Int) * (C : Int) + (q : Int) := by omega
        have e2 : (I : Int) * (C : Int) + (q : Int) < (n : Int) := by rw [c1]; omega
        have e3 : ((I : Int) * (C : Int) + (q : Int)).toNat = I * C + q := by rw [c1]; omega
        have f1 : 0 ≤ (J : Int) * (C : Int) + (q : Int) := by omega
        have f2 : (J : Int) * (C : Int) + (q : Int) < (n : Int) := by rw [c2]; omega
        have f3 : ((J : Int) * (C : Int) + (q : Int)).toNat = J * C + q := by rw [c2]; omega
        obtain ⟨d11, d12⟩ := d1
        obtain ⟨d21, d22⟩ := d2
        have v1 : IntKind.i64.wrap ((I : Int) * (C : Int)) = (I : Int) * (C : Int) := IntWalk.i64_in _ (by omega)
        have v2 : IntKind.i64.wrap ((I : Int) * (C : Int) + (q : Int)) = (I : Int) * (C : Int) + (q : Int) := IntWalk.i64_in _ (by omega)
        have v3 : IntKind.i64.wrap ((J : Int) * (C : Int)) = (J : Int) * (C : Int) := IntWalk.i64_in _ (by omega)
        have v4 : IntKind.i64.wrap ((J : Int) * (C : Int) + (q : Int)) = (J : Int) * (C : Int) + (q : Int) := IntWalk.i64_in _ (by omega)
        obtain ⟨ba, oa, rfl, x1⟩ := HR.out (I * C + q) (by rw [HX.out]; exact a1)
        have x2 := HR.out.cells (J * C + q) (by rw [HX.out]; exact a2)
        clear c1 c2
        go_wp2_with fail
        go_quiet (fail)
        have R0 := Lib.hid (R0.out.drewN nq)
        have R1 := Lib.hid (R1.out.keepOne (grown_of_below (below_drewN (Below.refl _ _) nq) (some w.heap.size)) (by omega))
        have R2 := Lib.hid (R2.out.drewN nq)
        have R6 := Lib.hid (R6.out.drewN nq)
        have IT := Lib.hid (IT.out.drewN nq)
        have G := Lib.hid (grown_drewN_one G.out nq)
        have BW := Lib.hid (below_drewN BW.out nq)
        have HR := Lib.hid (H.out.below BW.out)
        clear r0 r1 r2 o0 o1 o2 o3 s0 s1 s2 x1 x2
        generalize wr.drewN nq = w3 at R0 R1 R2 R6 IT G BW HR ⊢
        obtain ⟨za, hza⟩ : ∃ z, xs.getD (I * C + q) 0 = z := ⟨_, rfl⟩
        obtain ⟨zb, hzb⟩ : ∃ z, xs.getD (J * C + q) 0 = z := ⟨_, rfl⟩
        have ZA := Lib.hid hza
        have ZB := Lib.hid hzb
        have CC : Hid (∀ wS, Below w3.heap.size w3 wS → _) := fun wS hS => colCells R0.out HR.out HX.out a1 a2 hS
        rw [hza, hzb] at CC
        clear hza hzb
        have NA : Hid (NumP za) := by rw [← ZA.out]; exact nums_at NX.out (by rw [HX.out]; exact a1)
        have NB : Hid (NumP zb) := by rw [← ZB.out]; exact nums_at NX.out (by rw [HX.out]; exact a2)
        go_upto_region 8 with fail
        refine wp_region_held_drew (S := fun w' => Below w3.heap.size w3 w') (by kernel_rfl) (Below.refl _ _).drew (fun hH => ?_)
        refine wpAnyH_take (i := 0) (v := ?_) (by simp only [List.getElem?_toArray, List.getElem?_cons_zero]; rfl) (by kernel_rfl) (by kernel_rfl) (by kernel_rfl) (by exact fun _ _ _ h => h) (Or.inl ⟨by rfl, ?_⟩) hH ?_
        rotate_left
        · (intro wS hS; clear hS; go_simp; try rfl)
        try simp only [Act.put, List.setIfInBounds_toArray, List.set_cons_zero, List.set_cons_succ]
        refine wpAnyH_take (i := 1) (v := ?_) (by simp only [List.getElem?_toArray, List.getElem?_cons_succ, List.getElem?_cons_zero]; rfl) (by kernel_rfl) (by kernel_rfl) (by kernel_rfl) (by exact fun _ _ _ h => h) (Or.inl ⟨by rfl, ?_⟩) hH ?_
        rotate_left
        · (intro wS hS; clear hS; go_simp; try rfl)
        try simp only [Act.put, List.setIfInBounds_toArray, List.set_cons_zero, List.set_cons_succ]
        refine wpAnyH_take (i := 2) (v := ?_) (by simp only [List.getElem?_toArray, List.getElem?_cons_succ, List.getElem?_cons_zero]; rfl) (by kernel_rfl) (by kernel_rfl) (by kernel_rfl) (by exact fun _ _ _ h => h) (Or.inl ⟨by rfl, ?_⟩) hH ?_
        rotate_left
        · (intro wS hS; (try dsimp only at hS); obtain ⟨k1, k2, k3, k4, k5⟩ := CC.out _ hS; go_simp; try rfl)
        try simp only [Act.put, List.setIfInBounds_toArray, List.set_cons_zero, List.set_cons_succ]
        refine wpAnyH_take (i := 3) (v := ?_) (by simp only [List.getElem?_toArray, List.getElem?_cons_succ, List.getElem?_cons_zero]; rfl) (by kernel_rfl) (by kernel_rfl) (by kernel_rfl) (by exact fun _ _ _ h => h) (Or.inl ⟨by rfl, ?_⟩) hH ?_
        rotate_left
        · (intro wS hS; clear hS; go_simp; try rfl)
        try simp only [Act.put, List.setIfInBounds_toArray, List.set_cons_zero, List.set_cons_succ]
        refine wpAnyH_take (i := 4) (v := ?_) (by simp only [List.getElem?_toArray, List.getElem?_cons_succ, List.getElem?_cons_zero]; rfl) (by kernel_rfl) (by kernel_rfl) (by kernel_rfl) (by exact fun _ _ _ h => h) (Or.inl ⟨by rfl, ?_⟩) hH ?_
        rotate_left
        · (intro wS hS; clear hS; go_simp; try rfl)
        try simp only [Act.put, List.setIfInBounds_toArray, List.set_cons_zero, List.set_cons_succ]
        refine wpAnyH_take (i := 5) (v := ?_) (by simp only [List.getElem?_toArray, List.getElem?_cons_succ, List.getElem?_cons_zero]; rfl) (by kernel_rfl) (by kernel_rfl) (by kernel_rfl) (by exact fun _ _ _ h => h) (Or.inl ⟨by rfl, ?_⟩) hH ?_
        rotate_left
        · (intro wS hS; (try dsimp only at hS); obtain ⟨k1, k2, k3, k4, k5⟩ := CC.out _ hS; go_simp; try rfl)
        try simp only [Act.put, List.setIfInBounds_toArray, List.set_cons_zero, List.set_cons_succ]
        refine wpAnyH_take (i := 6) (v := ?_) (by simp only [List.getElem?_toArray, List.getElem?_cons_succ, List.getElem?_cons_zero]; rfl) (by kernel_rfl) (by kernel_rfl) (by kernel_rfl) (by exact fun _ _ _ h => h) (Or.inl ⟨by rfl, ?_⟩) hH ?_
        rotate_left
        · (intro wS hS; clear hS; go_simp; try rfl)
        try simp only [Act.put, List.setIfInBounds_toArray, List.set_cons_zero, List.set_cons_succ]
        refine wpAnyH_take (i := 7) (v := ?_) (by simp only [List.getElem?_toArray, List.getElem?_cons_succ, List.getElem?_cons_zero]; rfl) (by kernel_rfl) (by kernel_rfl) (by kernel_rfl) (by exact fun _ _ _ h => h) (Or.inl ⟨by rfl, ?_⟩) hH ?_
        rotate_left
        · (intro wS hS; (try dsimp only at hS); obtain ⟨k1, k2, k3, k4, k5⟩ := CC.out _ hS; go_simp; try rfl)
        try simp only [Act.put, List.setIfInBounds_toArray, List.set_cons_zero, List.set_cons_succ]
        refine wpAnyH_take (i := 8) (v := ?_) (by simp only [List.getElem?_toArray, List.getElem?_cons_succ, List.getElem?_cons_zero]; rfl) (by kernel_rfl) (by kernel_rfl) (by kernel_rfl) (by exact fun _ _ _ h => h) (Or.inl ⟨by rfl, ?_⟩) hH ?_
        rotate_left
        · (intro wS hS; clear hS; go_simp; try rfl)
        try simp only [Act.put, List.setIfInBounds_toArray, List.set_cons_zero, List.set_cons_succ]
        refine wpAnyH_take (i := 9) (v := ?_) (by simp only [List.getElem?_toArray, List.getElem?_cons_succ, List.getElem?_cons_zero]; rfl) (by kernel_rfl) (by kernel_rfl) (by kernel_rfl) (by exact fun _ _ _ h => h) (Or.inl ⟨by rfl, ?_⟩) hH ?_
        rotate_left
        · (intro wS hS; clear hS; go_simp; try rfl)
        try simp only [Act.put, List.setIfInBounds_toArray, List.set_cons_zero, List.set_cons_succ]
        refine wpAnyH_take (i := 10) (v := ?_) (by simp only [List.getElem?_toArray, List.getElem?_cons_succ, List.getElem?_cons_zero]; rfl) (by kernel_rfl) (by kernel_rfl) (by kernel_rfl) (by exact fun _ _ _ h => h) (Or.inl ⟨by rfl, ?_⟩) hH ?_
        rotate_left
        · (intro wS hS; (try dsimp only at hS); obtain ⟨k1, k2, k3, k4, k5⟩ := CC.out _ hS; go_simp; try rfl)
        try simp only [Act.put, List.setIfInBounds_toArray, List.set_cons_zero, List.set_cons_succ]
        refine wpAnyH_take (i := 11) (v := ?_) (by simp only [List.getElem?_toArray, List.getElem?_cons_succ, List.getElem?_cons_zero]; rfl) (by kernel_rfl) (by kernel_rfl) (by kernel_rfl) (by exact fun _ _ _ h => h) (Or.inl ⟨by rfl, ?_⟩) hH ?_
        rotate_left
        · (intro wS hS; clear hS; go_simp; try rfl)
        try simp only [Act.put, List.setIfInBounds_toArray, List.set_cons_zero, List.set_cons_succ]
        refine wpAnyH_take (i := 12) (v := ?_) (by simp only [List.getElem?_toArray, List.getElem?_cons_succ, List.getElem?_cons_zero]; rfl) (by kernel_rfl) (by kernel_rfl) (by kernel_rfl) (by exact fun _ _ _ h => h) (Or.inl ⟨by rfl, ?_⟩) hH ?_
        rotate_left
        · (intro wS hS; clear hS; go_simp; try rfl)
        try simp only [Act.put, List.setIfInBounds_toArray, List.set_cons_zero, List.set_cons_succ]
        refine wpAnyH_take (i := 13) (v := ?_) (by simp only [List.getElem?_toArray, List.getElem?_cons_succ, List.getElem?_cons_zero]; rfl) (by kernel_rfl) (by kernel_rfl) (by kernel_rfl) (by exact fun _ _ _ h => h) (Or.inl ⟨by rfl, ?_⟩) hH ?_
        rotate_left
        · (intro wS hS; clear hS; go_simp; try rfl)
        try simp only [Act.put, List.setIfInBounds_toArray, List.set_cons_zero, List.set_cons_succ]
        refine wpAnyH_ready (rs := [14]) (by kernel_rfl) (by simp) ?_
        refine AllReadyH.cons (by simp only [List.getElem?_toArray, List.getElem?_cons_succ, List.getElem?_cons_zero]; rfl) (fun K hK => ?_) AllReadyH.nil
        go_simp
        go_upon
        (with_reducible refine (iDo0 za zb I J t _).mono ?_)
        rintro e v14 ⟨rfl, hb14⟩
        try dsimp only
        refine hK.out _ _ ?_ (fun hH2 => ?_)
        · exact hH.trans (hb14.mono hH.size)
        clear hK K hH
        have hH := hH2
        clear hH2
        try simp only [Act.put, List.setIfInBounds_toArray, List.set_cons_zero, List.set_cons_succ]
        refine wpAnyH_take (i := 15) (v := ?_) (by simp only [List.getElem?_toArray, List.getElem?_cons_succ, List.getElem?_cons_zero]; rfl) (by kernel_rfl) (by kernel_rfl) (by kernel_rfl) (by exact fun _ _ _ h => h) (Or.inl ⟨by rfl, ?_⟩) hH ?_
        rotate_left
        · (intro wS hS; clear hS; go_simp; try rfl)
        try simp only [Act.put, List.setIfInBounds_toArray, List.set_cons_zero, List.set_cons_succ]
        refine wpAnyH_take (i := 16) (v := ?_) (by simp only [List.getElem?_toArray, List.getElem?_cons_succ, List.getElem?_cons_zero]; rfl) (by kernel_rfl) (by kernel_rfl) (by kernel_rfl) (by exact fun _ _ _ h => h) (Or.inl ⟨by rfl, ?_⟩) hH ?_
        rotate_left
        · (intro wS hS; clear hS; go_simp; try rfl)
        try simp only [Act.put, List.setIfInBounds_toArray, List.set_cons_zero, List.set_cons_succ]
        refine wpAnyH_take (i := 17) (v := ?_) (by simp only [List.getElem?_toArray, List.getElem?_cons_succ, List.getElem?_cons_zero]; rfl) (by kernel_rfl) (by kernel_rfl) (by kernel_rfl) (by exact fun _ _ _ h => h) (Or.inl ⟨by rfl, ?_⟩) hH ?_
        rotate_left
        · (intro wS hS; clear hS; go_simp; try rfl)
        try simp only [Act.put, List.setIfInBounds_toArray, List.set_cons_zero, List.set_cons_succ]
        refine wpAnyH_take (i := 18) (v := ?_) (by simp only [List.getElem?_toArray, List.getElem?_cons_succ, List.getElem?_cons_zero]; rfl) (by kernel_rfl) (by kernel_rfl) (by kernel_rfl) (by exact fun _ _ _ h => h) (Or.inl ⟨by rfl, ?_⟩) hH ?_
        rotate_left
        · (intro wS hS; clear hS; go_simp; try rfl)
        try simp only [Act.put, List.setIfInBounds_toArray, List.set_cons_zero, List.set_cons_succ]
        refine wpAnyH_take (i := 19) (v := ?_) (by simp only [List.getElem?_toArray, List.getElem?_cons_succ, List.getElem?_cons_zero]; rfl) (by kernel_rfl) (by kernel_rfl) (by kernel_rfl) (by exact fun _ _ _ h => h) (Or.inl ⟨by rfl, ?_⟩) hH ?_
        rotate_left
        · (intro wS hS; clear hS; go_simp; try rfl)
        try simp only [Act.put, List.setIfInBounds_toArray, List.set_cons_zero, List.set_cons_succ]
        refine wpAnyH_take (i := 20) (v := ?_) (by simp only [List.getElem?_toArray, List.getElem?_cons_succ, List.getElem?_cons_zero]; rfl) (by kernel_rfl) (by kernel_rfl) (by kernel_rfl) (by exact fun _ _ _ h => h) (Or.inl ⟨by rfl, ?_⟩) hH ?_
        rotate_left
        · (intro wS hS; clear hS; go_simp; try rfl)
        try simp only [Act.put, List.setIfInBounds_toArray, List.set_cons_zero, List.set_cons_succ]
        refine wpAnyH_take (i := 21) (v := ?_) (by simp only [List.getElem?_toArray, List.getElem?_cons_succ, List.getElem?_cons_zero]; rfl) (by kernel_rfl) (by kernel_rfl) (by kernel_rfl) (by exact fun _ _ _ h => h) (Or.inl ⟨by rfl, ?_⟩) hH ?_
        rotate_left
        · (intro wS hS; clear hS; go_simp; try rfl)
        try simp only [Act.put, List.setIfInBounds_toArray, List.set_cons_zero, List.set_cons_succ]
        refine wpAnyH_done (by kernel_rfl) ?_ _
        have hb : Below w3.heap.size w3 v14 := hH
        have R0 := Lib.hid (R0.out.step hb)
        have R1 := Lib.hid (R1.out.step hb)
        have R2 := Lib.hid (R2.out.step hb)
        have R6 := Lib.hid (R6.out.step hb)
        have IT := Lib.hid (IT.out.keep hb IT.out.lt)
        have G := Lib.hid (G.out.trans (grown_of_below hb (some g)))
        have BW := Lib.hid (stepB BW.out hb)
        clear CC hH hb14 hb HR
        obtain ⟨s0, s1, s2, -, -, -⟩ := R6.out.all
        obtain ⟨y0, y1, y2, y3, y4, y5⟩ := R2.out.all
        go_upto_region 11 with fail
        have hold1 := IT.out.cell (i := I * C + q) (by rw [colTo_length, HX.out]; exact a1)
        have hfr1 := IT.out.free (I * C + q)
        refine wp_region_held_drew (S := fun w' => v14.grownBy w' (some g)) (by kernel_rfl) (grown_drew_one (World.grownBy.refl _ _)) (fun hH => ?_)
        refine wpAnyH_take (i := 0) (v := ?_) (by simp only [List.getElem?_toArray, List.getElem?_cons_zero]; rfl) (by kernel_rfl) (by kernel_rfl) (by kernel_rfl) (by exact fun _ _ _ h => h) (Or.inl ⟨by rfl, ?_⟩) hH ?_
        rotate_left
        · (intro wS hS; clear hS; go_simp; try rfl)
        try simp only [Act.put, List.setIfInBounds_toArray, List.set_cons_zero, List.set_cons_succ]
        refine wpAnyH_take (i := 1) (v := ?_) (by simp only [List.getElem?_toArray, List.getElem?_cons_succ, List.getElem?_cons_zero]; rfl) (by kernel_rfl) (by kernel_rfl) (by kernel_rfl) (by exact fun _ _ _ h => h) (Or.inl ⟨by rfl, ?_⟩) hH ?_
        rotate_left
        · (intro wS hS; (try dsimp only at hS); obtain ⟨k1, k2, k3, -, -, -⟩ := (R6.out.keepOne hS NE.symm).all; go_simp; try rfl)
        try simp only [Act.put, List.setIfInBounds_toArray, List.set_cons_zero, List.set_cons_succ]
        refine wpAnyH_take (i := 2) (v := ?_) (by simp only [List.getElem?_toArray, List.getElem?_cons_succ, List.getElem?_cons_zero]; rfl) (by kernel_rfl) (by kernel_rfl) (by kernel_rfl) (by exact fun _ _ _ h => h) (Or.inl ⟨by rfl, ?_⟩) hH ?_
        rotate_left
        · (intro wS hS; clear hS; go_simp; try rfl)
        try simp only [Act.put, List.setIfInBounds_toArray, List.set_cons_zero, List.set_cons_succ]
        refine wpAnyH_take (i := 3) (v := ?_) (by simp only [List.getElem?_toArray, List.getElem?_cons_succ, List.getElem?_cons_zero]; rfl) (by kernel_rfl) (by kernel_rfl) (by kernel_rfl) (by exact fun _ _ _ h => h) (Or.inl ⟨by rfl, ?_⟩) hH ?_
        rotate_left
        · (intro wS hS; clear hS; go_simp; try rfl)
        try simp only [Act.put, List.setIfInBounds_toArray, List.set_cons_zero, List.set_cons_succ]
        refine wpAnyH_take (i := 4) (v := ?_) (by simp only [List.getElem?_toArray, List.getElem?_cons_succ, List.getElem?_cons_zero]; rfl) (by kernel_rfl) (by kernel_rfl) (by kernel_rfl) (by exact fun _ _ _ h => h) (Or.inl ⟨by rfl, ?_⟩) hH ?_
        rotate_left
        · (intro wS hS; (try dsimp only at hS); obtain ⟨k1, k2, k3, -, -, -⟩ := (R6.out.keepOne hS NE.symm).all; go_simp; try rfl)
        try simp only [Act.put, List.setIfInBounds_toArray, List.set_cons_zero, List.set_cons_succ]
        refine wpAnyH_take (i := 5) (v := ?_) (by simp only [List.getElem?_toArray, List.getElem?_cons_succ, List.getElem?_cons_zero]; rfl) (by kernel_rfl) (by kernel_rfl) (by kernel_rfl) (by exact fun _ _ _ h => h) (Or.inl ⟨by rfl, ?_⟩) hH ?_
        rotate_left
        · (intro wS hS; clear hS; go_simp; try rfl)
        try simp only [Act.put, List.setIfInBounds_toArray, List.set_cons_zero, List.set_cons_succ]
        refine wpAnyH_take (i := 6) (v := ?_) (by simp only [List.getElem?_toArray, List.getElem?_cons_succ, List.getElem?_cons_zero]; rfl) (by kernel_rfl) (by kernel_rfl) (by kernel_rfl) (by exact fun _ _ _ h => h) (Or.inl ⟨by rfl, ?_⟩) hH ?_
        rotate_left
        · (intro wS hS; clear hS; go_simp; try rfl)
        try simp only [Act.put, List.setIfInBounds_toArray, List.set_cons_zero, List.set_cons_succ]
        refine wpAnyH_take (i := 7) (v := ?_) (by simp only [List.getElem?_toArray, List.getElem?_cons_succ, List.getElem?_cons_zero]; rfl) (by kernel_rfl) (by kernel_rfl) (by kernel_rfl) (by exact fun _ _ _ h => h) (Or.inl ⟨by rfl, ?_⟩) hH ?_
        rotate_left
        · (intro wS hS; clear hS; go_simp; try rfl)
        try simp only [Act.put, List.setIfInBounds_toArray, List.set_cons_zero, List.set_cons_succ]
        refine wpAnyH_take (i := 8) (v := ?_) (by simp only [List.getElem?_toArray, List.getElem?_cons_succ, List.getElem?_cons_zero]; rfl) (by kernel_rfl) (by kernel_rfl) (by kernel_rfl) (by exact fun _ _ _ h => h) (Or.inl ⟨by rfl, ?_⟩) hH ?_
        rotate_left
        · (intro wS hS; clear hS; go_simp; try rfl)
        try simp only [Act.put, List.setIfInBounds_toArray, List.set_cons_zero, List.set_cons_succ]
        refine wpAnyH_ready (rs := [9]) (by kernel_rfl) (by simp) ?_
        refine AllReadyH.cons (by simp only [List.getElem?_toArray, List.getElem?_cons_succ, List.getElem?_cons_zero]; rfl) (fun K hK => ?_) AllReadyH.nil
        clear hH
        go_simp
        have IT2 := Lib.hid (IT.out.set (I * C + q) (zb))
        refine hK.out _ _ (grown_drew_one (grown_set_one (World.grownBy.refl _ _) rfl _)) (fun hH => ?_)
        clear hK K
        try simp only [Act.put, List.setIfInBounds_toArray, List.set_cons_zero, List.set_cons_succ]
        refine wpAnyH_take (i := 10) (v := ?_) (by simp only [List.getElem?_toArray, List.getElem?_cons_succ, List.getElem?_cons_zero]; rfl) (by kernel_rfl) (by kernel_rfl) (by kernel_rfl) (by exact fun _ _ _ h => h) (Or.inl ⟨by rfl, ?_⟩) hH ?_
        rotate_left
        · (intro wS hS; clear hS; go_simp; try rfl)
        try simp only [Act.put, List.setIfInBounds_toArray, List.set_cons_zero, List.set_cons_succ]
        refine wpAnyH_ready (rs := [11]) (by kernel_rfl) (by simp) ?_
        refine AllReadyH.cons (by simp only [List.getElem?_toArray, List.getElem?_cons_succ, List.getElem?_cons_zero]; rfl) (fun K hK => ?_) AllReadyH.nil
        clear hH hold1 hfr1
        have hold2 := IT2.out.cell (i := J * C + q) (by rw [List.length_set, colTo_length, HX.out]; exact a2)
        have hfr2 := IT2.out.free (J * C + q)
        go_simp
        refine hK.out _ _ (grown_drew_one (grown_set_one (b := g) (grown_set_one (b := g) (World.grownBy.refl v14 (some g)) rfl _) rfl _)) (fun hH => ?_)
        clear hK K hH hold2 hfr2
        refine wpAnyH_done (by kernel_rfl) ?_ _
        go_wp2_with fail
        go_roundw
        case rel =>
          have E := rw_swap I J t C R xs q (HX.out.trans HN.out) hI hJ hlt (by have := IJ.out; omega)
          rw [ZA.out, ZB.out] at E
          refine ⟨q + 1, by go_num, by omega, ?_, grown_drew_one (grown_set_one (b := g) (grown_set_one (b := g) G.out rfl _) rfl _), fun h => absurd h (by decide)⟩
          rw [← E]
          exact (IT2.out.set (J * C + q) (za)).drew
        case measure => simp [intOf]; omega
      · have hqC : q = C := by omega
        rw [hqC] at IT P
        have HL : Hid ((colTo (rwAt 0 I J t C xs) C xs C).length = n) := by show _ = n; rw [colTo_length, HX.out]
        have EQ : Hid (MR.done R C (opL 0 I J t C xs) = MR.done R C (colTo (rwAt 0 I J t C xs) C xs C)) := rw_done 0 I J t R C xs (by decide) (HX.out.trans HN.out) NX.out HT.out P.out
        generalize colTo (rwAt 0 I J t C xs) C xs C = L at IT HL EQ
        clear o0 o1 o2 o3
        go_wp2_with fail
        have ST := iDone R C (some ⟨g, 0, none⟩) qc L wr IT.out.rd (by rw [HL.out]; omega)
        rw [HL.out] at ST
        refine ST.mono ?_
        clear ST
        rintro e w4 ⟨rfl, hb⟩
        have R2 := Lib.hid (R2.out.step hb)
        have IT := Lib.hid (IT.out.keep hb IT.out.lt)
        have B := Lib.hid (stepB BW.out hb)
        clear hb
        obtain ⟨s0, s1, s2, t0, t1, t2⟩ := R2.out.all
        have be : ∀ x y z, Below w.heap.size w (((w4.setCell ⟨w.heap.size + 1 + 1, 0, none⟩ x).setCell ⟨w.heap.size + 1 + 1, 1, none⟩ y).setCell ⟨w.heap.size + 1 + 1, 2, none⟩ z) := fun x y z =>
          (((B.out.setCell (by show w.heap.size ≤ w.heap.size + 1 + 1; omega) _).setCell (by show w.heap.size ≤ w.heap.size + 1 + 1; omega) _).setCell (by show w.heap.size ≤ w.heap.size + 1 + 1; omega) _)
        have BE := Lib.hid be
        clear be
        rcases Bool.eq_false_or_eq_true (isMat R C L) with hd | hd
        · have E : Hid (MR.done R C L = ⟨true, R, C, L⟩) := by show MR.done R C L = _; unfold MR.done; rw [hd]; rfl
          rw [hd]
          clear hd
          unfold DoneRes
          go_wp2_with fail
          obtain ⟨E0, E1, E2, -, -, -⟩ := (((R2.out.set0 (.int .i64 R)).set1 (.int .i64 C)).set2 (.slice (some ⟨g, 0, none⟩) n qc)).all
          rw [EQ.out, E.out]
          refine bodyPost_ret (v := .tuple #[.agg #[.int .i64 R, .int .i64 C, .slice (some ⟨g, 0, none⟩) n qc], .bool true]) (by simp [results, Try.results162, go_sem, E0, E1, E2]) rfl ⟨_, rfl, ?_, ?_⟩
          · refine .inr ⟨g, qc, by rw [HL.out], by omega, ?_, by rw [HL.out]; omega, by rw [HL.out]; omega⟩
            exact ((IT.out.far (by show g ≠ w.heap.size + 1 + 1; omega) _).far (by show g ≠ w.heap.size + 1 + 1; omega) _).far (by show g ≠ w.heap.size + 1 + 1; omega) _
          · exact BE.out _ _ _
        · have E : Hid (MR.done R C L = MR.no) := by show MR.done R C L = _; unfold MR.done; rw [hd]; rfl
          rw [hd]
          clear hd
          unfold DoneRes
          go_wp2_with fail
          obtain ⟨E0, E1, E2, -, -, -⟩ := (((R2.out.set0 (.int .i64 0)).set1 (.int .i64 0)).set2 (.slice none 0 0)).all
          rw [EQ.out, E.out]
          exact bodyPost_ret (v := .tuple #[.agg #[.int .i64 0, .int .i64 0, .slice none 0 0], .bool false]) (by simp [results, Try.results162, go_sem, E0, E1, E2]) rfl ⟨_, rfl, .inl ⟨rfl, rfl⟩, BE.out _ _ _⟩
end Go.Proofs.Ytpelnfenfeoeeaa
end
