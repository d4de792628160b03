/-
  Plain mathematics of chapter 7: what the laws ask of echelon forms. Nothing of a program is used.
-/
import Derived.Test.YtpknondccajinaaEchL
import Derived.Test.YtpknondccajinaaSpnT
namespace Go.Proofs.Ytpknondccajinaa

theorem elimR_fix {r c t j : Nat} {xs : List Int} : ∀ (k i : Nat), (∀ p, i ≤ p → p < i + k → p = t ∨ mxC c xs p j = 0) → elimR r c t j k i xs = some xs := by
  intro k
  induction k with
  | zero => intro i _; rfl
  | succ k ih =>
    intro i h
    show (if i = t ∨ mxC c xs i j = 0 then elimR r c t j k (i + 1) xs else _) = _
    rw [if_pos (h i (Nat.le_refl _) (by omega))]
    exact ih (i + 1) fun p h1 h2 => h p (by omega) (by omega)
theorem map_getD {t : Nat} {p : Nat → Nat} {i : Nat} (hi : i < t) : ((List.range t).map p).getD i 0 = p i := by simp [List.getD, hi]
theorem echC_fix {r c t : Nat} {xs : List Int} {p : Nat → Nat} (h : Ech r c (mxC c xs) p t) : ∀ (k j m : Nat), j + k = c → m ≤ t → (∀ i, i < m → p i < j) → (m < t → j ≤ p m) → echC r c k j xs ((List.range m).map p) = some (xs, (List.range t).map p) := by
  intro k
  induction k with
  | zero =>
    intro j m hjk hm _ h2
    have : m = t := by
      rcases Nat.lt_or_ge m t with h3 | h3
      · have := h2 h3; have := h.col m h3; omega
      · omega
    rw [this]; rfl
  | succ k ih =>
    intro j m hjk hm h1 h2
    have hl : ((List.range m).map p).length = m := by simp
    show (if ((List.range m).map p).length < r then
      if fstR c j xs (r - ((List.range m).map p).length) ((List.range m).map p).length = r then echC r c k (j + 1) xs ((List.range m).map p)
      else match elimR r c ((List.range m).map p).length j r 0 (swC (fstR c j xs (r - ((List.range m).map p).length) ((List.range m).map p).length) ((List.range m).map p).length c xs) with
        | none => none
        | some ys => echC r c k (j + 1) ys ((List.range m).map p ++ [j])
    else some (xs, (List.range m).map p)) = _
    rw [hl]
    have hle := h.le
    by_cases hmr : m < r
    · rw [if_pos hmr]
      by_cases hp : m < t ∧ p m = j
      · obtain ⟨hmt, hpm⟩ := hp
        have hpos := h.pos m hmt
        rw [hpm] at hpos
        have hf : fstR c j xs (r - m) m = m := fstR_eq (Nat.le_refl _) (by omega) (fun i h3 h4 => by omega) (fun _ => by omega)
        rw [hf, if_neg (by omega)]
        have hs : swC m m c xs = xs := by unfold swC; rw [if_pos rfl]
        have he : elimR r c m j r 0 xs = some xs := elimR_fix r 0 fun q _ hq => by
          by_cases e : q = m
          · exact .inl e
          · right
            have := h.only m q hmt (by omega) e
            rw [hpm] at this
            exact this
        rw [hs, he]
        show echC r c k (j + 1) xs ((List.range m).map p ++ [j]) = _
        have e : (List.range m).map p ++ [j] = (List.range (m + 1)).map p := by rw [List.range_succ, List.map_append, List.map_cons, List.map_nil, hpm]
        rw [e]
        refine ih (j + 1) (m + 1) (by omega) hmt (fun i hi => ?_) (fun h3 => ?_)
        · rcases Nat.lt_or_ge i m with h4 | h4
          · have := h1 i h4; omega
          · obtain rfl : i = m := by omega
            omega
        · have := h.inc m (m + 1) (by omega) h3
          omega
      · have hz : ∀ i, m ≤ i → i < r → mxC c xs i j = 0 := fun i h3 h4 => by
          rcases Nat.lt_or_ge i t with h5 | h5
          · have h6 : m < t := by omega
            have h7 := h2 h6
            have h8 : j < p m := by
              have : p m ≠ j := fun e => hp ⟨h6, e⟩
              omega
            rcases Nat.lt_or_ge m i with h9 | h9
            · have := h.inc m i h9 h5
              exact h.left i j h5 (by omega)
            · obtain rfl : i = m := by omega
              exact h.left i j h5 h8
          · exact h.rest i j h5 h4 (by omega)
        have hf : fstR c j xs (r - m) m = r := fstR_eq (by omega) (by omega) (fun i h3 h4 => hz i h3 h4) (fun h3 => by omega)
        rw [hf, if_pos rfl]
        refine ih (j + 1) m (by omega) hm (fun i hi => by have := h1 i hi; omega) (fun h3 => ?_)
        have h4 := h2 h3
        have : p m ≠ j := fun e => hp ⟨h3, e⟩
        omega
    · rw [if_neg hmr]
      have : m = t := by omega
      rw [this]
theorem prTo_fix {r c : Nat} {xs : List Int} (hx : xs.length = r * c) (hn : ∀ i, i < r → Norm c (mxC c xs i)) : prTo r c r xs = xs := by
  refine (tab_ext hx fun i j hi hj => ?_).symm
  rw [if_pos hi, prV_id (hn i hi) hj]
  rfl
theorem pv_map {pv : List Nat} : (List.range pv.length).map (fun k => pv.getD k 0) = pv := by
  refine List.ext_getElem (by simp) fun i h1 h2 => ?_
  simp [List.getD, h2]
/-- An echelon form stays us it is. -/
theorem echM_fix {r c : Nat} {xs ys : List Int} {pv : List Nat} (hx : xs.length = r * c) (hn : nums xs = true) (h : echM r c xs = some (ys, pv)) : echM r c ys = some (ys, pv) := by
  obtain ⟨he, -, -, hl, -, hm⟩ := echM_says hx hn h
  unfold echM
  rw [prTo_fix hl hm]
  have := echC_fix he c 0 0 (by omega) (Nat.zero_le _) (fun i hi => by omega) (fun _ => Nat.zero_le _)
  rw [pv_map] at this
  exact this
theorem mx_ext {r c : Nat} {xs ys : List Int} (hx : xs.length = r * c) (hy : ys.length = r * c) (h : ∀ i j, i < r → j < c → mxC c xs i j = mxC c ys i j) : xs = ys := by
  have e1 := tab_ext (r := r) (c := c) (f := mxC c ys) hx h
  have e2 := tab_ext (r := r) (c := c) (f := mxC c ys) hy (fun _ _ _ _ => rfl)
  rw [e1]; exact e2.symm
theorem ech_same {r c : Nat} {xs ys us vs : List Int} {p q : List Nat} (hx : xs.length = r * c) (hxn : nums xs = true) (hy : ys.length = r * c) (hyn : nums ys = true) (ha : echM r c xs = some (us, p)) (hb : echM r c ys = some (vs, q)) (h1 : SubSp r r c (mxC c xs) (mxC c ys)) (h2 : SubSp r r c (mxC c ys) (mxC c xs)) : us = vs ∧ p = q := by
  obtain ⟨ea, ta, fa, la, -, -⟩ := echM_says hx hxn ha
  obtain ⟨eb, tb, fb, lb, -, -⟩ := echM_says hy hyn hb
  obtain ⟨u1, u2, u3⟩ := ea.uniq eb (ta.trans (h1.trans fb)) (tb.trans (h2.trans fa))
  refine ⟨mx_ext la lb fun i j hi hj => ?_, List.ext_getElem u1 fun i h3 h4 => ?_⟩
  · rcases Nat.lt_or_ge i p.length with h | h
    · exact (u3 i j h hj).symm
    · rw [ea.rest i j h hi hj, eb.rest i j (by omega) hi hj]
  · have := u2 i h3
    simpa [List.getD, h3, h4] using this.symm
/-- The rank of a matrix turned over. -/
theorem ech_turn {r c : Nat} {xs ys us vs : List Int} {p q : List Nat} (hx : xs.length = r * c) (hxn : nums xs = true) (hy : ys.length = c * r) (hyn : nums ys = true) (ht : ∀ i j, i < c → j < r → mxC r ys i j = mxC c xs j i) (ha : echM r c xs = some (us, p)) (hb : echM c r ys = some (vs, q)) : q.length = p.length := by
  obtain ⟨ea, ta, fa, -, -, -⟩ := echM_says hx hxn ha
  obtain ⟨eb, tb, fb, -, -, -⟩ := echM_says hy hyn hb
  have h1 : SubSp c c r (trX (mxC c xs)) (mxC r ys) := fun i hi => (InSp.row (A := mxC r ys) hi).congr fun j hj => (ht i j hi hj).symm
  have h2 : SubSp c c r (mxC r ys) (trX (mxC c xs)) := fun i hi => (InSp.row (A := trX (mxC c xs)) hi).congr fun j hj => ht i j hi hj
  exact rank_tr ea fa ta eb (tb.trans h2) (h1.trans fb)
/-- The first rows that are not zeros are equal. -/
def sameTop (c : Nat) (us vs : List Int) (p q : List Nat) : Bool := decide (p.length = q.length) && decide (∀ i, i < p.length * c → us.getD i 0 = vs.getD i 0)
theorem top_at {c t : Nat} {us vs : List Int} (h : ∀ i, i < t * c → us.getD i 0 = vs.getD i 0) {i j : Nat} (hi : i < t) (hj : j < c) : mxC c us i j = mxC c vs i j := h _ (idx_lt hi hj)
theorem sameTop_iff {r s c : Nat} {xs ys us vs : List Int} {p q : List Nat} (hx : xs.length = r * c) (hxn : nums xs = true) (hy : ys.length = s * c) (hyn : nums ys = true) (ha : echM r c xs = some (us, p)) (hb : echM s c ys = some (vs, q)) : sameTop c us vs p q = true ↔ SubSp r s c (mxC c xs) (mxC c ys) ∧ SubSp s r c (mxC c ys) (mxC c xs) := by
  obtain ⟨ea, ta, fa, la, -, -⟩ := echM_says hx hxn ha
  obtain ⟨eb, tb, fb, lb, -, -⟩ := echM_says hy hyn hb
  unfold sameTop
  rw [Bool.and_eq_true, decide_eq_true_eq, decide_eq_true_eq]
  constructor
  · rintro ⟨h1, h2⟩
    have s1 : SubSp r s c (mxC c us) (mxC c vs) := fun i hi => by
      rcases Nat.lt_or_ge i p.length with h | h
      · exact (InSp.row (A := mxC c vs) (show i < s by have := eb.le; omega)).congr fun j hj => top_at h2 h hj
      · exact (InSp.zero s c _).congr fun j hj => ea.rest i j h hi hj
    have s2 : SubSp s r c (mxC c vs) (mxC c us) := fun i hi => by
      rcases Nat.lt_or_ge i p.length with h | h
      · exact (InSp.row (A := mxC c us) (show i < r by have := ea.le; omega)).congr fun j hj => (top_at h2 h hj).symm
      · exact (InSp.zero r c _).congr fun j hj => eb.rest i j (by omega) hi hj
    exact ⟨fa.trans (s1.trans tb), fb.trans (s2.trans ta)⟩
  · rintro ⟨h1, h2⟩
    obtain ⟨u1, -, u3⟩ := ea.uniq eb (ta.trans (h1.trans fb)) (tb.trans (h2.trans fa))
    refine ⟨u1, fun i hi => ?_⟩
    have hc : 0 < c := by
      rcases Nat.eq_zero_or_pos c with e | e
      · rw [e, Nat.mul_zero] at hi; omega
      · exact e
    have e : i = i / c * c + i % c := by rw [Nat.mul_comm]; exact (Nat.div_add_mod i c).symm
    have h3 : i / c < p.length := Nat.div_lt_of_lt_mul (by rw [Nat.mul_comm]; exact hi)
    have := u3 (i / c) (i % c) h3 (Nat.mod_lt i hc)
    unfold mxC at this
    rw [← e] at this
    exact this.symm
/-- Two matrices span one space just if the rank does not grow where they are put together. -/
theorem spaces_law {r s c : Nat} {xs ys zs us vs ws : List Int} {p q u : List Nat} (hx : xs.length = r * c) (hxn : nums xs = true) (hy : ys.length = s * c) (hyn : nums ys = true) (hz : zs.length = (r + s) * c) (hzn : nums zs = true) (hst : ∀ i j, i < r + s → j < c → mxC c zs i j = stkX r (mxC c xs) (mxC c ys) i j)
    (ha : echM r c xs = some (us, p)) (hb : echM s c ys = some (vs, q)) (hc : echM (r + s) c zs = some (ws, u)) : sameTop c us vs p q = (decide (p.length = u.length) && decide (q.length = u.length)) := by
  obtain ⟨ea, ta, fa, -, -, -⟩ := echM_says hx hxn ha
  obtain ⟨eb, tb, fb, -, -, -⟩ := echM_says hy hyn hb
  obtain ⟨ec, tc, fc, -, -, -⟩ := echM_says hz hzn hc
  have z1 : SubSp (r + s) (r + s) c (mxC c zs) (stkX r (mxC c xs) (mxC c ys)) := fun i hi => (InSp.row (A := stkX r (mxC c xs) (mxC c ys)) hi).congr fun j hj => hst i j hi hj
  have z2 : SubSp (r + s) (r + s) c (stkX r (mxC c xs) (mxC c ys)) (mxC c zs) := fun i hi => (InSp.row (A := mxC c zs) hi).congr fun j hj => (hst i j hi hj).symm
  have xz : SubSp r (r + s) c (mxC c xs) (mxC c zs) := stk_left.trans z2
  have yz : SubSp s (r + s) c (mxC c ys) (mxC c zs) := stk_right.trans z2
  have ac : SubSp r (r + s) c (mxC c us) (mxC c ws) := ta.trans (xz.trans fc)
  have bc : SubSp s (r + s) c (mxC c vs) (mxC c ws) := tb.trans (yz.trans fc)
  rw [Bool.eq_iff_iff, sameTop_iff hx hxn hy hyn ha hb, Bool.and_eq_true, decide_eq_true_eq, decide_eq_true_eq]
  constructor
  · rintro ⟨h1, h2⟩
    have zx : SubSp (r + s) r c (mxC c zs) (mxC c xs) := z1.trans (stk_sub (SubSp.refl _ _ _) h2)
    have zy : SubSp (r + s) s c (mxC c zs) (mxC c ys) := z1.trans (stk_sub h1 (SubSp.refl _ _ _))
    have a1 := ea.count ec ac
    have a2 := ec.count ea (tc.trans (zx.trans fa))
    have b1 := eb.count ec bc
    have b2 := ec.count eb (tc.trans (zy.trans fb))
    exact ⟨by omega, by omega⟩
  · rintro ⟨h1, h2⟩
    have ca : SubSp (r + s) r c (mxC c ws) (mxC c us) := by
      rw [← h1] at ec
      exact ea.whole ec ac
    have cb : SubSp (r + s) s c (mxC c ws) (mxC c vs) := by
      rw [← h2] at ec
      exact eb.whole ec bc
    exact ⟨xz.trans (fc.trans (cb.trans tb)), yz.trans (fc.trans (ca.trans ta))⟩
end Go.Proofs.Ytpknondccajinaa
