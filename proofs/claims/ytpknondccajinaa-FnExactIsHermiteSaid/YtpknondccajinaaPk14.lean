/-
  Texts of this seat, joined: HmC · IhI
-/
import Derived.Test.YtpknondccajinaaPk5
import Derived.Test.YtpknondccajinaaPk6

section
/-
  Plain mathematics of chapter 12: telling a Hermite form by pivots that go to the right, without a look below them. Nothing of a program is used.
-/
namespace Go.Proofs.Ytpknondccajinaa

/-- A pivot, and remainders above it. -/
def pvOk (c : Nat) (xs : List Int) (i l : Nat) : Prop := 0 < mxC c xs i l ∧ ∀ s, s < i → 0 ≤ mxC c xs s l ∧ mxC c xs s l < mxC c xs i l
/-- k rows from row i on pass, behind a row whose pivot is in column last. -/
def HmD (c : Nat) (xs : List Int) : Nat → Nat → Int → Prop
  | 0, _, _ => True
  | k + 1, i, last => ¬ (leadC c (mxC c xs i) < c ∧ ((leadC c (mxC c xs i) : Int) ≤ last ∨ ¬ pvOk c xs i (leadC c (mxC c xs i)))) ∧ HmD c xs k (i + 1) (leadC c (mxC c xs i))
theorem HmD_step {c k i : Nat} {xs : List Int} {last : Int} : HmD c xs (k + 1) i last ↔ (¬ (leadC c (mxC c xs i) < c ∧ ((leadC c (mxC c xs i) : Int) ≤ last ∨ ¬ pvOk c xs i (leadC c (mxC c xs i)))) ∧ HmD c xs k (i + 1) (leadC c (mxC c xs i))) := Iff.rfl
theorem HmD.zero {r c : Nat} {xs : List Int} : ∀ (k i : Nat) (last : Int), i + k = r → HmD c xs k i last → ∀ p j : Nat, i ≤ p → p < r → (j : Int) ≤ last → j < c → mxC c xs p j = 0 := by
  intro k
  induction k with
  | zero => intro i last hik _ p j h1 h2; omega
  | succ k ih =>
    intro i last hik ⟨h1, h2⟩ p j h3 h4 h5 h6
    obtain ⟨l1, l2, -⟩ := leadC_says c (mxC c xs i)
    have hj : j < leadC c (mxC c xs i) := by
      rcases Nat.lt_or_ge (leadC c (mxC c xs i)) c with h | h
      · have : ¬ (leadC c (mxC c xs i) : Int) ≤ last := fun e => h1 ⟨h, .inl e⟩
        omega
      · omega
    rcases Nat.lt_or_ge i p with h7 | h7
    · exact ih (i + 1) _ (by omega) h2 p j h7 h4 (by omega) h6
    · obtain rfl : p = i := by omega
      exact l2 j hj
theorem HmD_HmB {r c : Nat} {xs : List Int} : ∀ (k i : Nat) (last : Int), i + k = r → (HmD c xs k i last ↔ HmB r c xs k i last) := by
  intro k
  induction k with
  | zero => intro i last _; exact Iff.rfl
  | succ k ih =>
    intro i last hik
    obtain ⟨l1, l2, l3⟩ := leadC_says c (mxC c xs i)
    rw [HmD_step, HmB_step]
    constructor
    · rintro ⟨h1, h2⟩
      refine ⟨?_, ?_, (ih (i + 1) _ (by omega)).mp h2⟩
      · rintro ⟨h3, h4⟩
        have h5 : ¬ (leadC c (mxC c xs i) : Int) ≤ last := fun e => h1 ⟨h3, .inl e⟩
        have h6 : pvOk c xs i (leadC c (mxC c xs i)) := Classical.byContradiction fun e => h1 ⟨h3, .inr e⟩
        rcases h4 with h4 | h4 | h4
        · omega
        · exact h5 h4
        · have := h6.1; omega
      · rintro ⟨h3, p, h4, h5⟩
        have h6 : pvOk c xs i (leadC c (mxC c xs i)) := Classical.byContradiction fun e => h1 ⟨h3, .inr e⟩
        rcases h5 with ⟨h7, h8⟩ | ⟨h7, h8⟩
        · have := h6.2 p h7
          exact h8 ⟨this.1, by omega⟩
        · exact h8 (HmD.zero k (i + 1) _ (by omega) h2 p _ h7 h4 (Int.le_refl _) h3)
    · rintro ⟨h1, h2, h3⟩
      refine ⟨?_, (ih (i + 1) _ (by omega)).mpr h3⟩
      rintro ⟨h4, h5⟩
      rcases h5 with h5 | h5
      · exact h1 ⟨h4, .inr (.inl h5)⟩
      · refine h5 ⟨?_, fun s hs => ?_⟩
        · have h6 : ¬ mxC c xs i (leadC c (mxC c xs i)) < 0 := fun e => h1 ⟨h4, .inr (.inr e)⟩
          have := l3 h4
          omega
        · have : 0 ≤ mxC c xs s (leadC c (mxC c xs i)) ∧ mxC c xs s (leadC c (mxC c xs i)) ≤ mxC c xs i (leadC c (mxC c xs i)) - 1 := Classical.byContradiction fun e => h2 ⟨h4, s, by omega, .inl ⟨hs, e⟩⟩
          exact ⟨this.1, by omega⟩
/-- What is checked row by row is a Hermite form. -/
theorem HmD_iff {r c : Nat} {xs : List Int} (h : isMat r c xs = true) : HmD c xs r 0 (-1) ↔ herIs r c xs = true := (HmD_HmB r 0 (-1) (by omega)).trans (herIs_iff h)
end Go.Proofs.Ytpknondccajinaa
end

section
/-
  Chapter 12, in the program: IsHermite.
-/
namespace Go.Proofs.Ytpknondccajinaa
set_option maxRecDepth 100000
open Go.RowKit

theorem hx_cell {R C l : Nat} {a : Option Addr} {xs : List Int} {w : World} (h : Rd w a xs) (hx : xs.length = R * C) (hl : l < C) : ∀ i, i < R → ∃ g o : Nat, a = some ⟨g, o, none⟩ ∧ w.cell? ⟨g, o + i * C + l, none⟩ = some (.int .i64 (mxC C xs i l)) := fun i hi => by
  obtain ⟨g, o, h1, h2⟩ := h (i * C + l) (by rw [hx]; exact idx_lt hi hl)
  exact ⟨g, o, h1, by rw [Nat.add_assoc]; exact h2⟩
set_option maxHeartbeats 2000000 in
theorem iIsPivot (R C N i l : Nat) (a : Option Addr) (m : Nat) (xs : List Int) (w : World) (h : Rd w a xs) (ha : Spot a) (ham : N ≤ m) (haz : a = none → m = 0) (hx : xs.length = N) (hN : N = R * C) (hR : R ≤ 24) (hC : C ≤ 24) (hi : i < R) (hl : l < C) (b : Bool) (hb : b = true ↔ pvOk C xs i l) :
    Calls Try.prog 61 #[.agg #[.int .i64 R, .int .i64 C, .slice a N m], .int .i64 i, .int .i64 l] w (Gives (.bool b) w) := by
  have hle : R * C ≤ 24 * 24 := Nat.mul_le_mul hR hC
  have K0 : Hid (Blk3 (w.alloc (.cells #[.int .i64 R, .int .i64 C, .slice a N m] 26)) w.heap.size 26 (.int .i64 R) (.int .i64 C) (.slice a N m)) := Blk3.at_ _ _ _ _ rfl
  have B0 : Hid (Below w.heap.size w (w.alloc (.cells #[.int .i64 R, .int .i64 C, .slice a N m] 26))) := (Below.refl _ _).alloc (Nat.le_refl _) _
  have RW : Hid (∀ i w', i < R → Calls Try.prog 39 #[.agg #[.int .i64 R, .int .i64 C, .slice a N m], .int .i64 i] w' (RowAt a (i * C) C w')) := fun i w' hi => iRowIn R C i (i * C) N m a w' ha rfl (by rw [hN, ← Nat.succ_mul]; exact Nat.mul_le_mul_right _ hi) ham haz (by omega) (by omega)
  have CX : Hid (∀ i w', i < R → Below w.heap.size w w' → ∃ g o : Nat, a = some ⟨g, o, none⟩ ∧ w'.cell? ⟨g, o + i * C + l, none⟩ = some (.int .i64 (mxC C xs i l))) := fun i w' hi hb => hx_cell (h.below hb) (by rw [hx, hN]) hl i hi
  have cj : Hid ((0 : Int) ≤ (l : Int) ∧ (l : Int) < (C : Int)) := ⟨by omega, by omega⟩
  obtain ⟨f, hf⟩ : ∃ f : Nat → Int, (fun i => mxC C xs i l) = f := ⟨_, rfl⟩
  have CX : Hid (∀ i w', i < R → Below w.heap.size w w' → ∃ g o : Nat, a = some ⟨g, o, none⟩ ∧ w'.cell? ⟨g, o + i * C + l, none⟩ = some (.int .i64 (f i))) := by rw [← hf]; exact CX
  have HB : Hid (b = true ↔ 0 < f i ∧ ∀ s, s < i → 0 ≤ f s ∧ f s < f i) := by rw [← hf]; exact hb
  clear h ha ham haz hx hN hf hb hle
  go_enter Try.func61, Try.ntmps61
  go_wp2_with fail
  generalize w.alloc (.cells #[.int .i64 R, .int .i64 C, .slice a N m] 26) = W at K0 B0 ⊢
  obtain ⟨p0, p1, p2, -, -, -⟩ := K0.out.all
  go_wp2_with fail
  refine (RW.out i _ hi).mono ?_
  rintro e w1 ⟨q', m', rfl, -, hq', -, hb⟩
  have K := Lib.hid (K0.out.step hb)
  have B := Lib.hid (B0.out.trans (hb.mono B0.out.size))
  obtain ⟨g, o, hag, hcell⟩ := CX.out i w1 hi B.out
  obtain rfl := hq' g o hag (by omega)
  clear hb hq' hag p0 p1 p2 K0 B0
  obtain ⟨j1, j2⟩ := cj.out
  obtain ⟨p, hp⟩ : ∃ p, f i = p := ⟨_, rfl⟩
  have HB : Hid (b = true ↔ 0 < p ∧ ∀ s, s < i → 0 ≤ f s ∧ f s < p) := by rw [← hp]; exact HB
  rw [hp] at hcell
  clear hp
  obtain ⟨q0, q1, q2, -, -, -⟩ := K.out.all
  go_wp2_with fail
  clear hcell q0 q1 q2
  go_loopw [6, 8, 9, 17] (fun _ _ _ v17 wr => ∃ k : Nat, v17 = .int .i64 k ∧ k ≤ i ∧ (∀ s, s < k → 0 ≤ f s ∧ f s < p) ∧ Blk3 wr w.heap.size 26 (.int .i64 R) (.int .i64 C) (.slice a N m) ∧ Below w.heap.size w wr) (fun _ _ _ v17 _ => i - (intOf v17).toNat)
  case atStart => exact ⟨0, rfl, by omega, fun s h => by omega, K.out, B.out⟩
  case round =>
    clear K B
    obtain ⟨k, rfl, hk, hz, hK, hB⟩ := hrel
    have K := Lib.hid hK
    have B := Lib.hid hB
    have Z := Lib.hid hz
    clear hK hB hz
    obtain ⟨p0, p1, p2, -, -, -⟩ := K.out.all
    by_cases hki : k < i
    · go_wp2_with fail
      refine (RW.out k _ (by omega)).mono ?_
      rintro e w3 ⟨q', m', rfl, -, hq', -, hb⟩
      have K := Lib.hid (K.out.step hb)
      have B := Lib.hid (B.out.trans (hb.mono B.out.size))
      obtain ⟨g, o, hag, hcell⟩ := CX.out k w3 (by omega) B.out
      obtain rfl := hq' g o hag (by omega)
      clear hb hq' hag p0 p1 p2
      obtain ⟨x, hx⟩ : ∃ x, f k = x := ⟨_, rfl⟩
      rw [hx] at hcell
      have EX := Lib.hid hx
      clear hx
      by_cases h0 : x < 0
      · have b1 : decide (x < 0) = true := decide_eq_true h0
        have FB : Hid (b = false) := by
          show b = false
          cases hbb : b with
          | false => rfl
          | true =>
            have := ((HB.out.mp hbb).2 k hki).1
            rw [EX.out] at this
            omega
        clear h0
        go_wp2_with fail
        go_ret
        exact ⟨by rw [FB.out]; rfl, B.out⟩
      · have b1 : decide (x < 0) = false := decide_eq_false h0
        by_cases h1 : p ≤ x
        · have b2 : decide (p ≤ x) = true := decide_eq_true h1
          have FB : Hid (b = false) := by
            show b = false
            cases hbb : b with
            | false => rfl
            | true =>
              have := ((HB.out.mp hbb).2 k hki).2
              rw [EX.out] at this
              omega
          clear h0 h1
          go_wp2_with fail
          go_ret
          exact ⟨by rw [FB.out]; rfl, B.out⟩
        · have b2 : decide (p ≤ x) = false := decide_eq_false h1
          have Z1 : Hid (∀ s, s < k + 1 → 0 ≤ f s ∧ f s < p) := fun s hs => by
            rcases Nat.lt_or_ge s k with h2 | h2
            · exact Z.out s h2
            · obtain rfl : s = k := by omega
              rw [EX.out]; omega
          clear h0 h1
          go_wp2_with fail
          go_roundw
          case rel => exact ⟨k + 1, by go_num, by omega, Z1.out, K.out, B.out⟩
          case measure => simp [intOf]; omega
    · obtain rfl : k = i := by omega
      by_cases h0 : 0 < p
      · have b1 : decide (0 < p) = true := decide_eq_true h0
        have TB : Hid (b = true) := HB.out.mpr ⟨h0, Z.out⟩
        clear h0 hki
        go_wp2_with fail
        go_ret
        exact ⟨by rw [TB.out]; rfl, B.out⟩
      · have b1 : decide (0 < p) = false := decide_eq_false h0
        have FB : Hid (b = false) := by
          show b = false
          cases hbb : b with
          | false => rfl
          | true => exact absurd (HB.out.mp hbb).1 h0
        clear h0 hki
        go_wp2_with fail
        go_ret
        exact ⟨by rw [FB.out]; rfl, B.out⟩
/-- What the rounds of the check keep. -/
structure HrSt (w : World) (r c : Nat) (a : Option Addr) (N m : Nat) (xs : List Int) (wr : World) : Prop where
  blk : Blk3 wr w.heap.size 26 (.int .i64 r) (.int .i64 c) (.slice a N m)
  rd : Rd wr a xs
  bel : Below w.heap.size w wr
theorem HrSt.step {w wr w' : World} {r c N m : Nat} {a : Option Addr} {xs : List Int} (h : HrSt w r c a N m xs wr) (hb : Below wr.heap.size wr w') : HrSt w r c a N m xs w' :=
  ⟨h.blk.keep hb h.blk.lt, h.rd.below hb, h.bel.trans (hb.mono h.bel.size)⟩
set_option maxHeartbeats 2000000 in
theorem iIsHer_t (r c N : Nat) (a : Option Addr) (m : Nat) (xs : List Int) (w : World) (h : Rd w a xs) (ha : Spot a) (ham : N ≤ m) (haz : a = none → m = 0) (hx : xs.length = N) (hN : N = r * c) (hr : r ≤ 24) (hc : c ≤ 24) (hm : isMat r c xs = true) (PB : Bool) (hPB : HmD c xs r 0 (-1) ↔ PB = true) :
    Calls Try.prog 24 #[.agg #[.int .i64 r, .int .i64 c, .slice a N m]] w (Gives (.bool PB) w) := by
  have hle : r * c ≤ 24 * 24 := Nat.mul_le_mul hr hc
  rw [← hN] at hle
  have hl : xs.length = r * c := by rw [hx, hN]
  have IM : Hid (∀ w', Rd w' a xs → Calls Try.prog 36 #[.agg #[.int .i64 r, .int .i64 c, .slice a N m]] w' (Gives (.bool true) w')) := fun w' h' => by
    have := iIsMat r c a m xs w' h' (by omega)
    rw [hx, hm] at this
    exact this
  have RW : Hid (∀ i w', i < r → Calls Try.prog 39 #[.agg #[.int .i64 r, .int .i64 c, .slice a N m], .int .i64 i] w' (RowAt a (i * c) c w')) := fun i w' hi => iRowIn r c i (i * c) N m a w' ha rfl (by rw [hN, ← Nat.succ_mul]; exact Nat.mul_le_mul_right _ hi) ham haz (by omega) (by omega)
  have RD : Hid (∀ i w' q', i < r → Rd w' a xs → (∀ g o : Nat, a = some ⟨g, o, none⟩ → 0 < c → q' = some ⟨g, o + i * c, none⟩) → Rd w' q' (rwL c (mxC c xs i))) := fun i w' q' hi h' hq => h'.row hl hi hq
  have IP : Hid (∀ i l w' b, i < r → l < c → Rd w' a xs → (b = true ↔ pvOk c xs i l) → Calls Try.prog 61 #[.agg #[.int .i64 r, .int .i64 c, .slice a N m], .int .i64 i, .int .i64 l] w' (Gives (.bool b) w')) := fun i l w' b hi hl' h' hb => iIsPivot r c N i l a m xs w' h' ha ham haz hx hN hr hc hi hl' b hb
  have ST : Hid (HrSt w r c a N m xs (w.alloc (.cells #[.int .i64 r, .int .i64 c, .slice a N m] 26))) := ⟨Blk3.at_ _ _ _ _ rfl, h.below ((Below.refl _ _).alloc (Nat.le_refl _) _), (Below.refl _ _).alloc (Nat.le_refl _) _⟩
  have HB := Lib.hid hPB
  clear hN hx hm h hPB hl ha ham haz
  go_enter Try.func24, Try.ntmps24
  go_wp2_with fail
  generalize w.alloc (.cells #[.int .i64 r, .int .i64 c, .slice a N m] 26) = W at ST ⊢
  obtain ⟨p0, p1, p2, -, -, -⟩ := ST.out.blk.all
  go_wp2_with fail
  refine (IM.out _ ST.out.rd).mono ?_
  rintro e w1 ⟨rfl, hb⟩
  have ST := Lib.hid (ST.out.step hb)
  clear hb p0 p1 p2
  obtain ⟨p0, p1, p2, -, -, -⟩ := ST.out.blk.all
  go_wp2_with fail
  clear p0 p1 p2
  go_loopw [2, 3, 4, 5, 11] (fun _ v3 _ _ v11 wr => ∃ (i k : Nat) (last : Int), v11 = .int .i64 i ∧ v3 = .int .i64 last ∧ i + k = r ∧ (-1 ≤ last ∧ last ≤ c) ∧ (HmD c xs k i last ↔ PB = true) ∧ HrSt w r c a N m xs wr) (fun _ _ _ _ v11 _ => r - (intOf v11).toNat)
  case atStart => exact ⟨0, r, -1, rfl, rfl, by omega, ⟨by omega, by omega⟩, HB.out, ST.out⟩
  case round =>
    clear ST HB
    obtain ⟨i, k, last, rfl, rfl, hik, ⟨la1, la2⟩, hB, hst⟩ := hrel
    have ST := Lib.hid hst
    have HB := Lib.hid hB
    clear hst hB
    obtain ⟨p0, p1, p2, -, -, -⟩ := ST.out.blk.all
    by_cases hir : i < r
    · obtain ⟨k, rfl⟩ : ∃ k', k = k' + 1 := ⟨k - 1, by omega⟩
      go_wp2_with fail
      refine (RW.out i _ hir).mono ?_
      rintro e w2 ⟨q', m', rfl, -, hq', -, hb⟩
      have ST := Lib.hid (ST.out.step hb)
      have R2 := Lib.hid (RD.out i _ q' hir ST.out.rd hq')
      clear hb hq' p0 p1 p2
      obtain ⟨p0, p1, p2, -, -, -⟩ := ST.out.blk.all
      have LD : Hid (Calls Try.prog 52 #[.slice q' c m'] w2 (fun e w' => e = .returned (.int .i64 (leadC c (mxC c xs i) : Int)) ∧ w' = w2)) := iLead c m' q' _ w2 R2.out hc
      obtain ⟨l1, -, -⟩ := leadC_says c (mxC c xs i)
      have HS : Hid (HmD c xs (k + 1) i last ↔ (¬ (leadC c (mxC c xs i) < c ∧ ((leadC c (mxC c xs i) : Int) ≤ last ∨ ¬ pvOk c xs i (leadC c (mxC c xs i)))) ∧ HmD c xs k (i + 1) (leadC c (mxC c xs i)))) := HmD_step
      have H2 : Hid (leadC c (mxC c xs i) < c → (leadC c (mxC c xs i) : Int) ≤ last → PB = false) := fun h h2 => by
        cases hp : PB with
        | false => rfl
        | true => exact absurd ⟨h, .inl h2⟩ (HS.out.mp (HB.out.mpr hp)).1
      have H3 : Hid (leadC c (mxC c xs i) < c → ¬ pvOk c xs i (leadC c (mxC c xs i)) → PB = false) := fun h h2 => by
        cases hp : PB with
        | false => rfl
        | true => exact absurd ⟨h, .inr h2⟩ (HS.out.mp (HB.out.mpr hp)).1
      have H4 : Hid ((leadC c (mxC c xs i) < c → ¬ (leadC c (mxC c xs i) : Int) ≤ last ∧ pvOk c xs i (leadC c (mxC c xs i))) → (HmD c xs k (i + 1) (leadC c (mxC c xs i)) ↔ PB = true)) := fun h2 => by
        rw [← HB.out, HS.out]
        refine ⟨fun h3 => ⟨?_, h3⟩, fun h3 => h3.2⟩
        rintro ⟨h5, h6 | h6⟩
        · exact (h2 h5).1 h6
        · exact h6 (h2 h5).2
      have IA : Hid (∀ w' b, leadC c (mxC c xs i) < c → Rd w' a xs → (b = true ↔ pvOk c xs i (leadC c (mxC c xs i))) → Calls Try.prog 61 #[.agg #[.int .i64 r, .int .i64 c, .slice a N m], .int .i64 i, .int .i64 (leadC c (mxC c xs i) : Int)] w' (Gives (.bool b) w')) := fun w' b hl' h' hb => IP.out i _ w' b hir hl' h' hb
      obtain ⟨P, hP⟩ : ∃ P : Nat → Prop, pvOk c xs i = P := ⟨_, rfl⟩
      rw [hP] at H3 H4 IA
      generalize leadC c (mxC c xs i) = l at LD l1 H2 H3 H4 IA
      clear R2 HB HS hP
      go_wp2_with fail
      refine LD.out.mono ?_
      rintro e w3 ⟨rfl, rfl⟩
      clear LD
      by_cases hlc : l < c
      · have n3 : decide ((l : Int) < (c : Int)) = true := decide_eq_true (by omega)
        by_cases hla : (l : Int) ≤ last
        · have n4 : decide ((l : Int) ≤ last) = true := decide_eq_true hla
          have F := Lib.hid (H2.out hlc hla)
          clear hla
          go_wp2_with fail
          go_ret
          exact ⟨by rw [F.out]; rfl, ST.out.bel⟩
        · have n4 : decide ((l : Int) ≤ last) = false := decide_eq_false hla
          by_cases hal : P l
          · have AT : Hid (∀ w', Rd w' a xs → Calls Try.prog 61 #[.agg #[.int .i64 r, .int .i64 c, .slice a N m], .int .i64 i, .int .i64 l] w' (Gives (.bool true) w')) := fun w' h' => IA.out w' true hlc h' ⟨fun _ => hal, fun _ => rfl⟩
            have HE := Lib.hid (H4.out (fun _ => ⟨by omega, hal⟩))
            clear hla hal
            go_wp2_with fail
            refine (AT.out _ ST.out.rd).mono ?_
            rintro e w5 ⟨rfl, hb⟩
            have ST := Lib.hid (ST.out.step hb)
            clear hb p0 p1 p2
            go_wp2_with fail
            go_roundw
            case rel => exact ⟨i + 1, k, l, by go_num, rfl, by omega, ⟨by omega, by omega⟩, HE.out, ST.out⟩
            case measure => simp [intOf]; omega
          · have AF : Hid (∀ w', Rd w' a xs → Calls Try.prog 61 #[.agg #[.int .i64 r, .int .i64 c, .slice a N m], .int .i64 i, .int .i64 l] w' (Gives (.bool false) w')) := fun w' h' => IA.out w' false hlc h' ⟨fun h => (by cases h), fun h => absurd h hal⟩
            have F := Lib.hid (H3.out hlc hal)
            clear hla hal
            go_wp2_with fail
            refine (AF.out _ ST.out.rd).mono ?_
            rintro e w5 ⟨rfl, hb⟩
            have ST := Lib.hid (ST.out.step hb)
            clear hb p0 p1 p2
            go_wp2_with fail
            go_ret
            exact ⟨by rw [F.out]; rfl, ST.out.bel⟩
      · have n3 : decide ((l : Int) < (c : Int)) = false := decide_eq_false (by omega)
        have HE := Lib.hid (H4.out (fun h => absurd h hlc))
        go_wp2_with fail
        go_roundw
        case rel => exact ⟨i + 1, k, l, by go_num, rfl, by omega, ⟨by omega, by omega⟩, HE.out, ST.out⟩
        case measure => simp [intOf]; omega
    · obtain rfl : k = 0 := by omega
      have T : Hid (PB = true) := HB.out.mp trivial
      clear hir
      go_wp2_with fail
      go_ret
      exact ⟨by rw [T.out]; rfl, ST.out.bel⟩
theorem iIsHer_f (r c : Int) (a : Option Addr) (m : Nat) (xs : List Int) (w : World) (h : Rd w a xs) (hn : xs.length ≤ 16777216) (hm : isMat r c xs = false) :
    Calls Try.prog 24 #[.agg #[.int .i64 r, .int .i64 c, .slice a xs.length m]] w (Gives (.bool false) w) := by
  have IM : Hid (∀ w', Rd w' a xs → Calls Try.prog 36 #[.agg #[.int .i64 r, .int .i64 c, .slice a xs.length m]] w' (Gives (.bool false) w')) := fun w' h' => by
    have := iIsMat r c a m xs w' h' hn
    rw [hm] at this
    exact this
  clear hm hn
  generalize xs.length = L at IM ⊢
  have K : Hid (Blk3 (w.alloc (.cells #[.int .i64 r, .int .i64 c, .slice a L m] 26)) w.heap.size 26 (.int .i64 r) (.int .i64 c) (.slice a L m)) := Blk3.at_ _ _ _ _ rfl
  have RX := Lib.hid (h.below ((Below.refl _ _).alloc (Nat.le_refl _) (.cells #[.int .i64 r, .int .i64 c, .slice a L m] 26)))
  have BX : Hid (Below w.heap.size w (w.alloc (.cells #[.int .i64 r, .int .i64 c, .slice a L m] 26))) := (Below.refl _ _).alloc (Nat.le_refl _) _
  clear h
  go_enter Try.func24, Try.ntmps24
  go_wp2_with fail
  generalize w.alloc (.cells #[.int .i64 r, .int .i64 c, .slice a L m] 26) = W at K RX BX ⊢
  obtain ⟨p0, p1, p2, -, -, -⟩ := K.out.all
  go_wp2_with fail
  refine (IM.out _ RX.out).mono ?_
  rintro e w0 ⟨rfl, hb⟩
  have B2 := Lib.hid (BX.out.trans (hb.mono BX.out.size))
  clear hb p0 p1 p2
  go_wp2_with fail
  exact bodyPost_ret (v := .bool false) (by simp [results, Try.results24, go_sem]) rfl ⟨rfl, B2.out⟩
theorem iIsHermite (r c : Int) (a : Option Addr) (m : Nat) (xs : List Int) (w : World) (h : Rd w a xs) (hn : xs.length ≤ 16777216) (ha : Spot a) (ham : xs.length ≤ m) (haz : a = none → m = 0) :
    Calls Try.prog 24 #[.agg #[.int .i64 r, .int .i64 c, .slice a xs.length m]] w (Gives (.bool (herIs r c xs)) w) := by
  rcases Bool.eq_false_or_eq_true (isMat r c xs) with hm | hm
  · obtain ⟨⟨r0, r1⟩, ⟨c0, c1⟩, hl, nx⟩ := isMat_says hm
    obtain ⟨R, rfl⟩ := Int.eq_ofNat_of_zero_le r0
    obtain ⟨C, rfl⟩ := Int.eq_ofNat_of_zero_le c0
    have hx : xs.length = R * C := by rw [← Int.natCast_mul] at hl; omega
    exact iIsHer_t R C xs.length a m xs w h ha ham haz rfl hx (by omega) (by omega) hm _ (HmD_iff hm)
  · rw [herIs_no hm]
    exact iIsHer_f r c a m xs w h hn hm
end Go.Proofs.Ytpknondccajinaa
end
