/-
  Texts of this seat, joined: HmB · HmI · HmR · ApC · HmZ · AcL · AcP · PmI · PvR
-/
import Derived.StillTailTactics
import Derived.Test.YtpelnfenfeoeeaaPk2
import Derived.Test.YtpelnfenfeoeeaaPk4
import Derived.Test.YtpelnfenfeoeeaaPk5
import Derived.Test.YtpelnfenfeoeeaaPk6
import Derived.Test.YtpelnfenfeoeeaaPk8
import Derived.Test.YtpelnfenfeoeeaaPk10

section
/-
  Plain mathematics of chapter 12: telling a Hermite form. Nothing of a program is used.
-/
namespace Go.Proofs.Ytpelnfenfeoeeaa

/-- What is wrong with row i behind a row whose pivot is in column last. -/
def hrBad (c : Nat) (xs : List Int) (i : Nat) (last : Int) : Prop := leadC c (mxC c xs i) < c ∧ (last = c ∨ (leadC c (mxC c xs i) : Int) ≤ last ∨ mxC c xs i (leadC c (mxC c xs i)) < 0)
def hcBad (r c : Nat) (xs : List Int) (i : Nat) : Prop := leadC c (mxC c xs i) < c ∧ ∃ k, k < r ∧ ((k < i ∧ ¬ (0 ≤ mxC c xs k (leadC c (mxC c xs i)) ∧ mxC c xs k (leadC c (mxC c xs i)) ≤ mxC c xs i (leadC c (mxC c xs i)) - 1)) ∨ (i < k ∧ mxC c xs k (leadC c (mxC c xs i)) ≠ 0))
/-- k rows from row i on are those of a Hermite form. -/
def HmB (r c : Nat) (xs : List Int) : Nat → Nat → Int → Prop
  | 0, _, _ => True
  | k + 1, i, last => ¬ hrBad c xs i last ∧ ¬ hcBad r c xs i ∧ HmB r c xs k (i + 1) (leadC c (mxC c xs i))
theorem HmB_step {r c k i : Nat} {xs : List Int} {last : Int} : HmB r c xs (k + 1) i last ↔ (¬ hrBad c xs i last ∧ ¬ hcBad r c xs i ∧ HmB r c xs k (i + 1) (leadC c (mxC c xs i))) := Iff.rfl
theorem HerP.lead_at {r c t : Nat} {xs : List Int} {p : Nat → Nat} (h : HerP r c (mxC c xs) p t) {i : Nat} (hi : i < t) : leadC c (mxC c xs i) = p i :=
  leadF_eq (Nat.zero_le _) (by have := h.col i hi; omega) (fun j _ hj => h.left i j hi hj) (fun _ => by have := h.pos i hi; omega)
theorem HerP.lead_no {r c t : Nat} {xs : List Int} {p : Nat → Nat} (h : HerP r c (mxC c xs) p t) {i : Nat} (hi : t ≤ i) (hir : i < r) : leadC c (mxC c xs i) = c :=
  leadF_eq (Nat.zero_le _) (by omega) (fun j _ hj => h.rest i j hi hir hj) (fun h => by omega)
/-- A Hermite form is told to be one. -/
theorem HerP.hmB {r c t : Nat} {xs : List Int} {p : Nat → Nat} (h : HerP r c (mxC c xs) p t) : ∀ (k i : Nat) (last : Int), i + k = r → (i < t → last < p i ∧ last ≠ c) → HmB r c xs k i last := by
  intro k
  induction k with
  | zero => intro i last _ _; trivial
  | succ k ih =>
    intro i last hik hl
    have hir : i < r := by omega
    rcases Nat.lt_or_ge i t with hit | hit
    · obtain ⟨h1, h2⟩ := hl hit
      have e := h.lead_at hit
      have hc := h.col i hit
      have hp := h.pos i hit
      refine ⟨?_, ?_, ?_⟩
      · rintro ⟨-, hb⟩
        rw [e] at hb
        rcases hb with h3 | h3 | h3
        · exact h2 h3
        · omega
        · omega
      · rintro ⟨-, k', h3, h4⟩
        rw [e] at h4
        rcases h4 with ⟨h5, h6⟩ | ⟨h5, h6⟩
        · have := h.above i k' hit h5
          exact h6 ⟨this.1, by omega⟩
        · rcases Nat.lt_or_ge k' t with h7 | h7
          · exact h6 (h.left k' (p i) h7 (h.inc i k' h5 h7))
          · exact h6 (h.rest k' (p i) h7 h3 hc)
      · rw [e]
        refine ih (i + 1) _ (by omega) fun h3 => ?_
        have := h.inc i (i + 1) (by omega) h3
        omega
    · have e := h.lead_no hit hir
      refine ⟨fun hb => ?_, fun hb => ?_, ih (i + 1) _ (by omega) fun h3 => by omega⟩
      · have := hb.1; omega
      · have := hb.1; omega
/-- What is told to be a Hermite form is one. -/
theorem HmB.rows {r c : Nat} {xs : List Int} : ∀ (k i : Nat) (last : Int), i + k = r → HmB r c xs k i last →
    (last = c → ∀ q, i ≤ q → q < r → leadC c (mxC c xs q) = c) ∧ (∀ q, i ≤ q → q < r → leadC c (mxC c xs q) < c → last < leadC c (mxC c xs q) ∧ 0 < mxC c xs q (leadC c (mxC c xs q)) ∧ ∀ s, s < q → 0 ≤ mxC c xs s (leadC c (mxC c xs q)) ∧ mxC c xs s (leadC c (mxC c xs q)) < mxC c xs q (leadC c (mxC c xs q))) ∧ ∀ q s, i ≤ q → q < s → s < r → leadC c (mxC c xs s) < c → leadC c (mxC c xs q) < leadC c (mxC c xs s) := by
  intro k
  induction k with
  | zero => intro i last hik _; exact ⟨fun _ q h1 h2 => by omega, fun q h1 h2 => by omega, fun q s h1 h2 h3 => by omega⟩
  | succ k ih =>
    intro i last hik ⟨hrow, hcol, hrest⟩
    obtain ⟨g1, g2, g3⟩ := ih (i + 1) _ (by omega) hrest
    obtain ⟨l1, l2, l3⟩ := leadC_says c (mxC c xs i)
    have own : leadC c (mxC c xs i) < c → last ≠ c ∧ last < leadC c (mxC c xs i) ∧ 0 < mxC c xs i (leadC c (mxC c xs i)) ∧ ∀ s, s < i → 0 ≤ mxC c xs s (leadC c (mxC c xs i)) ∧ mxC c xs s (leadC c (mxC c xs i)) < mxC c xs i (leadC c (mxC c xs i)) := fun h => by
      have h0 := l3 h
      refine ⟨fun e => hrow ⟨h, .inl e⟩, Int.not_le.mp fun e => hrow ⟨h, .inr (.inl e)⟩, ?_, fun s hs => ?_⟩
      · have : ¬ mxC c xs i (leadC c (mxC c xs i)) < 0 := fun e => hrow ⟨h, .inr (.inr e)⟩
        omega
      · have : 0 ≤ mxC c xs s (leadC c (mxC c xs i)) ∧ mxC c xs s (leadC c (mxC c xs i)) ≤ mxC c xs i (leadC c (mxC c xs i)) - 1 := Classical.byContradiction fun e => hcol ⟨h, s, by omega, .inl ⟨hs, e⟩⟩
        exact ⟨this.1, by omega⟩
    refine ⟨fun e q h1 h2 => ?_, fun q h1 h2 h3 => ?_, fun q s h1 h2 h3 h4 => ?_⟩
    · have hi : leadC c (mxC c xs i) = c := by
        rcases Nat.lt_or_ge (leadC c (mxC c xs i)) c with h4 | h4
        · exact absurd e (own h4).1
        · omega
      rcases Nat.lt_or_ge i q with h4 | h4
      · exact g1 (by rw [hi]) q h4 h2
      · obtain rfl : q = i := by omega
        exact hi
    · rcases Nat.lt_or_ge i q with h4 | h4
      · obtain ⟨h5, h6, h7⟩ := g2 q h4 h2 h3
        have h8 : leadC c (mxC c xs i) < c := by omega
        have := (own h8).2.1
        exact ⟨by omega, h6, h7⟩
      · obtain rfl : q = i := by omega
        exact (own h3).2
    · rcases Nat.lt_or_ge i q with h5 | h5
      · exact g3 q s h5 h2 h3 h4
      · obtain rfl : q = i := by omega
        have := (g2 s h2 h3 h4).1
        omega
theorem HmB_iff {r c : Nat} {xs : List Int} : HmB r c xs r 0 (-1) ↔ ∃ q t, HerP r c (mxC c xs) q t := by
  constructor
  · intro h
    obtain ⟨-, g2, g3⟩ := HmB.rows r 0 (-1) (by omega) h
    obtain ⟨-, t2, t3, t4⟩ := topN_says (c := c) (xs := xs) (k := r) (i := 0)
    refine ⟨fun i => leadC c (mxC c xs i), topN c xs r 0, by omega, fun k hk => t3 k (Nat.zero_le _) hk, fun k l h1 h2 => g3 k l (Nat.zero_le _) h1 (by omega) (t3 l (Nat.zero_le _) h2), fun k hk => (g2 k (Nat.zero_le _) (by omega) (t3 k (Nat.zero_le _) hk)).2.1, fun k j _ hj => (leadC_says c (mxC c xs k)).2.1 j hj, fun i j h1 h2 h3 => ?_, fun k i hk hi => (g2 k (Nat.zero_le _) (by omega) (t3 k (Nat.zero_le _) hk)).2.2 i hi⟩
    have hT : topN c xs r 0 < r := by omega
    have h0 := t4 (by omega)
    have hi : ¬ leadC c (mxC c xs i) < c := fun h4 => by
      rcases Nat.lt_or_ge (topN c xs r 0) i with h5 | h5
      · have := g3 (topN c xs r 0) i (Nat.zero_le _) h5 h2 h4
        omega
      · have e : i = topN c xs r 0 := by omega
        rw [e] at h4
        exact h0 h4
    have := (leadC_says c (mxC c xs i)).1
    exact (leadC_says c (mxC c xs i)).2.1 j (by omega)
  · rintro ⟨q, t, h⟩
    exact h.hmB r 0 (-1) (by omega) fun h1 => ⟨by omega, by omega⟩
open Classical in
/-- What IsHermite answers. -/
noncomputable def herIs (r c : Int) (xs : List Int) : Bool := isMat r c xs && decide (∃ q t, HerP r.toNat c.toNat (mxC c.toNat xs) q t)
theorem herIs_no {r c : Int} {xs : List Int} (h : isMat r c xs = false) : herIs r c xs = false := by unfold herIs; rw [h]; rfl
open Classical in
theorem herIs_iff {r c : Nat} {xs : List Int} (h : isMat r c xs = true) : HmB r c xs r 0 (-1) ↔ herIs r c xs = true := by
  unfold herIs
  rw [h, Bool.true_and]
  simp only [decide_eq_true_eq]
  exact HmB_iff
end Go.Proofs.Ytpelnfenfeoeeaa
end

section
/-
  Chapter 12, in the model: IsHermite.
-/
namespace Go.Proofs.Ytpelnfenfeoeeaa
set_option maxRecDepth 100000
open Go.RowKit

set_option maxHeartbeats 4000000 in
theorem sIsHer_t (r c N : Nat) (a : Option Addr) (m : Nat) (xs : List Int) (w : World) (h : Rd w a xs) (hx : xs.length = N) (hN : N = r * c) (hr : r ≤ 24) (hc : c ≤ 24) (nx : nums xs = true) (hm : isMat r c xs = true) (PB : Bool) (hPB : HmB r c xs r 0 (-1) ↔ PB = true) :
    Calls Try.prog 42 #[.agg #[.int .i64 r, .int .i64 c, .slice a N m]] w (Gives (.bool PB) w) := by
  have hle : r * c ≤ 24 * 24 := Nat.mul_le_mul hr hc
  rw [← hN] at hle
  have IM : Hid (∀ w', Rd w' a xs → Calls Try.prog 53 #[.agg #[.int .i64 r, .int .i64 c, .slice a N m]] w' (Gives (.bool true) w')) := fun w' h' => by
    have := sIsMat r c a m xs w' h' (by omega)
    rw [hx, hm] at this
    exact this
  have CE : Hid (∀ i j w', i < r → j < c → Rd w' a xs → Calls Try.prog 63 #[.agg #[.int .i64 r, .int .i64 c, .slice a N m], .int .i64 i, .int .i64 j] w' (Gives (.int .i64 (mxC c xs i j)) w')) := fun i j w' hi hj h' => sCel r c a N m i j xs w' h' hx hN hr hc hi hj
  have VN : Hid (∀ i j, i < r → j < c → NumP (mxC c xs i j)) := fun i j hi hj => mx_nums (by rw [hx, hN]) nx hi hj
  have ST : Hid (IsSt w r c a N m xs (w.alloc (.cells #[.int .i64 r, .int .i64 c, .slice a N m] 26))) := ⟨Blk3.at_ _ _ _ _ rfl, h.below ((Below.refl _ _).alloc (Nat.le_refl _) _), (Below.refl _ _).alloc (Nat.le_refl _) _⟩
  have HB := Lib.hid hPB
  clear hN hx nx hm h hPB
  go_enter Try.func42, Try.ntmps42
  go_wp2_with fail
  generalize w.alloc (.cells #[.int .i64 r, .int .i64 c, .slice a N m] 26) = W at ST ⊢
  go_loopw [2, 3, 4, 5, 6, 7] (fun _ v3 v4 _ _ _ wr => ∃ (i k : Nat) (last : Int), v3 = .int .i64 last ∧ v4 = .int .i64 i ∧ i + k = r ∧ (HmB r c xs k i last ↔ PB = true) ∧ IsSt w r c a N m xs wr) (fun _ _ v4 _ _ _ _ => r - (intOf v4).toNat)
  case atStart => exact ⟨0, r, -1, rfl, rfl, by omega, HB.out, ST.out⟩
  case round =>
    clear ST HB
    obtain ⟨i, k, last, rfl, rfl, hik, hB, hst⟩ := hrel
    have ST := Lib.hid hst
    have HB := Lib.hid hB
    clear hst hB
    obtain ⟨p0, p1, p2, -, -, -⟩ := ST.out.blk.all
    by_cases hir : i < r
    rotate_left
    · obtain rfl : k = 0 := by omega
      have PY : Hid (PB = true) := HB.out.mp trivial
      have IM1 := Lib.hid (IM.out _ ST.out.rd)
      go_wp2_with fail
      refine IM1.out.mono ?_
      rintro e w1 ⟨rfl, hb⟩
      have B1 := Lib.hid (ST.out.bel.trans (hb.mono ST.out.bel.size))
      clear hb
      go_wp2_with fail
      exact bodyPost_ret (v := .bool true) (by simp [results, Try.results42, go_sem]) rfl ⟨by rw [PY.out], B1.out⟩
    obtain ⟨k, rfl⟩ : ∃ k', k = k' + 1 := ⟨k - 1, by omega⟩
    have HB := Lib.hid (HmB_step.symm.trans HB.out)
    go_wp2_with fail
    refine (IM.out _ ST.out.rd).mono ?_
    rintro e w1 ⟨rfl, hb⟩
    have ST := Lib.hid (ST.out.step hb)
    clear hb p0 p1 p2
    obtain ⟨p0, p1, p2, -, -, -⟩ := ST.out.blk.all
    go_wp2_with fail
    clear p0 p1 p2
    go_loopw [5] (fun v5 wq => ∃ p : Nat, v5 = .int .i64 p ∧ p ≤ c ∧ (∀ q, q < p → mxC c xs i q = 0) ∧ IsSt w r c a N m xs wq) (fun v5 _ => c - (intOf v5).toNat)
    case atStart => exact ⟨0, rfl, by omega, fun q hq => by omega, ST.out⟩
    case round =>
      clear ST
      obtain ⟨p, rfl, hp, hz, hst⟩ := hrel
      have ST := Lib.hid hst
      have HZ := Lib.hid hz
      clear hst hz
      obtain ⟨p0, p1, p2, -, -, -⟩ := ST.out.blk.all
      by_cases hpc : p < c
      rotate_left
      · obtain rfl : c = p := by omega
        have LC : Hid (leadC c (mxC c xs i) = c) := leadF_eq (Nat.zero_le _) (by omega) (fun q _ hq => HZ.out q hq) (fun h1 => by omega)
        have HN2 : Hid (HmB r c xs k (i + 1) (c : Int) ↔ PB = true) := by
          have h := HB.out
          rw [LC.out] at h
          exact ⟨fun h1 => h.mp ⟨fun hh => by have := hh.1; rw [LC.out] at this; omega, fun hh => by have := hh.1; rw [LC.out] at this; omega, h1⟩, fun e => (h.mpr e).2.2⟩
        clear LC HZ HB
        go_wp2_with fail
        clear p0 p1 p2
        go_loopw [2, 6, 7] (fun _ v6 _ wk => v6 = .int .i64 0 ∧ IsSt w r c a N m xs wk) (fun _ _ _ _ => 0)
        case atStart => exact ⟨rfl, ST.out⟩
        case round =>
          clear ST
          obtain ⟨rfl, hst⟩ := hrel
          have ST := Lib.hid hst
          clear hst
          obtain ⟨p0, p1, p2, -, -, -⟩ := ST.out.blk.all
          have r1 : (0 : Int) < (r : Int) := by omega
          go_wp2_with fail
          go_roundw
          case rel => exact ⟨i + 1, k, (c : Int), rfl, by go_num, by omega, HN2.out, ST.out⟩
          case measure => simp [intOf]; omega
      have CX := Lib.hid (CE.out i p _ hir hpc ST.out.rd)
      have nX := VN.out i p hir hpc
      obtain ⟨x, hx⟩ : ∃ x, mxC c xs i p = x := ⟨_, rfl⟩
      have X := Lib.hid hx
      rw [hx] at CX nX
      clear hx
      go_wp2_with fail
      refine CX.out.mono ?_
      rintro e w2 ⟨rfl, hb⟩
      have ST := Lib.hid (ST.out.step hb)
      clear hb CX p0 p1 p2
      by_cases hx0 : x = 0
      · have HZ2 : Hid (∀ q, q < p + 1 → mxC c xs i q = 0) := fun q hq => by
          rcases Nat.lt_or_ge q p with h3 | h3
          · exact HZ.out q h3
          · obtain rfl : q = p := by omega
            rw [X.out]; exact hx0
        have n1 : (x == 0) = true := by simpa using hx0
        clear hx0
        go_wp2_with fail
        go_roundw
        case rel => exact ⟨p + 1, by go_num, by omega, HZ2.out, ST.out⟩
        case measure => simp [intOf]; omega
      have n1 : (x == 0) = false := by simpa using hx0
      have LC : Hid (leadC c (mxC c xs i) = p) := leadF_eq (Nat.zero_le _) (by omega) (fun q _ hq => HZ.out q hq) (fun _ e => hx0 (by rw [← X.out]; exact e))
      clear hx0 HZ
      obtain ⟨p0, p1, p2, -, -, -⟩ := ST.out.blk.all
      by_cases h1 : last = (c : Int)
      · have m1 : (last == (c : Int)) = true := by simp [h1]
        have PN : Hid (PB = false) := Bool.eq_false_iff.mpr (fun e => (HB.out.mpr e).1 ⟨by rw [LC.out]; exact hpc, .inl h1⟩)
        clear h1
        go_wp2_with fail
        exact bodyPost_ret (v := .bool false) (by simp [results, Try.results42, go_sem]) rfl ⟨by rw [PN.out], ST.out.bel⟩
      have m1 : (last == (c : Int)) = false := by simpa using h1
      by_cases h2 : (p : Int) ≤ last
      · have m2 : decide ((p : Int) ≤ last) = true := by simpa using h2
        have PN : Hid (PB = false) := Bool.eq_false_iff.mpr (fun e => (HB.out.mpr e).1 ⟨by rw [LC.out]; exact hpc, .inr (.inl (by rw [LC.out]; exact h2))⟩)
        clear h1
        go_wp2_with fail
        exact bodyPost_ret (v := .bool false) (by simp [results, Try.results42, go_sem]) rfl ⟨by rw [PN.out], ST.out.bel⟩
      have m2 : decide ((p : Int) ≤ last) = false := by simpa using h2
      have CX := Lib.hid (CE.out i p _ hir hpc ST.out.rd)
      rw [X.out] at CX
      have HR1 : Hid (¬ last = (c : Int)) := h1
      have HR2 : Hid (¬ (p : Int) ≤ last) := h2
      clear h1 h2
      go_wp2_with fail
      refine CX.out.mono ?_
      rintro e w3 ⟨rfl, hb⟩
      have ST := Lib.hid (ST.out.step hb)
      clear hb CX p0 p1 p2
      obtain ⟨p0, p1, p2, -, -, -⟩ := ST.out.blk.all
      by_cases h3 : x < 0
      · have PN : Hid (PB = false) := Bool.eq_false_iff.mpr (fun e => (HB.out.mpr e).1 ⟨by rw [LC.out]; exact hpc, .inr (.inr (by rw [LC.out, X.out]; exact h3))⟩)
        go_wp2_with fail
        exact bodyPost_ret (v := .bool false) (by simp [results, Try.results42, go_sem]) rfl ⟨by rw [PN.out], ST.out.bel⟩
      have GR : Hid (¬ hrBad c xs i last) := fun ⟨_, h⟩ => by
        rw [LC.out, X.out] at h
        rcases h with h | h | h
        · exact HR1.out h
        · exact absurd h (by have := HR2.out; omega)
        · exact h3 h
      go_wp2_with fail
      clear p0 p1 p2 m1 m2 HR1 HR2 n1
      obtain ⟨nX1, nX2⟩ := nX
      have v1 : IntKind.i64.wrap (x - 1) = x - 1 := IntWalk.i64_in _ (by omega)
      go_loopw [2, 6, 7] (fun _ v6 _ wk => ∃ k2 : Nat, v6 = .int .i64 k2 ∧ k2 ≤ r ∧ (∀ q, q < k2 → (q < i → 0 ≤ mxC c xs q p ∧ mxC c xs q p ≤ x - 1) ∧ (i < q → mxC c xs q p = 0)) ∧ IsSt w r c a N m xs wk) (fun _ v6 _ _ => r - (intOf v6).toNat)
      case atStart => exact ⟨0, rfl, by omega, fun q hq => by omega, ST.out⟩
      case round =>
        clear ST
        obtain ⟨k2, rfl, hk2, hk0, hst⟩ := hrel
        have ST := Lib.hid hst
        have K0 := Lib.hid hk0
        clear hst hk0
        obtain ⟨p0, p1, p2, -, -, -⟩ := ST.out.blk.all
        by_cases hkr : k2 < r
        rotate_left
        · obtain rfl : r = k2 := by omega
          have NC : Hid (¬ hcBad r c xs i) := fun ⟨_, q, hq, h⟩ => by
            rw [LC.out, X.out] at h
            rcases h with ⟨h5, h6⟩ | ⟨h5, h6⟩
            · exact h6 ((K0.out q hq).1 h5)
            · exact h6 ((K0.out q hq).2 h5)
          have HN2 : Hid (HmB r c xs k (i + 1) (p : Int) ↔ PB = true) := by
            have h := HB.out
            rw [LC.out] at h
            exact ⟨fun h1 => h.mp ⟨GR.out, NC.out, h1⟩, fun e => (h.mpr e).2.2⟩
          clear NC GR HB K0
          go_wp2_with fail
          go_roundw
          case rel => exact ⟨i + 1, k, (p : Int), rfl, by go_num, by omega, HN2.out, ST.out⟩
          case measure => simp [intOf]; omega
        have CY := Lib.hid (CE.out k2 p _ hkr hpc ST.out.rd)
        obtain ⟨y, hy⟩ : ∃ y, mxC c xs k2 p = y := ⟨_, rfl⟩
        have Y := Lib.hid hy
        rw [hy] at CY
        have KS : Hid ((k2 < i → 0 ≤ y ∧ y ≤ x - 1) → (i < k2 → y = 0) → ∀ q, q < k2 + 1 → (q < i → 0 ≤ mxC c xs q p ∧ mxC c xs q p ≤ x - 1) ∧ (i < q → mxC c xs q p = 0)) := fun e1 e2 q hq => by
          rcases Nat.lt_or_ge q k2 with h3 | h3
          · exact K0.out q h3
          · obtain rfl : q = k2 := by omega
            rw [Y.out]
            exact ⟨e1, e2⟩
        clear hy K0
        go_wp2_with fail
        refine CY.out.mono ?_
        rintro e w4 ⟨rfl, hb⟩
        have ST := Lib.hid (ST.out.step hb)
        clear hb CY p0 p1 p2
        obtain ⟨p0, p1, p2, -, -, -⟩ := ST.out.blk.all
        by_cases hki : k2 < i
        · have k9 : ¬ i < k2 := by omega
          have CX := Lib.hid (CE.out i p _ hir hpc ST.out.rd)
          rw [X.out] at CX
          go_wp2_with fail
          refine CX.out.mono ?_
          rintro e w5 ⟨rfl, hb⟩
          have ST := Lib.hid (ST.out.step hb)
          clear hb CX p0 p1 p2
          by_cases hin : 0 ≤ y ∧ y ≤ x - 1
          · have KN := Lib.hid (KS.out (fun _ => hin) (fun h => by omega))
            have IN : Hid (∀ w', Calls Try.prog 70 #[.int .i64 y, .int .i64 0, .int .i64 (x - 1)] w' fun e w2 => e = .returned (.bool true) ∧ w' = w2) := fun w' => sIn_t y 0 (x - 1) w' hin.1 hin.2
            clear hin KS
            go_wp2_with fail
            with_reducible refine (IN.out _).mono ?_
            rintro e w6 ⟨rfl, rfl⟩
            go_wp2_with fail
            go_roundw
            case rel => exact ⟨k2 + 1, by go_num, by omega, KN.out, ST.out⟩
            case measure => simp [intOf]; omega
          · have PN : Hid (PB = false) := Bool.eq_false_iff.mpr (fun e => (HB.out.mpr e).2.1 ⟨by rw [LC.out]; exact hpc, k2, hkr, .inl ⟨hki, by rw [LC.out, X.out, Y.out]; exact hin⟩⟩)
            have IN : Hid (∀ w', Calls Try.prog 70 #[.int .i64 y, .int .i64 0, .int .i64 (x - 1)] w' fun e w2 => e = .returned (.bool false) ∧ w' = w2) := fun w' => sIn_f y 0 (x - 1) w' (by omega)
            clear hin KS
            go_wp2_with fail
            with_reducible refine (IN.out _).mono ?_
            rintro e w6 ⟨rfl, rfl⟩
            go_wp2_with fail
            exact bodyPost_ret (v := .bool false) (by simp [results, Try.results42, go_sem]) rfl ⟨by rw [PN.out], ST.out.bel⟩
        · by_cases hik2 : i < k2
          · by_cases hy0 : y = 0
            · have n6 : (y != 0) = false := by simp [hy0]
              have KN := Lib.hid (KS.out (fun h => absurd h hki) (fun _ => hy0))
              clear hy0 KS
              go_wp2_with fail
              go_roundw
              case rel => exact ⟨k2 + 1, by go_num, by omega, KN.out, ST.out⟩
              case measure => simp [intOf]; omega
            · have n6 : (y != 0) = true := by simpa using hy0
              have PN : Hid (PB = false) := Bool.eq_false_iff.mpr (fun e => (HB.out.mpr e).2.1 ⟨by rw [LC.out]; exact hpc, k2, hkr, .inr ⟨hik2, by rw [LC.out, Y.out]; exact hy0⟩⟩)
              clear hy0 KS
              go_wp2_with fail
              exact bodyPost_ret (v := .bool false) (by simp [results, Try.results42, go_sem]) rfl ⟨by rw [PN.out], ST.out.bel⟩
          · have KN := Lib.hid (KS.out (fun h => absurd h hki) (fun h => absurd h hik2))
            clear KS
            go_wp2_with fail
            go_roundw
            case rel => exact ⟨k2 + 1, by go_num, by omega, KN.out, ST.out⟩
            case measure => simp [intOf]; omega

theorem sIsHer_f (r c : Int) (a : Option Addr) (m : Nat) (xs : List Int) (w : World) (h : Rd w a xs) (hn : xs.length ≤ 16777216) (hm : isMat r c xs = false) :
    Calls Try.prog 42 #[.agg #[.int .i64 r, .int .i64 c, .slice a xs.length m]] w (Gives (.bool false) w) := by
  have IM : Hid (∀ w', Rd w' a xs → Calls Try.prog 53 #[.agg #[.int .i64 r, .int .i64 c, .slice a xs.length m]] w' (Gives (.bool false) w')) := fun w' h' => by
    have := sIsMat r c a m xs w' h' hn
    rw [hm] at this
    exact this
  clear hm hn
  generalize xs.length = L at IM ⊢
  have K : Hid (Blk3 (w.alloc (.cells #[.int .i64 r, .int .i64 c, .slice a L m] 26)) w.heap.size 26 (.int .i64 r) (.int .i64 c) (.slice a L m)) := Blk3.at_ _ _ _ _ rfl
  have RX := Lib.hid (h.below ((Below.refl _ _).alloc (Nat.le_refl _) (.cells #[.int .i64 r, .int .i64 c, .slice a L m] 26)))
  have BX : Hid (Below w.heap.size w (w.alloc (.cells #[.int .i64 r, .int .i64 c, .slice a L m] 26))) := (Below.refl _ _).alloc (Nat.le_refl _) _
  clear h
  go_enter Try.func42, Try.ntmps42
  go_wp2_with fail
  generalize w.alloc (.cells #[.int .i64 r, .int .i64 c, .slice a L m] 26) = W at K RX BX ⊢
  go_loopw [2, 3, 4, 5, 6, 7] (fun _ _ v4 _ _ _ wr => v4 = .int .i64 0 ∧ Blk3 wr w.heap.size 26 (.int .i64 r) (.int .i64 c) (.slice a L m) ∧ Rd wr a xs ∧ Below w.heap.size w wr) (fun _ _ _ _ _ _ _ => 0)
  case atStart => exact ⟨rfl, K.out, RX.out, BX.out⟩
  case round =>
    clear K RX BX
    obtain ⟨rfl, hk, hr, hb⟩ := hrel
    have K := Lib.hid hk
    have RX := Lib.hid hr
    have BX := Lib.hid hb
    clear hk hr hb
    obtain ⟨p0, p1, p2, -, -, -⟩ := K.out.all
    by_cases h0 : 0 < r
    · go_wp2_with fail
      refine (IM.out _ RX.out).mono ?_
      rintro e w0 ⟨rfl, hb⟩
      have K := Lib.hid (K.out.step hb)
      have RX := Lib.hid (RX.out.below hb)
      have BX := Lib.hid (BX.out.trans (hb.mono BX.out.size))
      clear hb p0 p1 p2
      obtain ⟨p0, p1, p2, -, -, -⟩ := K.out.all
      go_wp2_with fail
      refine (IM.out _ RX.out).mono ?_
      rintro e w1 ⟨rfl, hb⟩
      have B2 := Lib.hid (BX.out.trans (hb.mono BX.out.size))
      clear hb p0 p1 p2
      go_wp2_with fail
      exact bodyPost_ret (v := .bool false) (by simp [results, Try.results42, go_sem]) rfl ⟨rfl, B2.out⟩
    · go_wp2_with fail
      refine (IM.out _ RX.out).mono ?_
      rintro e w1 ⟨rfl, hb⟩
      have B2 := Lib.hid (BX.out.trans (hb.mono BX.out.size))
      clear hb p0 p1 p2
      go_wp2_with fail
      exact bodyPost_ret (v := .bool false) (by simp [results, Try.results42, go_sem]) rfl ⟨rfl, B2.out⟩
/-- IsHermite: whether it is a matrix in Hermite form. -/
theorem sIsHermite (r c : Int) (a : Option Addr) (m : Nat) (xs : List Int) (w : World) (h : Rd w a xs) (hn : xs.length ≤ 16777216) :
    Calls Try.prog 42 #[.agg #[.int .i64 r, .int .i64 c, .slice a xs.length m]] w (Gives (.bool (herIs r c xs)) w) := by
  rcases Bool.eq_false_or_eq_true (isMat r c xs) with hm | hm
  · obtain ⟨⟨r0, r1⟩, ⟨c0, c1⟩, hl, nx⟩ := isMat_says hm
    obtain ⟨R, rfl⟩ := Int.eq_ofNat_of_zero_le r0
    obtain ⟨C, rfl⟩ := Int.eq_ofNat_of_zero_le c0
    have hx : xs.length = R * C := by rw [← Int.natCast_mul] at hl; omega
    exact sIsHer_t R C xs.length a m xs w h rfl hx (by omega) (by omega) nx hm _ (herIs_iff hm)
  · rw [herIs_no hm]
    exact sIsHer_f r c a m xs w h hn hm
end Go.Proofs.Ytpelnfenfeoeeaa
end

section
/-
  Chapter 12, in the model: how many rows are not zeros.
-/
namespace Go.Proofs.Ytpelnfenfeoeeaa
set_option maxRecDepth 100000
open Go.RowKit

/-- The last of the first rows that is not zeros, counted from 1. -/
def rowsN (c : Nat) (xs : List Int) : Nat → Nat
  | 0 => 0
  | i + 1 => if leadC c (mxC c xs i) < c then i + 1 else rowsN c xs i
theorem rowsN_le (c : Nat) (xs : List Int) : ∀ i, rowsN c xs i ≤ i
  | 0 => Nat.le_refl _
  | i + 1 => by
    have := rowsN_le c xs i
    show (if _ then _ else _) ≤ i + 1
    split
    · exact Nat.le_refl _
    · exact Nat.le_succ_of_le this
theorem rowsN_empty {xs : List Int} : ∀ i, rowsN 0 xs i = 0
  | 0 => rfl
  | i + 1 => by
    show (if _ then _ else _) = 0
    rw [if_neg (by omega)]
    exact rowsN_empty i
theorem rowsN_her {r c t : Nat} {xs : List Int} {p : Nat → Nat} (h : HerP r c (mxC c xs) p t) : ∀ i, i ≤ r → rowsN c xs i = min i t
  | 0, _ => by show 0 = _; omega
  | i + 1, hi => by
    have ih := rowsN_her h i (by omega)
    show (if _ then _ else _) = _
    rcases Nat.lt_or_ge i t with h1 | h1
    · rw [if_pos (by rw [h.lead_at h1]; exact h.col i h1)]; omega
    · rw [if_neg (by rw [h.lead_no h1 (by omega)]; omega), ih]; omega
set_option maxHeartbeats 2000000 in
theorem sRowsH (r c N : Nat) (a : Option Addr) (m : Nat) (xs : List Int) (w : World) (h : Rd w a xs) (hx : xs.length = N) (hN : N = r * c) (hr : r ≤ 24) (hc : c ≤ 24) :
    Calls Try.prog 84 #[.agg #[.int .i64 r, .int .i64 c, .slice a N m]] w (Gives (.int .i64 (rowsN c xs r)) w) := by
  have CE : Hid (∀ i j w', i < r → j < c → Rd w' a xs → Calls Try.prog 63 #[.agg #[.int .i64 r, .int .i64 c, .slice a N m], .int .i64 i, .int .i64 j] w' (Gives (.int .i64 (mxC c xs i j)) w')) := fun i j w' hi hj h' => sCel r c a N m i j xs w' h' hx hN hr hc hi hj
  have ST : Hid (IsSt w r c a N m xs (w.alloc (.cells #[.int .i64 r, .int .i64 c, .slice a N m] 26))) := ⟨Blk3.at_ _ _ _ _ rfl, h.below ((Below.refl _ _).alloc (Nat.le_refl _) _), (Below.refl _ _).alloc (Nat.le_refl _) _⟩
  have RN : Hid (∀ i, rowsN c xs (i + 1) = if leadC c (mxC c xs i) < c then i + 1 else rowsN c xs i) := fun i => rfl
  have R0 : Hid (rowsN c xs 0 = 0) := rfl
  obtain ⟨rn, hrn⟩ : ∃ rn, rowsN c xs = rn := ⟨_, rfl⟩
  rw [hrn] at RN R0 ⊢
  clear hN hx h hrn
  go_enter Try.func84, Try.ntmps84
  go_wp2_with fail
  generalize w.alloc (.cells #[.int .i64 r, .int .i64 c, .slice a N m] 26) = W at ST ⊢
  go_loopw [3, 4, 5] (fun v3 v4 _ wr => ∃ i : Nat, v3 = .int .i64 (rn i : Nat) ∧ v4 = .int .i64 i ∧ i ≤ r ∧ IsSt w r c a N m xs wr) (fun _ v4 _ _ => r - (intOf v4).toNat)
  case atStart => exact ⟨0, by rw [R0.out]; rfl, rfl, by omega, ST.out⟩
  case round =>
    clear ST
    obtain ⟨i, rfl, rfl, hi, hst⟩ := hrel
    have ST := Lib.hid hst
    clear hst
    obtain ⟨p0, p1, p2, -, -, -⟩ := ST.out.blk.all
    by_cases hir : i < r
    rotate_left
    · obtain rfl : i = r := by omega
      go_wp2_with fail
      go_ret
      exact ⟨rfl, ST.out.bel⟩
    go_wp2_with fail
    clear p0 p1 p2
    go_loopw [3, 5] (fun v3 v5 wr => ∃ j z3 : Nat, v5 = .int .i64 j ∧ v3 = .int .i64 z3 ∧ j ≤ c ∧ ((z3 = rn i ∧ ∀ q, q < j → mxC c xs i q = 0) ∨ (z3 = i + 1 ∧ ∃ q, q < c ∧ mxC c xs i q ≠ 0)) ∧ IsSt w r c a N m xs wr) (fun _ v5 _ => c - (intOf v5).toNat)
    case atStart => exact ⟨0, rn i, rfl, rfl, by omega, .inl ⟨rfl, fun q hq => by omega⟩, ST.out⟩
    case round =>
      clear ST
      obtain ⟨j, z3, rfl, rfl, hj, hv, hst⟩ := hrel
      have ST := Lib.hid hst
      have HV := Lib.hid hv
      clear hst hv
      obtain ⟨p0, p1, p2, -, -, -⟩ := ST.out.blk.all
      by_cases hjc : j < c
      rotate_left
      · obtain rfl : c = j := by omega
        have RS : Hid (rn (i + 1) = z3) := by
          refine Lib.hid ?_
          rw [RN.out]
          rcases HV.out with ⟨e, h0⟩ | ⟨e, q, hq, h0⟩
          · rw [if_neg]
            · exact e.symm
            · intro hl
              exact (leadC_says c (mxC c xs i)).2.2 hl (h0 _ hl)
          · rw [if_pos]
            · exact e.symm
            · have := leadC_says c (mxC c xs i)
              exact Classical.byContradiction fun hn => h0 (this.2.1 q (by omega))
        go_wp2_with fail
        go_roundw
        case rel => exact ⟨i + 1, by rw [RS.out], by go_num, by omega, ST.out⟩
        case measure => simp [intOf]; omega
      have CX := Lib.hid (CE.out i j _ hir hjc ST.out.rd)
      obtain ⟨x, hx⟩ : ∃ x, mxC c xs i j = x := ⟨_, rfl⟩
      have X := Lib.hid hx
      rw [hx] at CX
      clear hx
      go_wp2_with fail
      refine CX.out.mono ?_
      rintro e w2 ⟨rfl, hb⟩
      have ST := Lib.hid (ST.out.step hb)
      clear hb CX p0 p1 p2
      by_cases hx0 : x = 0
      · have n1 : (x != 0) = false := by simp [hx0]
        have HV2 : Hid ((z3 = rn i ∧ ∀ q, q < j + 1 → mxC c xs i q = 0) ∨ (z3 = i + 1 ∧ ∃ q, q < c ∧ mxC c xs i q ≠ 0)) := by
          refine Lib.hid ?_
          rcases HV.out with ⟨e, h0⟩ | h
          · refine .inl ⟨e, fun q hq => ?_⟩
            rcases Nat.lt_or_ge q j with h3 | h3
            · exact h0 q h3
            · obtain rfl : q = j := by omega
              rw [X.out]; exact hx0
          · exact .inr h
        clear hx0
        go_wp2_with fail
        go_roundw
        case rel => exact ⟨j + 1, z3, by go_num, rfl, by omega, HV2.out, ST.out⟩
        case measure => simp [intOf]; omega
      · have n1 : (x != 0) = true := by simpa using hx0
        have HQ : Hid (∃ q, q < c ∧ mxC c xs i q ≠ 0) := ⟨j, hjc, by rw [X.out]; exact hx0⟩
        clear hx0
        go_wp2_with fail
        go_roundw
        case rel => exact ⟨j + 1, i + 1, by go_num, by go_num, by omega, .inr ⟨rfl, HQ.out⟩, ST.out⟩
        case measure => simp [intOf]; omega
end Go.Proofs.Ytpelnfenfeoeeaa
end

section
/-
  A list of ints that may be nil is appended onto an empty list of the call's own: a copy in a block.
-/
namespace Go.Proofs.Ytpelnfenfeoeeaa
set_option maxRecDepth 100000
open Go.RowKit

theorem wpList_appendR {P : Program} {ops : Array Oper} {rest : List Oper} {o : Oper} {a : Act} {w : World} {Q : Exit → Act → World → Prop} (hgd : o.guard = none) (s x : Operand) (t : TypeId)
    (ho : o.op = .call { callee := .builtin .append, args := #[s, x], argTypes := #[t, t] }) (v1 v2 : Value) (hs : a.eval s = v1) (hx : a.eval x = v2) (v' : Value) (w' : World)
    (hr : (Builtin.append_ #[t, t] o.type #[v1, v2]).run P w = .ok v' w') (h : wpList P ops Q rest (a.put o.dst v') w') : wpList P ops Q (o :: rest) a w := by
  refine wpList_plain hgd fun K hK => ?_
  unfold Oper.wp execOp
  simp only [ho, resolve, invoke, builtin, Sem.run_bind, Sem.run_pure, Result.andThen_ok, List.map_toArray, List.map_cons, List.map_nil, hs, hx, hr]
  exact hK _ _ h
theorem append_nil (w : World) (a : Addr) (c mb : Nat) : (Builtin.append_ #[22, 22] 22 #[.slice (some a) 0 c, .slice none 0 mb]).run Try.prog w = .ok (.slice (some a) 0 c) w := by
  simp [Builtin.append_, go_sem]
theorem appendCopy (w : World) {B g : Nat} {ab : Option Addr} {bs : List Int} (hs : Spot ab) (mb : Nat) (h : Rd w ab bs) (hn : bs.length ≤ 16777216) (hB : B ≤ w.heap.size) (hg : IntsC w g 0 []) (hgB : B ≤ g) :
    ∃ g' cap w', (Builtin.append_ #[22, 22] 22 #[.slice (some ⟨g, 0, none⟩) 0 0, .slice ab bs.length mb]).run Try.prog w = .ok (.slice (some ⟨g', 0, none⟩) bs.length cap) w' ∧ Ints w' g' bs ∧ B ≤ g' ∧ w.grownBy w' (some g) := by
  rcases hs with rfl | ⟨b, o, rfl⟩
  · have hb : bs = [] := by
      cases bs with
      | nil => rfl
      | cons z zs => obtain ⟨_, _, e, _⟩ := h 0 (by simp); cases e
    subst hb
    obtain ⟨-, rest, -, hgg⟩ := hg
    exact ⟨g, 0, w, append_nil w _ 0 mb, ⟨rest, hgg⟩, hgB, ⟨rfl, rfl, rfl, Nat.le_refl _, fun _ _ _ => rfl⟩⟩
  · have own : w.ownsRow B 3 1 (.slice (some ⟨g, 0, none⟩) 0 0) 0 (([] : List Int).map (Value.int .i64)) := OwnQ.none_ hgB hg
    obtain ⟨v', w', hr, ho, hgr, hne⟩ := appendInts2 w B 0 bs.length mb (.slice (some ⟨g, 0, none⟩) 0 0) [] bs b o own h rfl (by omega) hB
    rw [Nat.zero_add, List.nil_append] at ho
    obtain ⟨-, ⟨rfl, -⟩ | ⟨g', cap, cur, rfl, hB2, hc, -, -, -, ht⟩⟩ := ho
    · exact absurd (hne.mp rfl).1 (by simp)
    · refine ⟨g', cap, w', hr, ⟨cur.toList.drop bs.length, ?_⟩, hB2, hgr⟩
      rw [hc]
      congr 1
      congr 1
      rw [Nat.mul_one] at ht
      rw [← ht, List.take_append_drop]
end Go.Proofs.Ytpelnfenfeoeeaa
end

section
/-
  Chapter 12, in the model: BasisOf.
-/
namespace Go.Proofs.Ytpelnfenfeoeeaa
set_option maxRecDepth 100000
open Go.RowKit

/-- As appendCopy, with what the room is. -/
theorem appendCopy2 (w : World) {B g : Nat} {ab : Option Addr} {bs : List Int} (hs : Spot ab) (mb : Nat) (h : Rd w ab bs) (hn : bs.length ≤ 16777216) (hB : B ≤ w.heap.size) (hg : IntsC w g 0 []) (hgB : B ≤ g) :
    ∃ g' cap w', (Builtin.append_ #[22, 22] 22 #[.slice (some ⟨g, 0, none⟩) 0 0, .slice ab bs.length mb]).run Try.prog w = .ok (.slice (some ⟨g', 0, none⟩) bs.length cap) w' ∧ Ints w' g' bs ∧ B ≤ g' ∧ bs.length ≤ cap ∧ w.grownBy w' (some g) := by
  rcases hs with rfl | ⟨b, o, rfl⟩
  · have hb : bs = [] := by
      cases bs with
      | nil => rfl
      | cons z zs => obtain ⟨_, _, e, _⟩ := h 0 (by simp); cases e
    subst hb
    obtain ⟨-, rest, -, hgg⟩ := hg
    exact ⟨g, 0, w, append_nil w _ 0 mb, ⟨rest, hgg⟩, hgB, Nat.le_refl _, ⟨rfl, rfl, rfl, Nat.le_refl _, fun _ _ _ => rfl⟩⟩
  · have own : w.ownsRow B 3 1 (.slice (some ⟨g, 0, none⟩) 0 0) 0 (([] : List Int).map (Value.int .i64)) := OwnQ.none_ hgB hg
    obtain ⟨v', w', hr, ho, hgr, hne⟩ := appendInts2 w B 0 bs.length mb (.slice (some ⟨g, 0, none⟩) 0 0) [] bs b o own h rfl (by omega) hB
    rw [Nat.zero_add, List.nil_append] at ho
    obtain ⟨-, ⟨rfl, -⟩ | ⟨g', cap, cur, rfl, hB2, hc, hcap, -, -, ht⟩⟩ := ho
    · exact absurd (hne.mp rfl).1 (by simp)
    · refine ⟨g', cap, w', hr, ⟨cur.toList.drop bs.length, ?_⟩, hB2, hcap, hgr⟩
      rw [hc]
      congr 1
      congr 1
      rw [Nat.mul_one] at ht
      rw [← ht, List.take_append_drop]
/-- What BasisOf hands back. -/
def basR (r c : Int) (xs : List Int) : MR := if (herR r c xs).ok = true then ⟨true, (rowsN c.toNat (herR r c xs).zs r.toNat : Nat), c, (herR r c xs).zs.take (rowsN c.toNat (herR r c xs).zs r.toNat * c.toNat)⟩ else ⟨false, 0, 0, []⟩
theorem herR_ok {r c : Int} {xs : List Int} (h : (herR r c xs).ok = true) : ∃ (R C : Nat) (s : HSt), r = R ∧ c = C ∧ R ≤ 24 ∧ C ≤ 24 ∧ herX R C xs = some s ∧ herR r c xs = ⟨true, R, C, s.1, R, R, s.2⟩ ∧ Siz R C s := by
  cases hm : isMat r c xs with
  | false =>
    unfold herR at h
    rw [if_neg (by rw [hm]; decide)] at h
    cases h
  | true =>
    obtain ⟨⟨r0, r1⟩, ⟨c0, c1⟩, hl, nx⟩ := isMat_says hm
    obtain ⟨R, rfl⟩ := Int.eq_ofNat_of_zero_le r0
    obtain ⟨C, rfl⟩ := Int.eq_ofNat_of_zero_le c0
    have hl : xs.length = R * C := by rw [← Int.natCast_mul] at hl; omega
    have e : herR R C xs = HR.of R C (herX R C xs) := by unfold herR; rw [if_pos hm]; rfl
    rw [e] at h ⊢
    cases hx : herX R C xs with
    | none => rw [hx] at h; cases h
    | some s => exact ⟨R, C, s, rfl, rfl, by omega, by omega, hx, rfl, (herX_says hl nx hx).1.siz⟩
theorem herR_zs (r c : Int) (xs : List Int) : (herR r c xs).zs.length ≤ 600 := by
  cases h : (herR r c xs).ok with
  | true =>
    obtain ⟨R, C, s, -, -, hR, hC, -, e, z⟩ := herR_ok h
    have : R * C ≤ 24 * 24 := Nat.mul_le_mul hR hC
    rw [e]
    show s.1.length ≤ 600
    rw [z.l1]; omega
  | false =>
    unfold herR at h ⊢
    split
    · next hm =>
      rw [if_pos hm] at h
      cases hx : herX r.toNat c.toNat xs with
      | none => exact Nat.zero_le _
      | some s => rw [hx] at h; cases h
    · exact Nat.zero_le _
theorem Own.spot {B : Nat} {w : World} {a : Option Addr} {n m : Nat} {zs : List Int} (h : Own B w (.slice a n m) zs) : Spot a ∧ zs.length ≤ m := by
  rcases h with ⟨e, rfl⟩ | ⟨g, cap, e, -, -, h1, -⟩
  · injection e with e1 e2 e3
    exact ⟨.inl e1, Nat.zero_le _⟩
  · injection e with e1 e2 e3
    exact ⟨.inr ⟨g, 0, e1⟩, by omega⟩
/-- The box of the form, in every later world. -/
theorem bzF {W w' : World} {b : Nat} {t : TypeId} {p q r : Value} (h0 : Blk3 W b t p q r) (hb : Below W.heap.size W w') : w'.cell? ⟨b, 1, none⟩ = some q ∧ w'.cell? ⟨b, 2, none⟩ = some r := by
  obtain ⟨-, a2, a3, -, -, -⟩ := (h0.step hb).all
  exact ⟨a2, a3⟩
set_option maxHeartbeats 4000000 in
theorem sBasis (r c : Int) (a : Option Addr) (m : Nat) (xs : List Int) (w : World) (h : Rd w a xs) (hn : xs.length ≤ 16777216) (ha : Spot a) :
    Calls Try.prog 33 #[.agg #[.int .i64 r, .int .i64 c, .slice a xs.length m]] w (MatRes (basR r c xs) w) := by
  have HF : Hid (∀ w', Below w.heap.size w w' → Calls Try.prog 36 #[.agg #[.int .i64 r, .int .i64 c, .slice a xs.length m]] w' (HerG w' (herR r c xs))) := fun w' hb => sHerm r c a m xs w' (h.below hb) hn ha
  cases hok : (herR r c xs).ok with
  | false =>
    have RN : Hid (basR r c xs = ⟨false, 0, 0, []⟩) := by show _ = _; unfold basR; rw [if_neg (by rw [hok]; decide)]
    generalize basR r c xs = RES at RN ⊢
    generalize herR r c xs = HH at HF hok
    generalize xs.length = L at HF ⊢
    clear h hn ha
    go_enter Try.func33, Try.ntmps33
    go_upto_region 1 with fail
    have K0 : Hid (Blk3 ((w.alloc (.cells #[.int .i64 r, .int .i64 c, .slice a L m] 26)).alloc (.cells #[.int .i64 0, .int .i64 0, .slice none 0 0] 26)) w.heap.size 26 (.int .i64 r) (.int .i64 c) (.slice a L m)) := (Blk3.at_ _ _ _ _ rfl).old _
    have R0 : Hid (Blk3 ((w.alloc (.cells #[.int .i64 r, .int .i64 c, .slice a L m] 26)).alloc (.cells #[.int .i64 0, .int .i64 0, .slice none 0 0] 26)) (w.heap.size + 1) 26 (.int .i64 0) (.int .i64 0) (.slice none 0 0)) := Blk3.at_ _ _ _ _ (by simp)
    have B0 : Hid (Below w.heap.size w ((w.alloc (.cells #[.int .i64 r, .int .i64 c, .slice a L m] 26)).alloc (.cells #[.int .i64 0, .int .i64 0, .slice none 0 0] 26))) := ((Below.refl _ _).alloc (Nat.le_refl _) _).alloc (by simp) _
    have S0 : Hid (((w.alloc (.cells #[.int .i64 r, .int .i64 c, .slice a L m] 26)).alloc (.cells #[.int .i64 0, .int .i64 0, .slice none 0 0] 26)).heap.size = w.heap.size + 2) := by show _ = _; simp
    generalize (w.alloc (.cells #[.int .i64 r, .int .i64 c, .slice a L m] 26)).alloc (.cells #[.int .i64 0, .int .i64 0, .slice none 0 0] 26) = W0 at K0 R0 B0 S0 ⊢
    obtain ⟨p0, p1, p2, -, -, -⟩ := K0.out.all
    go_wp2_with fail
    refine (HF.out _ B0.out).mono ?_
    rintro e w1 ⟨va, vb, rfl, oa, ob, -, hb⟩
    obtain ⟨qa, ca, rfl, -, -⟩ := oa.form
    obtain ⟨qb, cb, rfl, -, -⟩ := ob.form
    rw [hok]
    have R1 := Lib.hid (((R0.out.step hb).old (.cells #[.int .i64 HH.r1, .int .i64 HH.c1, .slice qa HH.zs.length ca] 26)).old (.cells #[.int .i64 HH.r2, .int .i64 HH.c2, .slice qb HH.us.length cb] 26))
    have B1 := Lib.hid (((B0.out.trans (hb.mono (by have := S0.out; omega))).alloc (by have := S0.out; have := hb.size; omega) (.cells #[.int .i64 HH.r1, .int .i64 HH.c1, .slice qa HH.zs.length ca] 26)).alloc (by have := S0.out; have := hb.size; simp; omega) (.cells #[.int .i64 HH.r2, .int .i64 HH.c2, .slice qb HH.us.length cb] 26))
    clear hb oa ob p0 p1 p2 K0 R0 B0
    go_upto_region 2 with fail
    generalize (w1.alloc (.cells #[.int .i64 HH.r1, .int .i64 HH.c1, .slice qa HH.zs.length ca] 26)).alloc (.cells #[.int .i64 HH.r2, .int .i64 HH.c2, .slice qb HH.us.length cb] 26) = W1 at R1 B1 ⊢
    obtain ⟨r0, r1, r2, f0, f1, f2⟩ := R1.out.all
    go_wp2_with fail
    obtain ⟨E0, E1, E2, -, -, -⟩ := (((R1.out.set0 (.int .i64 0)).set1 (.int .i64 0)).set2 (.slice none 0 0)).all
    refine bodyPost_ret (v := .tuple #[.agg #[.int .i64 0, .int .i64 0, .slice none 0 0], .bool false]) (by simp [results, Try.results33, go_sem, E0, E1, E2]) rfl ?_
    rw [RN.out]
    exact ⟨_, rfl, .inl ⟨rfl, rfl⟩, ((B1.out.setCell (by show w.heap.size ≤ w.heap.size + 1; omega) _).setCell (by show w.heap.size ≤ w.heap.size + 1; omega) _).setCell (by show w.heap.size ≤ w.heap.size + 1; omega) _⟩
  | true =>
    obtain ⟨R, C, s, rfl, rfl, R24, C24, -, eh, SZ⟩ := herR_ok hok
    have RY : Hid (basR R C xs = ⟨true, (rowsN C s.1 R : Nat), C, s.1.take (rowsN C s.1 R * C)⟩) := by show _ = _; unfold basR; rw [if_pos hok, eh]; rfl
    have hbd : R * C ≤ 24 * 24 := Nat.mul_le_mul R24 C24
    have nR := rowsN_le C s.1 R
    have hP : rowsN C s.1 R * C ≤ R * C := Nat.mul_le_mul_right C nR
    have RW : Hid (∀ (b : Option Addr) (m' : Nat) w', Rd w' b s.1 → Calls Try.prog 84 #[.agg #[.int .i64 R, .int .i64 C, .slice b (R * C) m']] w' (Gives (.int .i64 (rowsN C s.1 R)) w')) := fun b m' w' hr => sRowsH R C (R * C) b m' s.1 w' hr SZ.l1 rfl R24 C24
    have TL : Hid ((s.1.take (rowsN C s.1 R * C)).length = rowsN C s.1 R * C) := by show _ = _; rw [List.length_take, SZ.l1]; omega
    have L1 := Lib.hid SZ.l1
    rw [eh] at HF
    rw [RY.out]
    obtain ⟨n, hn9⟩ : ∃ n, rowsN C s.1 R = n := ⟨_, rfl⟩
    rw [hn9] at RW TL nR hP ⊢
    have v1 : IntKind.i64.wrap ((n : Int) * (C : Int)) = ((n * C : Nat) : Int) := by rw [← Int.natCast_mul]; exact IntWalk.i64_in _ (by omega)
    obtain ⟨P, hP9⟩ : ∃ P, n * C = P := ⟨_, rfl⟩
    rw [hP9] at TL hP v1 ⊢
    obtain ⟨N, hN9⟩ : ∃ N, R * C = N := ⟨_, rfl⟩
    rw [hN9] at RW L1 hP hbd
    generalize xs.length = L at HF ⊢
    clear h hn ha hok eh SZ RY hn9 hP9 hN9
    go_enter Try.func33, Try.ntmps33
    go_upto_region 1 with fail
    have K0 : Hid (Blk3 ((w.alloc (.cells #[.int .i64 R, .int .i64 C, .slice a L m] 26)).alloc (.cells #[.int .i64 0, .int .i64 0, .slice none 0 0] 26)) w.heap.size 26 (.int .i64 R) (.int .i64 C) (.slice a L m)) := (Blk3.at_ _ _ _ _ rfl).old _
    have R0 : Hid (Blk3 ((w.alloc (.cells #[.int .i64 R, .int .i64 C, .slice a L m] 26)).alloc (.cells #[.int .i64 0, .int .i64 0, .slice none 0 0] 26)) (w.heap.size + 1) 26 (.int .i64 0) (.int .i64 0) (.slice none 0 0)) := Blk3.at_ _ _ _ _ (by simp)
    have B0 : Hid (Below w.heap.size w ((w.alloc (.cells #[.int .i64 R, .int .i64 C, .slice a L m] 26)).alloc (.cells #[.int .i64 0, .int .i64 0, .slice none 0 0] 26))) := ((Below.refl _ _).alloc (Nat.le_refl _) _).alloc (by simp) _
    have S0 : Hid (((w.alloc (.cells #[.int .i64 R, .int .i64 C, .slice a L m] 26)).alloc (.cells #[.int .i64 0, .int .i64 0, .slice none 0 0] 26)).heap.size = w.heap.size + 2) := by show _ = _; simp
    generalize (w.alloc (.cells #[.int .i64 R, .int .i64 C, .slice a L m] 26)).alloc (.cells #[.int .i64 0, .int .i64 0, .slice none 0 0] 26) = W0 at K0 R0 B0 S0 ⊢
    obtain ⟨p0, p1, p2, -, -, -⟩ := K0.out.all
    go_wp2_with fail
    refine (HF.out _ B0.out).mono ?_
    rintro e w1 ⟨va, vb, rfl, oa, ob, -, hb⟩
    dsimp only at oa ob ⊢
    obtain ⟨qa, ca, rfl, hqa, -⟩ := oa.form
    obtain ⟨qb, cb, rfl, -, -⟩ := ob.form
    obtain ⟨sp, hca⟩ := oa.spot
    rw [L1.out] at hca ⊢
    have SP := Lib.hid sp
    have R1 := Lib.hid (((R0.out.step hb).old (.cells #[.int .i64 R, .int .i64 C, .slice qa N ca] 26)).old (.cells #[.int .i64 R, .int .i64 R, .slice qb s.2.length cb] 26))
    have A1 : Hid (Blk3 ((w1.alloc (.cells #[.int .i64 R, .int .i64 C, .slice qa N ca] 26)).alloc (.cells #[.int .i64 R, .int .i64 R, .slice qb s.2.length cb] 26)) w1.heap.size 26 (.int .i64 R) (.int .i64 C) (.slice qa N ca)) := (Blk3.at_ _ _ _ _ rfl).old _
    have Q1 := Lib.hid (hqa.below (((Below.refl w1.heap.size w1).alloc (Nat.le_refl _) (.cells #[.int .i64 R, .int .i64 C, .slice qa N ca] 26)).alloc (by simp) (.cells #[.int .i64 R, .int .i64 R, .slice qb s.2.length cb] 26)))
    have B1 := Lib.hid (((B0.out.trans (hb.mono (by have := S0.out; omega))).alloc (by have := S0.out; have := hb.size; omega) (.cells #[.int .i64 R, .int .i64 C, .slice qa N ca] 26)).alloc (by have := S0.out; have := hb.size; simp; omega) (.cells #[.int .i64 R, .int .i64 R, .slice qb s.2.length cb] 26))
    have s1 : w.heap.size + 2 ≤ w1.heap.size := by have := S0.out; have := hb.size; omega
    clear hb oa ob hqa sp p0 p1 p2 K0 R0 B0 S0
    go_upto_region 2 with fail
    obtain ⟨b4, hb4⟩ : ∃ b, w1.heap.size = b := ⟨_, rfl⟩
    rw [hb4] at A1 s1 ⊢
    generalize (w1.alloc (.cells #[.int .i64 R, .int .i64 C, .slice qa N ca] 26)).alloc (.cells #[.int .i64 R, .int .i64 R, .slice qb s.2.length cb] 26) = W1 at R1 A1 Q1 B1 ⊢
    clear hb4
    obtain ⟨p0, p1, p2, -, -, -⟩ := A1.out.all
    have RW1 := Lib.hid (RW.out qa ca W1 Q1.out)
    go_wp2_with fail
    refine RW1.out.mono ?_
    rintro e w5 ⟨rfl, hb⟩
    have R5 := Lib.hid (R1.out.step hb)
    have A5 := Lib.hid (A1.out.step hb)
    have Q5 := Lib.hid (Q1.out.below hb)
    have B5 := Lib.hid (B1.out.trans (hb.mono B1.out.size))
    clear hb R1 A1 Q1 B1 RW RW1 p0 p1 p2
    have p1 : (0 : Int) ≤ (P : Int) := by omega
    have p2 : (P : Int) ≤ (ca : Int) := by omega
    go_wp2_with fail
    refine wp_region_T (S := fun w' => Below w5.heap.size w5 w') (T := fun j => j == 13 || j == 14) (by kernel_rfl) (Below.refl _ _).drew (fun hH => ?_)
    refine wpAnyT_take (i := 0) (v := ?_) (by simp only [List.getElem?_toArray, List.getElem?_cons_zero]; rfl) (by kernel_rfl) (by kernel_rfl) (by kernel_rfl) (by kernel_rfl) (two_only 13 14 (by kernel_rfl) (by kernel_rfl)) (by exact fun _ _ _ h => h) (Or.inl ⟨by rfl, ?_⟩) hH ?_
    rotate_left
    · (intro wS hS; clear hS; go_simp; try rfl)
    try simp only [Act.put, List.setIfInBounds_toArray, List.set_cons_zero, List.set_cons_succ]
    refine wpAnyT_take (i := 1) (v := ?_) (by simp only [List.getElem?_toArray, List.getElem?_cons_succ, List.getElem?_cons_zero]; rfl) (by kernel_rfl) (by kernel_rfl) (by kernel_rfl) (by kernel_rfl) (two_only 13 14 (by kernel_rfl) (by kernel_rfl)) (by exact fun _ _ _ h => h) (Or.inl ⟨by rfl, ?_⟩) hH ?_
    rotate_left
    · (intro wS hS; clear hS; go_simp; try rfl)
    try simp only [Act.put, List.setIfInBounds_toArray, List.set_cons_zero, List.set_cons_succ]
    refine wpAnyT_take (i := 2) (v := ?_) (by simp only [List.getElem?_toArray, List.getElem?_cons_succ, List.getElem?_cons_zero]; rfl) (by kernel_rfl) (by kernel_rfl) (by kernel_rfl) (by kernel_rfl) (two_only 13 14 (by kernel_rfl) (by kernel_rfl)) (by exact fun _ _ _ h => h) (Or.inl ⟨by rfl, ?_⟩) hH ?_
    rotate_left
    · (intro wS hS; (try dsimp only at hS); obtain ⟨k1, k2⟩ := bzF A5.out hS; go_simp; try rfl)
    try simp only [Act.put, List.setIfInBounds_toArray, List.set_cons_zero, List.set_cons_succ]
    refine wpAnyT_take (i := 4) (v := ?_) (by simp only [List.getElem?_toArray, List.getElem?_cons_succ, List.getElem?_cons_zero]; rfl) (by kernel_rfl) (by kernel_rfl) (by kernel_rfl) (by kernel_rfl) (two_only 13 14 (by kernel_rfl) (by kernel_rfl)) (by exact fun _ _ _ h => h) (Or.inl ⟨by rfl, ?_⟩) hH ?_
    rotate_left
    · (intro wS hS; clear hS; go_simp; try rfl)
    try simp only [Act.put, List.setIfInBounds_toArray, List.set_cons_zero, List.set_cons_succ]
    refine wpAnyT_take (i := 5) (v := ?_) (by simp only [List.getElem?_toArray, List.getElem?_cons_succ, List.getElem?_cons_zero]; rfl) (by kernel_rfl) (by kernel_rfl) (by kernel_rfl) (by kernel_rfl) (two_only 13 14 (by kernel_rfl) (by kernel_rfl)) (by exact fun _ _ _ h => h) (Or.inl ⟨by rfl, ?_⟩) hH ?_
    rotate_left
    · (intro wS hS; (try dsimp only at hS); obtain ⟨k1, k2⟩ := bzF A5.out hS; go_simp; try rfl)
    try simp only [Act.put, List.setIfInBounds_toArray, List.set_cons_zero, List.set_cons_succ]
    refine wpAnyT_take (i := 6) (v := ?_) (by simp only [List.getElem?_toArray, List.getElem?_cons_succ, List.getElem?_cons_zero]; rfl) (by kernel_rfl) (by kernel_rfl) (by kernel_rfl) (by kernel_rfl) (two_only 13 14 (by kernel_rfl) (by kernel_rfl)) (by exact fun _ _ _ h => h) (Or.inl ⟨by rfl, ?_⟩) hH ?_
    rotate_left
    · (intro wS hS; clear hS; go_simp; try rfl)
    try simp only [Act.put, List.setIfInBounds_toArray, List.set_cons_zero, List.set_cons_succ]
    refine wpAnyT_take (i := 7) (v := ?_) (by simp only [List.getElem?_toArray, List.getElem?_cons_succ, List.getElem?_cons_zero]; rfl) (by kernel_rfl) (by kernel_rfl) (by kernel_rfl) (by kernel_rfl) (two_only 13 14 (by kernel_rfl) (by kernel_rfl)) (by exact fun _ _ _ h => h) (Or.inl ⟨by rfl, ?_⟩) hH ?_
    rotate_left
    · (intro wS hS; clear hS; go_simp; try rfl)
    try simp only [Act.put, List.setIfInBounds_toArray, List.set_cons_zero, List.set_cons_succ]
    refine wpAnyT_take (i := 8) (v := ?_) (by simp only [List.getElem?_toArray, List.getElem?_cons_succ, List.getElem?_cons_zero]; rfl) (by kernel_rfl) (by kernel_rfl) (by kernel_rfl) (by kernel_rfl) (two_only 13 14 (by kernel_rfl) (by kernel_rfl)) (by exact fun _ _ _ h => h) (Or.inl ⟨by rfl, ?_⟩) hH ?_
    rotate_left
    · (intro wS hS; (try dsimp only at hS); obtain ⟨k1, k2⟩ := bzF A5.out hS; go_simp; try rfl)
    try simp only [Act.put, List.setIfInBounds_toArray, List.set_cons_zero, List.set_cons_succ]
    refine wpAnyT_take (i := 9) (v := ?_) (by simp only [List.getElem?_toArray, List.getElem?_cons_succ, List.getElem?_cons_zero]; rfl) (by kernel_rfl) (by kernel_rfl) (by kernel_rfl) (by kernel_rfl) (two_only 13 14 (by kernel_rfl) (by kernel_rfl)) (by exact fun _ _ _ h => h) (Or.inl ⟨by rfl, ?_⟩) hH ?_
    rotate_left
    · (intro wS hS; clear hS; go_simp; try rfl)
    try simp only [Act.put, List.setIfInBounds_toArray, List.set_cons_zero, List.set_cons_succ]
    refine wpAnyT_take (i := 10) (v := ?_) (by simp only [List.getElem?_toArray, List.getElem?_cons_succ, List.getElem?_cons_zero]; rfl) (by kernel_rfl) (by kernel_rfl) (by kernel_rfl) (by kernel_rfl) (two_only 13 14 (by kernel_rfl) (by kernel_rfl)) (by exact fun _ _ _ h => h) (Or.inl ⟨by rfl, ?_⟩) hH ?_
    rotate_left
    · (intro wS hS; clear hS; go_simp; try rfl)
    try simp only [Act.put, List.setIfInBounds_toArray, List.set_cons_zero, List.set_cons_succ]
    refine wpAnyT_ready (rs := [3]) (by kernel_rfl) (by simp) ?_
    refine AllReadyT.cons (by simp only [List.getElem?_toArray, List.getElem?_cons_succ, List.getElem?_cons_zero]; rfl) (fun K hK => ?_) AllReadyT.nil
    go_simp
    try dsimp only
    have hH2 := hH.alloc hH.size (.cells #[] 3)
    refine hK.out _ _ (fun _ => hH2) ?_
    clear hK K
    try simp only [Act.put, List.setIfInBounds_toArray, List.set_cons_zero, List.set_cons_succ]
    have AC : IntsC (w5.drew.alloc (.cells #[] 3)) w5.heap.size 0 [] := ⟨Nat.zero_le _, [], rfl, heap_alloc_new w5.drew (.cells #[] 3)⟩
    obtain ⟨g9, c9, w9, hr9, hi9, hg9, hc9, hgr9⟩ := appendCopy2 (w5.drew.alloc (.cells #[] 3)) (B := w5.heap.size) SP.out ca ((Q5.out.below hH2).take P) (by rw [TL.out]; omega) hH2.size AC (Nat.le_refl _)
    rw [TL.out] at hr9 hc9
    refine wpAnyT_ready (rs := [11]) (by kernel_rfl) (by simp) ?_
    refine AllReadyT.cons (by simp only [List.getElem?_toArray, List.getElem?_cons_succ, List.getElem?_cons_zero]; rfl) (fun K hK => ?_) AllReadyT.nil
    refine step_append rfl _ _ 22 rfl _ _ rfl rfl _ _ hr9 ?_
    try dsimp only
    have hH3 := hH2.grown hgr9 hH2.size (fun k hk => by injection hk with hk; omega)
    refine hK.out _ _ (fun _ => hH3) ?_
    clear hK K
    try simp only [Act.put, List.setIfInBounds_toArray, List.set_cons_zero, List.set_cons_succ]
    refine wpAnyT_take (i := 12) (v := ?_) (by simp only [List.getElem?_toArray, List.getElem?_cons_succ, List.getElem?_cons_zero]; rfl) (by kernel_rfl) (by kernel_rfl) (by kernel_rfl) (by kernel_rfl) (two_only 13 14 (by kernel_rfl) (by kernel_rfl)) (by exact fun _ _ _ h => h) (Or.inl ⟨by rfl, ?_⟩) hH3 ?_
    rotate_left
    · (intro wS hS; clear hS; go_simp; try rfl)
    try simp only [Act.put, List.setIfInBounds_toArray, List.set_cons_zero, List.set_cons_succ]
    have R9 := Lib.hid (R5.out.step hH3)
    have B9 := Lib.hid (B5.out.trans (hH3.mono B5.out.size))
    obtain ⟨r0, r1, r2, f0, f1, f2⟩ := R9.out.all
    refine wpAnyT_ready (rs := [13]) (by kernel_rfl) (by simp) ?_
    refine AllReadyT.cons (by simp only [List.getElem?_toArray, List.getElem?_cons_succ, List.getElem?_cons_zero]; rfl) (fun K hK => ?_) AllReadyT.nil
    go_simp
    try dsimp only
    refine hK.out _ _ (fun h => by cases h) ?_
    clear hK K
    try simp only [Act.put, List.setIfInBounds_toArray, List.set_cons_zero, List.set_cons_succ]
    refine wpAnyT_ready (rs := [14]) (by kernel_rfl) (by simp) ?_
    refine AllReadyT.cons (by simp only [List.getElem?_toArray, List.getElem?_cons_succ, List.getElem?_cons_zero]; rfl) (fun K hK => ?_) AllReadyT.nil
    go_simp
    try dsimp only
    refine hK.out _ _ (fun h => by cases h) ?_
    clear hK K
    try simp only [Act.put, List.setIfInBounds_toArray, List.set_cons_zero, List.set_cons_succ]
    refine wpAnyT_done (by kernel_rfl) ?_ _
    go_wp2_with fail
    obtain ⟨E0, E1, E2, -, -, -⟩ := (((R9.out.set0 (.int .i64 n)).set1 (.int .i64 C)).set2 (.slice (some ⟨g9, 0, none⟩) P c9)).all
    have s5 := B5.out.size
    have gne : w.heap.size + 1 ≠ g9 := by have := R5.out.lt; omega
    refine bodyPost_ret (v := .tuple #[.agg #[.int .i64 n, .int .i64 C, .slice (some ⟨g9, 0, none⟩) P c9], .bool true]) (by simp [results, Try.results33, go_sem, E0, E1, E2]) rfl ?_
    refine ⟨.slice (some ⟨g9, 0, none⟩) P c9, rfl, .inr ⟨g9, c9, by show Value.slice _ P c9 = .slice _ (s.1.take P).length c9; rw [TL.out], by omega, ((hi9.far (a := ⟨w.heap.size + 1, 0, none⟩) (Ne.symm gne) _).far (a := ⟨w.heap.size + 1, 1, none⟩) (Ne.symm gne) _).far (a := ⟨w.heap.size + 1, 2, none⟩) (Ne.symm gne) _, by rw [TL.out]; exact hc9, by rw [TL.out]; omega⟩, ?_⟩
    exact ((B9.out.setCell (by show w.heap.size ≤ w.heap.size + 1; omega) _).setCell (by show w.heap.size ≤ w.heap.size + 1; omega) _).setCell (by show w.heap.size ≤ w.heap.size + 1; omega) _
end Go.Proofs.Ytpelnfenfeoeeaa
end

section
/-
  Chapter 12, in the program: rows divided until one alone has something in a column (the method leave).
-/
namespace Go.Proofs.Ytpelnfenfeoeeaa
set_option maxRecDepth 100000
open Go.RowKit

/-! ### What is bad stays bad -/
theorem rnd_bad {R C p j t : Nat} {s : HSt} (h : Siz R C s) (hp : p < R) {n : Nat} (ho : okS (rndF R C p j t s n) = false) : ∀ m, t + n + m ≤ R → okS (rndF R C p j t s (n + m)) = false
  | 0, _ => ho
  | m + 1, hm => by
    cases hc : okS (rndF R C p j t s (n + (m + 1))) with
    | false => rfl
    | true =>
      have h1 : okS (rndF R C p j t s (n + m)) = true := rndF_back (n := n + m) h hp (by show t + (n + m) < R; omega) hc
      rw [rnd_bad h hp ho m (by omega)] at h1
      cases h1
theorem rnd_op {R C p j t n : Nat} {s : HSt} (h : Siz R C s) (hj : j < C) (hp : p < R) (hn : t + n < R) (h1 : t + n ≠ p) (ho : okS (rndF R C p j t s n) = true) :
    op2 R C 2 (t + n) p (-(celS C (rndF R C p j t s n) (t + n) j / celS C (rndF R C p j t s n) p j)) (rndF R C p j t s n) = rndF R C p j t s (n + 1) := by
  have e := (rndF_keep (p := p) (t := t) h hj n (by omega)).2 (t + n) hn (Nat.le_refl _)
  have e2 := (rndF_keep (p := p) (t := t) h hj n (by omega)).1 hp
  rw [e, e2]
  by_cases h2 : celS C s (t + n) j = 0
  · rw [rnd_skip h hj hn (.inr h2), h2, Int.zero_ediv]
    exact op2_none ho
  · exact (rnd_do h hj hp hn h1 h2).symm
theorem up_bad {R C j t : Nat} {s : HSt} (h : Siz R C s) (ht : t < R) {n : Nat} (ho : okS (upF R C j t s n) = false) : ∀ m, n + m ≤ R → okS (upF R C j t s (n + m)) = false
  | 0, _ => ho
  | m + 1, hm => by
    cases hc : okS (upF R C j t s (n + (m + 1))) with
    | false => rfl
    | true =>
      have h1 : okS (upF R C j t s (n + m)) = true := okS_back (I := n + m) (upF_siz h (n + m)) (by show n + m < R; omega) ht hc
      rw [up_bad h ht ho m (by omega)] at h1
      cases h1
/-! ### What the rounds keep -/
structure LvM (R C na nu bf ba B : Nat) (w : World) (s : HSt) (wq : World) : Prop where
  ac : AcW R C na nu bf ba B s wq
  pt : Blk2 wq w.heap.size 93 (.pointer (some ⟨bf, 0, none⟩)) (.pointer (some ⟨ba, 0, none⟩))
  fr : FrS (fun b => b = bf ∨ b = ba) w wq
theorem LvM.step {R C na nu bf ba B : Nat} {w : World} {s : HSt} {wq w' : World} (h : LvM R C na nu bf ba B w s wq) (hb : Below wq.heap.size wq w') : LvM R C na nu bf ba B w s w' :=
  ⟨h.ac.step hb, h.pt.keep hb h.pt.lt, h.fr.trans (FrS.of_below hb)⟩
theorem LvM.next {R C na nu bf ba B : Nat} {k : Int} {I J : Nat} {z : Int} {w : World} {s : HSt} {wq w' : World} {e : Ending} (h : LvM R C na nu bf ba B w s wq) (hd : DoRes R C na nu bf ba B k I J z s wq e w') (l1 : bf < w.heap.size) (l2 : ba < w.heap.size) (ho : okS (op2 R C k I J z s) = true) : LvM R C na nu bf ba B w (op2 R C k I J z s) w' :=
  ⟨hd.2.2 ho, (hd.2.1.block _ h.pt.lt (by omega)).trans h.pt, h.fr.trans hd.2.1⟩
theorem LvM.start {R C na nu bf ba B : Nat} {w : World} {s : HSt} (h : AcW R C na nu bf ba B s w) : LvM R C na nu bf ba B w s (w.alloc (.cells #[.pointer (some ⟨bf, 0, none⟩), .pointer (some ⟨ba, 0, none⟩)] 93)) :=
  ⟨h.step ((Below.refl _ _).alloc (Nat.le_refl _) _), Blk2.at_ _ _ _ rfl, (FrS.refl _ _).alloc _⟩
/-- What leave answers. -/
def LvRes (R C na nu bf ba B : Nat) (o : Option (HSt × Nat)) (w : World) (e : Ending) (w' : World) : Prop :=
  FrS (fun b => b = bf ∨ b = ba) w w' ∧ ((∃ s1 p1, o = some (s1, p1) ∧ e = .returned (.tuple #[.int .i64 (p1 : Nat), .bool true]) ∧ AcW R C na nu bf ba B s1 w') ∨ (o = none ∧ e = .returned (.tuple #[.int .i64 0, .bool false])))
set_option maxHeartbeats 8000000 in
theorem iLeave (R C na nu bf ba B t j p : Nat) (s : HSt) (q : Nat → Nat) (M : Mx) (w : World) (h : AcW R C na nu bf ba B s w) (hR : R ≤ 24) (hC : C ≤ 24) (hna : na = R * C) (hnu : nu = R * R) (hB : B ≤ w.heap.size) (hF : Fin2 R C M s) (hIv : HInv R C (mxC C s.1) q t j) (ht : t < R) (hj : j < C) (hL : LeastP R C j t s p) :
    Calls Try.prog 140 #[.agg #[.pointer (some ⟨bf, 0, none⟩), .pointer (some ⟨ba, 0, none⟩)], .int .i64 t, .int .i64 j] w (LvRes R C na nu bf ba B (loopF R C j t ((celS C s p j).natAbs + 1) s p) w) := by
  have HL := Lib.hid h.lt
  have LE : Hid (∀ (s1 : HSt) wq qa qu ma mu, AcV R C na nu bf ba B s1 qa qu ma mu wq → okS s1 = true → Calls Try.prog 161 #[.agg #[.int .i64 R, .int .i64 C, .slice qa na ma], .int .i64 t, .int .i64 j] wq (Gives (.int .i64 (leastS R C j t s1)) wq)) := fun s1 wq qa qu ma mu h1 h2 => iLeast R C qa na ma j t s1 wq h1.rd h1.fA.celA h1.lf hna hR hC hj (by omega) (okS_and h2).1
  have AL : Hid (∀ (s1 : HSt) wq qa qu ma mu (p1 : Nat), AcV R C na nu bf ba B s1 qa qu ma mu wq → Calls Try.prog 152 #[.agg #[.int .i64 R, .int .i64 C, .slice qa na ma], .int .i64 t, .int .i64 p1, .int .i64 j] wq (Gives (.bool (aloneB R C p1 j t s1)) wq)) := fun s1 wq qa qu ma mu p1 h1 => iAloneF R C na t p1 j qa ma s1.1 wq h1.rd h1.lf hna hR hC hj (by omega) _ ⟨fun e k h2 h3 h4 => aloneB_says e h3 h2 h4, fun e => aloneB_true fun i h2 h3 h4 => e i h3 h2 h4⟩
  have DV : Hid (∀ (s1 : HSt) wq (i p1 : Nat), AcW R C na nu bf ba B s1 wq → w.heap.size ≤ wq.heap.size → Siz R C s1 → okS s1 = true → i < R → p1 < R → i ≠ p1 → celS C s1 p1 j ≠ 0 → Calls Try.prog 142 #[.agg #[.pointer (some ⟨bf, 0, none⟩), .pointer (some ⟨ba, 0, none⟩)], .int .i64 i, .int .i64 p1, .int .i64 j] wq (DoRes R C na nu bf ba B 2 i p1 (-(celS C s1 i j / celS C s1 p1 j)) s1 wq)) := fun s1 wq i p1 h1 h2 h3 h4 h5 h6 h7 h8 => iDivide R C na nu bf ba B i p1 j s1 wq h1 hR hC hna hnu (by omega) h3 h4 h5 h6 h7 hj h8
  have W0 := Lib.hid (LvM.start h)
  have FN := Lib.hid hF
  have IN := Lib.hid hIv
  have LP := Lib.hid hL
  have hl1 := hL.1
  obtain ⟨f0, hf0⟩ : ∃ f0, (celS C s p j).natAbs + 1 = f0 := ⟨_, rfl⟩
  have FU : Hid (Fuel R C j t f0 s p) := by rw [← hf0]; exact Fuel.start R C j t s p
  rw [hf0]
  obtain ⟨LF, hLF⟩ : ∃ LF, loopF R C j t f0 s p = LF := ⟨_, rfl⟩
  rw [hLF]
  have EL0 := Lib.hid hLF
  have EP := Lib.hid hl1
  clear h hF hIv hL hf0 hLF hl1 hna hnu hB
  go_enter Try.func140, Try.ntmps140
  go_upto_region 1 with fail
  generalize w.alloc (.cells #[.pointer (some ⟨bf, 0, none⟩), .pointer (some ⟨ba, 0, none⟩)] 93) = W1 at W0 ⊢
  obtain ⟨qa, qu, ma, mu, hV⟩ := W0.out.ac
  obtain ⟨a0, a1, -, -⟩ := W0.out.pt.all
  obtain ⟨b0, b1, b2, -, -, -⟩ := hV.kf.all
  have LE1 := Lib.hid (LE.out s W1 qa qu ma mu hV FN.out.ok)
  rw [EP.out] at LE1
  clear hV
  go_wp2_with fail
  refine LE1.out.mono ?_
  rintro e w2 ⟨rfl, hb⟩
  have W2 := Lib.hid (W0.out.step hb)
  clear hb LE1 a0 a1 b0 b1 b2 W0
  go_wp2_with fail
  go_loopg [6, 7, 8, 9] f0 (fun gk _ _ v8 _ wq => ∃ (s1 : HSt) (p1 : Nat), v8 = .int .i64 p1 ∧ Fuel R C j t gk s1 p1 ∧ loopF R C j t gk s1 p1 = LF ∧ Fin2 R C M s1 ∧ HInv R C (mxC C s1.1) q t j ∧ t ≤ p1 ∧ p1 < R ∧ celS C s1 p1 j ≠ 0 ∧ LvM R C na nu bf ba B w s1 wq)
  case atStart => exact ⟨s, p, rfl, FU.out, EL0.out, FN.out, IN.out, LP.out.2.1, LP.out.2.2.1, LP.out.2.2.2.1, W2.out⟩
  case round =>
    clear FU W2 EL0 EP LP FN IN
    obtain ⟨s1, p1, rfl, hfu, hlf, hF, hI, htp, hpR, hpz, hW⟩ := hrel
    have FU := Lib.hid hfu
    have EL := Lib.hid hlf
    have FN := Lib.hid hF
    have IN := Lib.hid hI
    have PZ := Lib.hid hpz
    have WS := Lib.hid hW
    clear hfu hlf hF hI hpz hW
    obtain ⟨qa, qu, ma, mu, hV⟩ := WS.out.ac
    obtain ⟨a0, a1, -, -⟩ := WS.out.pt.all
    obtain ⟨b0, b1, b2, -, -, -⟩ := hV.kf.all
    have AL1 := Lib.hid (AL.out s1 wr qa qu ma mu p1 hV)
    obtain ⟨al, hal⟩ : ∃ al, aloneB R C p1 j t s1 = al := ⟨_, rfl⟩
    rw [hal] at AL1
    have HAL := Lib.hid hal
    clear hal hV
    go_wp2_with fail
    refine AL1.out.mono ?_
    rintro e w4 ⟨rfl, hb⟩
    have W4 := Lib.hid (WS.out.step hb)
    clear hb AL1 WS a0 a1 b0 b1 b2
    cases al with
    | true =>
      have V : Hid (LF = some (s1, p1)) := by refine Lib.hid ?_; rw [← EL.out]; exact loopF_alone FU.out.1 HAL.out
      go_wp2_with fail
      go_ret2
      exact ⟨W4.out.fr, .inl ⟨s1, p1, V.out, rfl, W4.out.ac⟩⟩
    | false =>
      obtain ⟨f, rfl⟩ : ∃ f, gk = f + 1 := ⟨gk - 1, by have := FU.out.1; omega⟩
      have R0 : Hid (rndF R C p1 j t s1 0 = s1) := rfl
      have RA : Hid (rndF R C p1 j t s1 (R - t) = rndA R C p1 j t s1) := rfl
      go_wp2_with fail
      go_loopw [6, 7, 9] (fun _ _ v9 wq => ∃ n : Nat, v9 = .int .i64 ((t + n : Nat) : Int) ∧ t + n ≤ R ∧ okS (rndF R C p1 j t s1 n) = true ∧ LvM R C na nu bf ba B w (rndF R C p1 j t s1 n) wq) (fun _ _ v9 _ => R - (intOf v9).toNat)
      case atStart => exact ⟨0, rfl, by omega, FN.out.ok, W4.out⟩
      case round =>
        clear W4
        obtain ⟨n, rfl, hn, hok, hW⟩ := hrel
        have WR := Lib.hid hW
        have OK := Lib.hid hok
        clear hW hok
        obtain ⟨qa, qu, ma, mu, hV⟩ := WR.out.ac
        obtain ⟨a0, a1, -, -⟩ := WR.out.pt.all
        obtain ⟨b0, b1, b2, -, -, -⟩ := hV.kf.all
        clear hV
        by_cases hlt : t + n < R
        · by_cases hip : t + n = p1
          · have n1 : (((t + n : Nat) : Int) != (p1 : Int)) = false := by simp [hip]
            have ES := Lib.hid (rnd_skip (p := p1) FN.out.siz hj hlt (.inl hip))
            obtain ⟨T, hT⟩ : ∃ T, t + n = T := ⟨_, rfl⟩
            rw [hT] at n1 hlt ⊢
            have ET := Lib.hid hT
            clear hip hT
            go_wp2_with fail
            go_roundw
            case rel => exact ⟨n + 1, by rw [← ET.out]; go_num, by have := ET.out; omega, by rw [ES.out]; exact OK.out, by rw [ES.out]; exact WR.out⟩
            case measure => simp [intOf]; have := ET.out; omega
          · have n1 : (((t + n : Nat) : Int) != (p1 : Int)) = true := by simp; omega
            have SZ := rndF_siz (p := p1) (j := j) (t := t) FN.out.siz n
            have KP := (rndF_keep (p := p1) (t := t) FN.out.siz hj n (by omega)).1 hpR
            have DV1 := Lib.hid (DV.out (rndF R C p1 j t s1 n) wr (t + n) p1 WR.out.ac WR.out.fr.size SZ OK.out hlt hpR hip (by rw [KP]; exact PZ.out))
            have ES := Lib.hid (rnd_op FN.out.siz hj hpR hlt hip OK.out)
            have RB := Lib.hid (fun (h9 : okS (rndF R C p1 j t s1 (n + 1)) = false) => rnd_bad FN.out.siz hpR h9 (R - t - (n + 1)) (by omega))
            have NX : Hid (∀ e w5, DoRes R C na nu bf ba B 2 (t + n) p1 (-(celS C (rndF R C p1 j t s1 n) (t + n) j / celS C (rndF R C p1 j t s1 n) p1 j)) (rndF R C p1 j t s1 n) wr e w5 → e = .returned (.bool (okS (rndF R C p1 j t s1 (n + 1)))) ∧ FrS (fun b => b = bf ∨ b = ba) w w5 ∧ (okS (rndF R C p1 j t s1 (n + 1)) = true → LvM R C na nu bf ba B w (rndF R C p1 j t s1 (n + 1)) w5)) := fun e w5 hd => by
              have hd1 := hd.1
              rw [ES.out] at hd1
              refine ⟨hd1, WR.out.fr.trans hd.2.1, fun h9 => ?_⟩
              have := WR.out.next hd HL.out.1 HL.out.2 (by rw [ES.out]; exact h9)
              rw [ES.out] at this
              exact this
            have EN : n + 1 + (R - t - (n + 1)) = R - t := by omega
            rw [EN] at RB
            obtain ⟨T, hT⟩ : ∃ T, t + n = T := ⟨_, rfl⟩
            rw [hT] at n1 hlt DV1 NX ⊢
            have ET := Lib.hid hT
            clear hip hT SZ KP ES EN
            go_wp2_with fail
            refine DV1.out.mono ?_
            rintro e w5 hd
            obtain ⟨rfl, hf5, h5⟩ := NX.out e w5 hd
            have F5 := Lib.hid hf5
            have H5 := Lib.hid h5
            clear hd hf5 h5 DV1 NX a0 a1 b0 b1 b2
            cases ho : okS (rndF R C p1 j t s1 (n + 1)) with
            | true =>
              have O5 := Lib.hid ho
              have W5 := Lib.hid (H5.out ho)
              clear ho
              go_wp2_with fail
              go_roundw
              case rel => exact ⟨n + 1, by rw [← ET.out]; go_num, by have := ET.out; omega, O5.out, W5.out⟩
              case measure => simp [intOf]; have := ET.out; omega
            | false =>
              have V : Hid (LF = none) := by refine Lib.hid ?_; rw [← EL.out]; exact loopF_bad HAL.out (by rw [← RA.out]; exact RB.out ho)
              clear ho
              go_wp2_with fail
              go_ret2
              exact ⟨F5.out, .inr ⟨V.out, rfl⟩⟩
        · obtain rfl : n = R - t := by omega
          have OA := OK.out
          rw [RA.out] at OA
          have WA := WR.out
          rw [RA.out] at WA
          obtain ⟨g1, g2, p2, hL2, hF2⟩ := loop_next FN.out IN.out hj hpR htp PZ.out HAL.out FU.out OA
          have E2 := Lib.hid (loopF_step (f := f) HAL.out OA hL2.1)
          have W5 := Lib.hid WA
          have G1 := Lib.hid g1
          have G2 := Lib.hid g2
          have L2 := Lib.hid hL2
          have FU2 := Lib.hid hF2
          have PE := Lib.hid hL2.1
          clear OA WA g1 g2 hL2 hF2 OK WR a0 a1 b0 b1 b2 R0 RA
          generalize rndA R C p1 j t s1 = s2 at G1 G2 L2 FU2 PE E2 W5
          obtain ⟨qa, qu, ma, mu, hV⟩ := W5.out.ac
          obtain ⟨a0, a1, -, -⟩ := W5.out.pt.all
          obtain ⟨b0, b1, b2, -, -, -⟩ := hV.kf.all
          have LE1 := Lib.hid (LE.out s2 wr qa qu ma mu hV G1.out.ok)
          rw [PE.out] at LE1
          have nlt : Hid (¬ t + (R - t) < R) := hlt
          obtain ⟨T, hT⟩ : ∃ T, t + (R - t) = T := ⟨_, rfl⟩
          rw [hT] at hlt ⊢
          clear hV hT nlt
          go_wp2_with fail
          refine LE1.out.mono ?_
          rintro e w6 ⟨rfl, hb⟩
          have W6 := Lib.hid (W5.out.step hb)
          clear hb LE1 W5 a0 a1 b0 b1 b2
          go_wp2_with fail
          go_roundg f
          case rel => exact ⟨s2, p2, rfl, FU2.out, by rw [← E2.out]; exact EL.out, G1.out, G2.out, L2.out.2.1, L2.out.2.2.1, L2.out.2.2.2.1, W6.out⟩
          case measure => omega
end Go.Proofs.Ytpelnfenfeoeeaa
end

section
/-
  Chapter 12, in the program: a pivot is made (the method makePivot).
-/
namespace Go.Proofs.Ytpelnfenfeoeeaa
set_option maxRecDepth 100000
open Go.RowKit

/-- What makePivot answers. -/
def PvRes (R C na nu bf ba B t : Nat) (o : Option (HSt × Nat)) (w : World) (e : Ending) (w' : World) : Prop :=
  FrS (fun b => b = bf ∨ b = ba) w w' ∧ ((∃ s1, o = some (s1, t + 1) ∧ e = .returned (.bool true) ∧ AcW R C na nu bf ba B s1 w') ∨ (o = none ∧ e = .returned (.bool false)))
set_option maxHeartbeats 8000000 in
theorem iPivot (R C na nu bf ba B t j p : Nat) (s : HSt) (q : Nat → Nat) (M : Mx) (w : World) (h : AcW R C na nu bf ba B s w) (hR : R ≤ 24) (hC : C ≤ 24) (hna : na = R * C) (hnu : nu = R * R) (hB : B ≤ w.heap.size) (hF : Fin2 R C M s) (hIv : HInv R C (mxC C s.1) q t j) (ht : t < R) (hj : j < C) (hL : LeastP R C j t s p) :
    Calls Try.prog 90 #[.agg #[.pointer (some ⟨bf, 0, none⟩), .pointer (some ⟨ba, 0, none⟩)], .int .i64 t, .int .i64 j] w (PvRes R C na nu bf ba B t (colF R C j t s) w) := by
  have hle : R * C ≤ 24 * 24 := Nat.mul_le_mul hR hC
  have HL := Lib.hid h.lt
  have LV : Hid (∀ w', AcW R C na nu bf ba B s w' → w.heap.size ≤ w'.heap.size → Calls Try.prog 140 #[.agg #[.pointer (some ⟨bf, 0, none⟩), .pointer (some ⟨ba, 0, none⟩)], .int .i64 t, .int .i64 j] w' (LvRes R C na nu bf ba B (loopF R C j t ((celS C s p j).natAbs + 1) s p) w')) := fun w' h1 h2 => iLeave R C na nu bf ba B t j p s q M w' h1 hR hC hna hnu (by omega) hF hIv ht hj hL
  have DO : Hid (∀ (s1 : HSt) wq (k z : Int) (I J : Nat), AcW R C na nu bf ba B s1 wq → w.heap.size ≤ wq.heap.size → Siz R C s1 → okS s1 = true → isOp k I J z R = true → Calls Try.prog 141 #[.agg #[.pointer (some ⟨bf, 0, none⟩), .pointer (some ⟨ba, 0, none⟩)], .agg #[.int .i64 k, .int .i64 I, .int .i64 J, .int .i64 z]] wq (DoRes R C na nu bf ba B k I J z s1 wq)) := fun s1 wq k z I J h1 h2 h3 h4 h5 => iDo R C na nu bf ba B I J k z s1 wq h1 hR hC hna hnu (by omega) h3 h4 h5
  have DV : Hid (∀ (s1 : HSt) wq (i : Nat), AcW R C na nu bf ba B s1 wq → w.heap.size ≤ wq.heap.size → Siz R C s1 → okS s1 = true → i < t → celS C s1 t j ≠ 0 → Calls Try.prog 142 #[.agg #[.pointer (some ⟨bf, 0, none⟩), .pointer (some ⟨ba, 0, none⟩)], .int .i64 i, .int .i64 t, .int .i64 j] wq (DoRes R C na nu bf ba B 2 i t (-(celS C s1 i j / celS C s1 t j)) s1 wq)) := fun s1 wq i h1 h2 h3 h4 h5 h8 => iDivide R C na nu bf ba B i t j s1 wq h1 hR hC hna hnu (by omega) h3 h4 (by omega) ht (by omega) hj h8
  have RW : Hid (∀ (s1 : HSt) wq qa qu ma mu, AcV R C na nu bf ba B s1 qa qu ma mu wq → Calls Try.prog 83 #[.agg #[.int .i64 R, .int .i64 C, .slice qa na ma], .int .i64 t] wq (fun e w2 => ∃ g o m', e = .returned (.slice (some ⟨g, o, none⟩) C m') ∧ w2.cell? ⟨g, o + j, none⟩ = some (.int .i64 (celS C s1 t j)) ∧ Below wq.heap.size wq w2)) := fun s1 wq qa qu ma mu h1 => by
    refine (iRowIn R C t (t * C) na ma qa wq h1.fA.celA.spot rfl (by rw [hna, ← Nat.succ_mul]; exact Nat.mul_le_mul_right _ ht) h1.fA.celA.le h1.fA.celA.nil (by omega) (by omega)).mono ?_
    rintro e w2 ⟨q', m', rfl, -, h2, -, h3⟩
    obtain ⟨g, o, h4, h5⟩ := (h1.step h3).rd (t * C + j) (by rw [h1.lf, hna]; exact idx_lt ht hj)
    refine ⟨g, o + t * C, m', by rw [h2 g o h4 (by omega)], by rw [Nat.add_assoc]; exact h5, h3⟩
  have IS : Hid (∀ p1 : Nat, p1 < R → p1 ≠ t → isOp 0 p1 t 0 R = true) := fun p1 h1 h2 => isOp_swap hR h1 ht h2
  have IG := Lib.hid (isOp_neg hR ht)
  have W0 := Lib.hid (LvM.start h)
  have FN := Lib.hid hF
  have IN := Lib.hid hIv
  have LP := Lib.hid hL
  obtain ⟨LF, hLF⟩ : ∃ LF, loopF R C j t ((celS C s p j).natAbs + 1) s p = LF := ⟨_, rfl⟩
  have CN : Hid (LF = none → colF R C j t s = none) := fun h9 => col_none hL.1 (by rw [hLF, h9])
  have CB : Hid (∀ s1 p1, LF = some (s1, p1) → okS (pvS R C j t p1 s1) = false → colF R C j t s = none) := fun s1 p1 h9 ho => col_bad hL.1 (by rw [hLF, h9]) ho
  have CO : Hid (∀ s1 p1, LF = some (s1, p1) → okS (pvS R C j t p1 s1) = true → colF R C j t s = some (pvS R C j t p1 s1, t + 1)) := fun s1 p1 h9 ho => col_ok hL.1 (by rw [hLF, h9]) ho
  have CS : Hid (∀ s1 p1, LF = some (s1, p1) → Fin2 R C M s1 ∧ HInv R C (mxC C s1.1) q t j ∧ p1 < R ∧ t ≤ p1 ∧ celS C s1 p1 j ≠ 0 ∧ aloneB R C p1 j t s1 = true) := fun s1 p1 h9 => loopF_says hj _ s p hF hIv hL.2.2.1 hL.2.1 hL.2.2.2.1 (by rw [hLF, h9])
  rw [hLF] at LV
  have c1 : (0 : Int) ≤ (j : Int) := by omega
  have c2 : (j : Int) < (C : Int) := by omega
  obtain ⟨X, hX⟩ : ∃ X, colF R C j t s = X := ⟨_, rfl⟩
  rw [hX] at CN CB CO ⊢
  clear h hF hIv hL hLF hX hna hnu hB hle
  go_enter Try.func90, Try.ntmps90
  go_upto_region 1 with fail
  generalize w.alloc (.cells #[.pointer (some ⟨bf, 0, none⟩), .pointer (some ⟨ba, 0, none⟩)] 93) = W1 at W0 ⊢
  obtain ⟨a0, a1, -, -⟩ := W0.out.pt.all
  have LV1 := Lib.hid (LV.out W1 W0.out.ac W0.out.fr.size)
  go_wp2_with fail
  refine LV1.out.mono ?_
  rintro e w2 ⟨hf, hr⟩
  have F2 := Lib.hid (W0.out.fr.trans hf)
  have P2 : Hid (Blk2 w2 w.heap.size 93 (.pointer (some ⟨bf, 0, none⟩)) (.pointer (some ⟨ba, 0, none⟩))) := (hf.block _ W0.out.pt.lt (by have := HL.out.1; have := HL.out.2; omega)).trans W0.out.pt
  clear hf LV1 LV W0 a0 a1
  rcases hr with ⟨s1, p1, hs, rfl, hA⟩ | ⟨hs, rfl⟩
  rotate_left
  · have V := Lib.hid (CN.out hs)
    clear hs
    go_wp2_with fail
    go_ret
    exact ⟨F2.out, .inr ⟨V.out, rfl⟩⟩
  obtain ⟨g1, g2, hpR, htp, g5, g6⟩ := CS.out s1 p1 hs
  have W2 : Hid (LvM R C na nu bf ba B w s1 w2) := ⟨hA, P2.out, F2.out⟩
  have O0 := Lib.hid g1.ok
  have O1 := Lib.hid (ok_sw (C := C) (R := R) (p := p1) (t := t) g1.ok)
  obtain ⟨F1, I1, Z1, Y1⟩ := swS_says g1 g2 hj hpR htp g5 g6 O1.out
  have O2 := Lib.hid (ok_ng (R := R) (C := C) (j := j) (t := t) O1.out)
  obtain ⟨F2', I2, Z2, Y2⟩ := ngS_says F1 I1 hj ht Z1 Y1 O2.out
  have SZ0 := Lib.hid g1.siz
  have SZ1 := Lib.hid F1.siz
  have SZ2 := Lib.hid F2'.siz
  have SW1 : Hid (p1 ≠ t → op2 R C 0 p1 t 0 s1 = swS R C p1 t s1) := fun h => by unfold swS; rw [if_pos h]
  have SW2 : Hid (p1 = t → s1 = swS R C p1 t s1) := fun h => by unfold swS; rw [if_neg (fun h2 => h2 h)]
  have NG1 : Hid (celS C (swS R C p1 t s1) t j < 0 → op2 R C 1 t t 0 (swS R C p1 t s1) = ngS R C j t (swS R C p1 t s1)) := fun h => by unfold ngS; rw [if_pos h]
  have NG2 : Hid (¬ celS C (swS R C p1 t s1) t j < 0 → swS R C p1 t s1 = ngS R C j t (swS R C p1 t s1)) := fun h => by unfold ngS; rw [if_neg h]
  have ZG := Lib.hid Z2
  have PV : Hid (pvS R C j t p1 s1 = upF R C j t (ngS R C j t (swS R C p1 t s1)) t) := rfl
  have CB1 := Lib.hid (CB.out s1 p1 hs)
  have CO1 := Lib.hid (CO.out s1 p1 hs)
  rw [PV.out] at CB1 CO1
  clear F1 I1 Z1 Y1 F2' I2 Z2 Y2 PV CB CO CS CN g1 g2 g5 g6 hs hA F2 P2 LP FN IN
  generalize ngS R C j t (swS R C p1 t s1) = st2 at NG1 NG2 ZG CB1 CO1 SZ2 O2
  generalize swS R C p1 t s1 = st1 at SZ1 SW1 SW2 NG1 NG2 O1
  go_upto_region 4 with fail
  go_cut [29] from 19 to 28 (fun v29 wx => v29 = .bool false ∧ LvM R C na nu bf ba B w st1 wx)
  case first =>
    by_cases hpt : p1 = t
    · have n2 : ((p1 : Int) != (t : Int)) = false := by simp [hpt]
      have S2 : Hid (LvM R C na nu bf ba B w st1 w2) := by refine Lib.hid ?_; rw [← SW2.out hpt]; exact W2.out
      clear hpt
      go_wp2_with fail
      go_meet
      exact ⟨rfl, S2.out⟩
    · have n2 : ((p1 : Int) != (t : Int)) = true := by simp; omega
      have OPN := Lib.hid (DO.out s1 w2 0 0 p1 t W2.out.ac W2.out.fr.size SZ0.out O0.out (IS.out p1 hpR hpt))
      have NX := Lib.hid (fun e w5 (hd : DoRes R C na nu bf ba B 0 p1 t 0 s1 w2 e w5) => And.intro hd.1 (fun h9 => W2.out.next hd HL.out.1 HL.out.2 h9))
      rw [SW1.out hpt] at NX
      obtain ⟨a0, a1, -, -⟩ := W2.out.pt.all
      clear hpt
      go_wp2_with fail
      refine OPN.out.mono ?_
      rintro e w5 hd
      obtain ⟨rfl, h5⟩ := NX.out e w5 hd
      rw [O1.out]
      have W5 := Lib.hid (h5 O1.out)
      clear hd h5 a0 a1 NX OPN
      go_wp2_with fail
      go_meet
      exact ⟨rfl, W5.out⟩
  case rest =>
    obtain ⟨rfl, hW⟩ := hcut
    have WA := Lib.hid hW
    clear hW W2 SW1 SW2 SZ0 O0 IS
    rename World => wa
    go_upto_region 6 with fail
    go_cut [47] from 30 to 46 (fun v47 wx => v47 = .bool false ∧ LvM R C na nu bf ba B w st2 wx)
    case first =>
      obtain ⟨qa, qu, ma, mu, hV⟩ := WA.out.ac
      obtain ⟨a0, a1, -, -⟩ := WA.out.pt.all
      obtain ⟨b0, b1, b2, -, -, -⟩ := hV.kf.all
      have RW1 := Lib.hid (RW.out st1 wa qa qu ma mu hV)
      clear hV
      obtain ⟨x, hx⟩ : ∃ x, celS C st1 t j = x := ⟨_, rfl⟩
      rw [hx] at RW1 NG1 NG2
      clear hx
      by_cases hx0 : x < 0
      · have n2 : decide (x < 0) = true := decide_eq_true hx0
        have NG := NG1.out hx0
        clear hx0
        go_wp2_with fail
        refine RW1.out.mono ?_
        rintro e w5 ⟨g, o, m', rfl, hc, hb⟩
        have W5 := Lib.hid (WA.out.step hb)
        have OPN := Lib.hid (DO.out st1 w5 1 0 t t W5.out.ac W5.out.fr.size SZ1.out O1.out IG.out)
        have NX := Lib.hid (fun e w6 (hd : DoRes R C na nu bf ba B 1 t t 0 st1 w5 e w6) => And.intro hd.1 (fun h9 => W5.out.next hd HL.out.1 HL.out.2 h9))
        rw [NG] at NX
        clear hb RW1 a0 a1 b0 b1 b2 WA NG
        obtain ⟨a0, a1, -, -⟩ := W5.out.pt.all
        go_wp2_with fail
        refine OPN.out.mono ?_
        rintro e w6 hd
        obtain ⟨rfl, h6⟩ := NX.out e w6 hd
        rw [O2.out]
        have W6 := Lib.hid (h6 O2.out)
        clear hd h6 a0 a1 NX OPN hc
        go_wp2_with fail
        go_meet
        exact ⟨rfl, W6.out⟩
      · have n2 : decide (x < 0) = false := decide_eq_false hx0
        have S2 := NG2.out (by omega)
        clear hx0
        go_wp2_with fail
        refine RW1.out.mono ?_
        rintro e w5 ⟨g, o, m', rfl, hc, hb⟩
        have W5 : Hid (LvM R C na nu bf ba B w st2 w5) := by refine Lib.hid ?_; rw [← S2]; exact WA.out.step hb
        clear hb RW1 a0 a1 b0 b1 b2 S2
        go_wp2_with fail
        go_meet
        exact ⟨rfl, W5.out⟩
    case rest =>
      obtain ⟨rfl, hW⟩ := hcut
      have WB := Lib.hid hW
      clear hW WA NG1 NG2 SZ1 O1 IG RW DO
      go_wp2_with fail
      go_loopw [6, 9, 49] (fun _ _ v49 wq => ∃ n : Nat, v49 = .int .i64 n ∧ n ≤ t ∧ okS (upF R C j t st2 n) = true ∧ LvM R C na nu bf ba B w (upF R C j t st2 n) wq) (fun _ _ v49 _ => t - (intOf v49).toNat)
      case atStart => exact ⟨0, rfl, Nat.zero_le _, O2.out, WB.out⟩
      case round =>
        clear WB
        obtain ⟨n, rfl, hn, hok, hW⟩ := hrel
        have WR := Lib.hid hW
        have OK := Lib.hid hok
        clear hW hok
        by_cases hlt : n < t
        · have KP := (upF_keep SZ2.out hj ht n hn).1
          have SZ := upF_siz (j := j) (t := t) SZ2.out n
          have DV1 := Lib.hid (DV.out (upF R C j t st2 n) wr n WR.out.ac WR.out.fr.size SZ OK.out hlt (by rw [KP]; have := ZG.out; omega))
          have RB := Lib.hid (fun (h9 : okS (upF R C j t st2 (n + 1)) = false) => up_bad SZ2.out ht h9 (t - (n + 1)) (by omega))
          have NX : Hid (∀ e w5, DoRes R C na nu bf ba B 2 n t (-(celS C (upF R C j t st2 n) n j / celS C (upF R C j t st2 n) t j)) (upF R C j t st2 n) wr e w5 → e = .returned (.bool (okS (upF R C j t st2 (n + 1)))) ∧ FrS (fun b => b = bf ∨ b = ba) w w5 ∧ (okS (upF R C j t st2 (n + 1)) = true → LvM R C na nu bf ba B w (upF R C j t st2 (n + 1)) w5)) := fun e w5 hd => ⟨hd.1, WR.out.fr.trans hd.2.1, fun h9 => WR.out.next hd HL.out.1 HL.out.2 h9⟩
          have EN : n + 1 + (t - (n + 1)) = t := by omega
          rw [EN] at RB
          obtain ⟨a0, a1, -, -⟩ := WR.out.pt.all
          clear SZ KP EN
          go_wp2_with fail
          refine DV1.out.mono ?_
          rintro e w5 hd
          obtain ⟨rfl, hf5, h5⟩ := NX.out e w5 hd
          have F5 := Lib.hid hf5
          have H5 := Lib.hid h5
          clear hd hf5 h5 DV1 NX a0 a1
          cases ho : okS (upF R C j t st2 (n + 1)) with
          | true =>
            have O5 := Lib.hid ho
            have W5 := Lib.hid (H5.out ho)
            clear ho
            go_wp2_with fail
            go_roundw
            case rel => exact ⟨n + 1, by go_num, by omega, O5.out, W5.out⟩
            case measure => simp [intOf]; omega
          | false =>
            have V := Lib.hid (CB1.out (RB.out ho))
            clear ho
            go_wp2_with fail
            go_ret
            exact ⟨F5.out, .inr ⟨V.out, rfl⟩⟩
        · obtain rfl : n = t := by omega
          have V := Lib.hid (CO1.out OK.out)
          clear hlt
          go_wp2_with fail
          go_ret
          exact ⟨WR.out.fr, .inl ⟨_, V.out, rfl, WR.out.ac⟩⟩
end Go.Proofs.Ytpelnfenfeoeeaa
end

section
/-
  Chapter 7, in the program: a row made primitive (the closure of EchelonOf).
-/
namespace Go.Proofs.Ytpelnfenfeoeeaa
set_option maxRecDepth 100000
open Go.RowKit

/-- The cells of a matrix: nil, or all of what shows in block g. -/
def Cel (w : World) (q : Option Addr) (N cap g : Nat) (xs : List Int) : Prop := (q = none ∧ cap = 0 ∧ N = 0 ∧ xs = []) ∨ (q = some ⟨g, 0, none⟩ ∧ N ≤ cap ∧ xs.length = N ∧ Ints w g xs)
theorem Cel.spot {w : World} {q : Option Addr} {N cap g : Nat} {xs : List Int} (h : Cel w q N cap g xs) : Spot q := by
  rcases h with ⟨h, -⟩ | ⟨h, -⟩
  · exact .inl h
  · exact .inr ⟨g, 0, h⟩
theorem Cel.le {w : World} {q : Option Addr} {N cap g : Nat} {xs : List Int} (h : Cel w q N cap g xs) : N ≤ cap := by
  rcases h with ⟨-, h1, h2, -⟩ | ⟨-, h, -⟩ <;> omega
theorem Cel.nil {w : World} {q : Option Addr} {N cap g : Nat} {xs : List Int} (h : Cel w q N cap g xs) (hq : q = none) : cap = 0 := by
  rcases h with ⟨-, h1, -⟩ | ⟨h, -⟩
  · exact h1
  · rw [hq] at h; cases h
theorem Cel.len {w : World} {q : Option Addr} {N cap g : Nat} {xs : List Int} (h : Cel w q N cap g xs) : xs.length = N := by
  rcases h with ⟨-, -, h1, h2⟩ | ⟨-, -, h, -⟩
  · rw [h1, h2]; rfl
  · exact h
theorem Cel.ints {w : World} {q : Option Addr} {N cap g : Nat} {xs : List Int} (h : Cel w q N cap g xs) (h0 : 0 < N) : q = some ⟨g, 0, none⟩ ∧ Ints w g xs := by
  rcases h with ⟨-, -, h1, -⟩ | ⟨h1, -, -, h2⟩
  · omega
  · exact ⟨h1, h2⟩
theorem Cel.rd {w : World} {q : Option Addr} {N cap g : Nat} {xs : List Int} (h : Cel w q N cap g xs) : Rd w q xs := by
  rcases h with ⟨-, -, -, rfl⟩ | ⟨rfl, -, -, h⟩
  · exact Rd.nil _ _
  · exact h.rd
theorem Cel.move {w w' : World} {q : Option Addr} {N cap g : Nat} {xs : List Int} (h : Cel w q N cap g xs) (e : g < w.heap.size → w'.heap[g]? = w.heap[g]?) : Cel w' q N cap g xs := by
  rcases h with h | ⟨h1, h2, h3, h4⟩
  · exact .inl h
  · exact .inr ⟨h1, h2, h3, h4.move (e h4.lt)⟩
theorem Cel.keep {w w' : World} {q : Option Addr} {N cap g : Nat} {xs : List Int} (h : Cel w q N cap g xs) (hb : Below w.heap.size w w') : Cel w' q N cap g xs := h.move fun hl => hb.block g hl
theorem Cel.drewN {w : World} {q : Option Addr} {N cap g : Nat} {xs : List Int} (h : Cel w q N cap g xs) (n : Nat) : Cel (w.drewN n) q N cap g xs := h
theorem Cel.put {w w' : World} {q : Option Addr} {N cap g : Nat} {xs ys : List Int} (h : Cel w q N cap g xs) (h0 : 0 < N) (hl : ys.length = N) (hi : Ints w' g ys) : Cel w' q N cap g ys :=
  .inr ⟨(h.ints h0).1, h.le, hl, hi⟩
theorem Cel.own {w : World} {q : Option Addr} {N cap g B : Nat} {xs : List Int} (h : Cel w q N cap g xs) (hB : B ≤ g) (hN : N ≤ 16777216) : Own B w (.slice q N cap) xs := by
  rcases h with ⟨rfl, rfl, rfl, rfl⟩ | ⟨rfl, h1, h2, h3⟩
  · exact .inl ⟨rfl, rfl⟩
  · exact .inr ⟨g, cap, by rw [h2], hB, h3, by omega, by omega⟩
set_option maxHeartbeats 2000000 in
theorem iPrim (r c i N ob cap g : Nat) (q : Option Addr) (xs : List Int) (w : World) (hN : N = r * c) (hr : r ≤ 24) (hc : c ≤ 24) (hi : i < r) (nx : nums xs = true) (K : Blk3 w ob 26 (.int .i64 r) (.int .i64 c) (.slice q N cap)) (hg : Cel w q N cap g xs) :
    Calls Try.prog 133 #[.int .i64 i, .pointer (some ⟨ob, 0, none⟩)] w (fun e w' => Void e ∧ Cel w' q N cap g (prL r c i xs) ∧ w.grownBy w' (some g)) := by
  have hle : r * c ≤ 24 * 24 := Nat.mul_le_mul hr hc
  rw [← hN] at hle
  have hx := hg.len
  obtain ⟨D, hD⟩ : ∃ D, i * c = D := ⟨_, rfl⟩
  have hDN : D + c ≤ N := by
    rw [hN, ← hD, ← Nat.succ_mul]; exact Nat.mul_le_mul_right _ hi
  have RW : Hid (∀ w', Calls Try.prog 83 #[.agg #[.int .i64 r, .int .i64 c, .slice q N cap], .int .i64 i] w' (RowAt q D c w')) := fun w' => iRowIn r c i D N cap q w' hg.spot hD hDN hg.le hg.nil (by omega) (by omega)
  obtain ⟨v, hv⟩ : ∃ v, mxC c xs i = v := ⟨_, rfl⟩
  have VN : Hid (∀ j, j < c → NumP (v j)) := fun j hj => by rw [← hv]; exact mx_nums (by rw [hx, hN]) nx hi hj
  have RD : Hid (∀ w' q', Cel w' q N cap g xs → (∀ g o : Nat, q = some ⟨g, o, none⟩ → 0 < c → q' = some ⟨g, o + D, none⟩) → Rd w' q' (rwL c v)) := fun w' q' h hq => by
    rw [← hv]
    exact h.rd.row (by rw [hx, hN]) hi (by rw [hD]; exact hq)
  have PV : Hid (prL r c i xs = rowTo r c i (prV c v) xs c) := by show _ = _; rw [rowTo_all, prL_row, hv]
  have RZ : Hid (rowTo r c i (prV c v) xs 0 = xs) := rowTo_zero (by rw [hx, hN])
  have DV : Hid (∀ j, (v j).tdiv (sgD c v) = prV c v j) := fun j => sgD_div j
  have SG : Hid (∀ w' q' m', Rd w' q' (rwL c v) → Calls Try.prog 134 #[.slice q' c m'] w' (fun e w2 => e = .returned (.int .i64 (sgD c v)) ∧ ∃ n, w2 = w'.drewN n)) := fun w' q' m' h => iSgD c m' q' v w' h hc VN.out
  have d0 := sgD_ne c v
  have dn := sgD_num (c := c) (v := v) VN.out
  have RT : Hid (∀ k, k < c → (rowTo r c i (prV c v) xs k).set (D + k) (prV c v k) = rowTo r c i (prV c v) xs (k + 1)) := fun k hk => by rw [← hD]; exact rowTo_step hi hk
  have RX : Hid (∀ k, k < c → (rowTo r c i (prV c v) xs k).getD (D + k) 0 = v k) := fun k hk => by rw [← hD, rowTo_old hi hk (.inr (Nat.le_refl _)), ← hv]; rfl
  have RL : Hid (∀ k, (rowTo r c i (prV c v) xs k).length = N) := fun k => by rw [rowTo_length, hN]
  have PN : Hid (∀ j, j < c → NumP (prV c v j)) := fun j hj => prV_num VN.out hj
  have CG := Lib.hid hg
  generalize sgD c v = d at DV SG d0 dn
  clear hx nx hg hv hN
  generalize prV c v = u at PV RZ DV RT RX RL PN
  unfold NumP at dn
  obtain ⟨p0, p1, p2, -, -, -⟩ := K.all
  clear K hD
  go_enter Try.func133, Try.ntmps133
  go_wp2_with fail
  refine (RW.out _).mono ?_
  rintro e w1 ⟨q', m', rfl, hcm, hq1, hq2, hb1⟩
  have C1 := Lib.hid (CG.out.keep hb1)
  have G1 := Lib.hid (grown_of_below hb1 (some g))
  have R1 := Lib.hid (RD.out _ _ C1.out hq1)
  have Q1 := Lib.hid hq1
  clear hb1 hq1 hq2 p0 p1 p2
  go_wp2_with fail
  refine (SG.out _ _ _ R1.out).mono ?_
  rintro e w2 ⟨rfl, n, rfl⟩
  have C2 := Lib.hid (C1.out.drewN n)
  have G2 := Lib.hid (grown_drewN_one G1.out n)
  clear C1 G1 R1 SG RD RW
  generalize w1.drewN n = w2 at C2 G2 ⊢
  go_wp2_with fail
  go_loopw [5, 13] (fun _ v13 wr => ∃ j : Nat, v13 = .int .i64 j ∧ j ≤ c ∧ Cel wr q N cap g (rowTo r c i u xs j) ∧ w.grownBy wr (some g)) (fun _ v13 _ => c - (intOf v13).toNat)
  case atStart => exact ⟨0, rfl, by omega, by rw [RZ.out]; exact C2.out, G2.out⟩
  case round =>
    clear C2 G2
    obtain ⟨j, rfl, hj, hcel, hgr⟩ := hrel
    have CL := Lib.hid hcel
    have G := Lib.hid hgr
    clear hcel hgr
    by_cases hlt : j < c
    · obtain ⟨e1, hi1⟩ := CL.out.ints (by omega)
      have e2 := Q1.out g 0 e1 (by omega)
      rw [Nat.zero_add] at e2
      subst e2
      have hcell := hi1.cell (i := D + j) (by rw [RL.out]; omega)
      rw [RX.out j hlt] at hcell
      have hfr := hi1.free (D + j)
      have hb := VN.out j hlt
      have ho := PN.out j hlt
      have RS := Lib.hid (RT.out j hlt)
      have dv := DV.out j
      generalize v j = x at hcell hb dv
      obtain ⟨y, hy⟩ : ∃ y, u j = y := ⟨_, rfl⟩
      rw [hy] at RS ho dv
      unfold NumP at hb ho
      have z2 : IntKind.i64.wrap y = y := IntWalk.i64_in _ (by omega)
      have z3 : (d == 0) = false := by simpa using d0
      have I1 := Lib.hid hi1
      clear hy hi1 e1
      go_wp2_with fail
      go_roundw
      case rel =>
        refine ⟨j + 1, by go_num, by omega, ?_, ?_⟩
        · rw [← RS.out]
          exact CL.out.put (by omega) (by rw [List.length_set, RL.out]) (I1.out.set (D + j) y)
        · exact grown_set_one (a := ⟨g, D + j, none⟩) G.out rfl _
      case measure => simp [intOf]; omega
    · obtain rfl : c = j := by omega
      clear hlt
      go_wp2_with fail
      go_end0
      exact ⟨rfl, by rw [PV.out]; exact CL.out, G.out⟩
end Go.Proofs.Ytpelnfenfeoeeaa
end

section
/-
  Chapter 7, in the program: the pivot's row of any matrix.
-/
namespace Go.Proofs.Ytpelnfenfeoeeaa
set_option maxRecDepth 100000
open Go.RowKit

/-- What pivotRow answers. -/
def pvR (r c j t : Nat) (xs : List Int) : Int := if fstR c j xs (r - t) t = r then -1 else (fstR c j xs (r - t) t : Int)
set_option maxHeartbeats 1000000 in
theorem iPivR (r c t j N cap g : Nat) (q : Option Addr) (xs : List Int) (w : World) (hN : N = r * c) (hr : r ≤ 24) (hc : c ≤ 24) (ht : t ≤ r) (hj : j < c) (hg : Cel w q N cap g xs) :
    Calls Try.prog 89 #[.agg #[.int .i64 r, .int .i64 c, .slice q N cap], .int .i64 t, .int .i64 j] w (Gives (.int .i64 (pvR r c j t xs)) w) := by
  have hle : r * c ≤ 24 * 24 := Nat.mul_le_mul hr hc
  rw [← hN] at hle
  have hx := hg.len
  have hl : xs.length = r * c := by rw [hx, hN]
  have IX : Hid (∀ i, i < r → ∃ P : Nat, i * c + j = P ∧ P < N ∧ IntKind.i64.wrap ((i : Int) * (c : Int)) = (i : Int) * (c : Int) ∧ IntKind.i64.wrap ((i : Int) * (c : Int) + (j : Int)) = (P : Int)) := fun i hi => by
    have h1 : i * c + j < r * c := idx_lt hi hj
    have c1 : (i : Int) * (c : Int) = ((i * c : Nat) : Int) := (Int.natCast_mul _ _).symm
    refine ⟨i * c + j, rfl, by omega, IntWalk.i64_in _ (by rw [c1]; omega), ?_⟩
    rw [show (i : Int) * (c : Int) + (j : Int) = ((i * c + j : Nat) : Int) by rw [c1]; omega]
    exact IntWalk.i64_in _ (by omega)
  have BW : Hid (Below w.heap.size w (w.alloc (.cells #[.int .i64 r, .int .i64 c, .slice q N cap] 26))) := (Below.refl _ _).alloc (Nat.le_refl _) _
  have K0 : Hid (Blk3 (w.alloc (.cells #[.int .i64 r, .int .i64 c, .slice q N cap] 26)) w.heap.size 26 (.int .i64 r) (.int .i64 c) (.slice q N cap)) := Blk3.at_ _ _ _ _ rfl
  have CX : Hid (∀ i P, i < r → i * c + j = P → ∃ b o : Nat, q = some ⟨b, o, none⟩ ∧ (w.alloc (.cells #[.int .i64 r, .int .i64 c, .slice q N cap] 26)).cell? ⟨b, o + P, none⟩ = some (.int .i64 (mxC c xs i j))) := fun i P hi hP => by
    subst hP
    exact hg.rd.below BW.out _ (by rw [hl]; exact idx_lt hi hj)
  clear hN hx hl hg
  go_enter Try.func89, Try.ntmps89
  go_wp2_with fail
  generalize w.alloc (.cells #[.int .i64 r, .int .i64 c, .slice q N cap] 26) = W at BW K0 CX
  obtain ⟨p0, p1, p2, -, -, -⟩ := K0.out.all
  go_loopw [6, 7] (fun _ v7 wq => ∃ p : Nat, v7 = .int .i64 p ∧ t ≤ p ∧ p ≤ r ∧ (∀ i, t ≤ i → i < p → mxC c xs i j = 0) ∧ wq = W) (fun _ v7 _ => r - (intOf v7).toNat)
  case atStart => exact ⟨t, rfl, Nat.le_refl _, by omega, fun i h1 h2 => by omega, rfl⟩
  case round =>
    obtain ⟨p, rfl, hp1, hp2, hp0, rfl⟩ := hrel
    have P0 := Lib.hid hp0
    clear hp0
    by_cases hpn : p < r
    · obtain ⟨P, hP, hPN, u1, u2⟩ := IX.out p hpn
      have Pa : (0 : Int) ≤ (P : Int) := by omega
      have Pb : (P : Int) < (N : Int) := by omega
      obtain ⟨b, o, rfl, hcell⟩ := CX.out p P hpn hP
      obtain ⟨x, hxx⟩ : ∃ x, mxC c xs p j = x := ⟨_, rfl⟩
      have X := Lib.hid hxx
      rw [hxx] at hcell
      clear hxx hP
      by_cases h0 : x = 0
      · have n1 : (x != 0) = false := by simp [h0]
        have n2 : (x == 0) = true := by simp [h0]
        have P1 : Hid (∀ i, t ≤ i → i < p + 1 → mxC c xs i j = 0) := fun i h1 h2 => by
          rcases Nat.lt_or_ge i p with h3 | h3
          · exact P0.out i h1 h3
          · obtain rfl : i = p := by omega
            rw [X.out, h0]
        clear h0
        go_wp2_with fail
        go_roundw
        case rel => exact ⟨p + 1, by go_num, by omega, by omega, P1.out, trivial⟩
        case measure => simp [intOf]; omega
      · have n1 : (x != 0) = true := by simpa using h0
        have n2 : (x == 0) = false := by simpa using h0
        have PV : Hid (pvR r c j t xs = p) := by
          have e : fstR c j xs (r - t) t = p := fstR_eq hp1 (by omega) P0.out fun _ => by rw [X.out]; exact h0
          show pvR r c j t xs = p
          unfold pvR
          rw [e, if_neg (by omega)]
        clear h0
        go_wp2_with fail
        go_ret
        exact ⟨by rw [PV.out]; rfl, BW.out⟩
    · have hpe : p = r := by omega
      have PV : Hid (pvR r c j t xs = -1) := by
        show pvR r c j t xs = -1
        unfold pvR
        rw [if_pos ((fstR_eq hp1 (by omega) P0.out fun h => by omega).trans hpe)]
      clear hpe
      go_wp2_with fail
      go_ret
      exact ⟨by rw [PV.out]; rfl, BW.out⟩
end Go.Proofs.Ytpelnfenfeoeeaa
end
