/-
  Texts of this seat, joined: ZDMulMath · ZDStepL · ZDSameMath · ZDTurnMath · ZDRingMath · ZDLawDet · ZDMatI · ZDDoneI · ZDFoldM · ZDMatI9 · ZDMatS6 · ZDMatS7 · ZDElTo · ZDMnMath · ZDMnMem · ZDMnBits · ZDMnTake
-/
import Derived.Test.YtpelnfenfeoeeaaRows
import Derived.BigQuiet
import Derived.Deep.QuietTactic
import Derived.StillTailTactics
import Derived.IntWalk
import Derived.Maps.OwnSet
import Derived.WalkKit
import Derived.Laws.BitsAll
import Derived.Maps.AppendAt
import Derived.Deep.DeepCutAuto
import Derived.Test.YtpelnfenfeoeeaaPk57
import Derived.Test.YtpelnfenfeoeeaaPk58

section
/-
  Plain mathematics of chapter 3: what a product and a matrix turned over are. Nothing of a program is used.
-/
namespace Go.Proofs.Ytpelnfenfeoeeaa
open Go.RowKit
def Turned (R C : Nat) (xs : List Int) (i j : Nat) (zs : List Int) : Prop :=
  zs.length = C * R ∧ (∀ i' j' : Nat, i' < i → j' < C → zs.getD (j' * R + i') 0 = xs.getD (i' * C + j') 0) ∧ (∀ j' : Nat, j' < j → zs.getD (j' * R + i) 0 = xs.getD (i * C + j') 0)
theorem Turned.start (R C : Nat) (xs : List Int) : Turned R C xs 0 0 (List.replicate (C * R) 0) := ⟨by simp, fun _ _ h => absurd h (by omega), fun _ h => absurd h (by omega)⟩
theorem Turned.step {R C : Nat} {xs zs : List Int} {i j : Nat} (h : Turned R C xs i j zs) (hi : i < R) (hj : j < C) : Turned R C xs i (j + 1) (zs.set (j * R + i) (xs.getD (i * C + j) 0)) := by
  obtain ⟨hl, h1, h2⟩ := h
  have hb : j * R + i < zs.length := by rw [hl]; exact idx_lt hj hi
  refine ⟨by rw [List.length_set]; exact hl, fun i' j' hi' hj' => ?_, fun j' hj' => ?_⟩
  · rw [getD_set _ _ _ _ hb, if_neg (fun e => by have := (idx_inj (by omega) hi e).2; omega)]
    exact h1 i' j' hi' hj'
  · rw [getD_set _ _ _ _ hb]
    by_cases e : j' = j
    · subst e; rw [if_pos rfl]
    · rw [if_neg (fun h => e (idx_inj hi hi h).1)]
      exact h2 j' (by omega)
theorem Turned.row {R C : Nat} {xs zs : List Int} {i : Nat} (h : Turned R C xs i C zs) : Turned R C xs (i + 1) 0 zs := by
  obtain ⟨hl, h1, h2⟩ := h
  refine ⟨hl, fun i' j' hi' hj' => ?_, fun _ h => absurd h (by omega)⟩
  by_cases e : i' = i
  · subst e; exact h2 j' hj'
  · exact h1 i' j' (by omega) hj'
def dot (K C : Nat) (xs ys : List Int) (i j : Nat) : Nat → Int
  | 0 => 0
  | k + 1 => dot K C xs ys i j k + xs.getD (i * K + k) 0 * ys.getD (k * C + j) 0
def mulL (R K C : Nat) (xs ys : List Int) : List Int := tab R C fun i j => dot K C xs ys i j K
theorem dot_bd {K C : Nat} {xs ys : List Int} {i j : Nat} (hx : ∀ p : Nat, p < K → NumP (xs.getD (i * K + p) 0)) (hy : ∀ p : Nat, p < K → NumP (ys.getD (p * C + j) 0)) :
    ∀ k : Nat, k ≤ K → -160000000000000000 * (k : Int) ≤ dot K C xs ys i j k ∧ dot K C xs ys i j k ≤ 160000000000000000 * (k : Int) := by
  intro k
  induction k with
  | zero => intro _; simp [dot]
  | succ k ih =>
    intro hk
    have h := ih (by omega)
    have m := mul_num _ _ (hx k (by omega)) (hy k (by omega))
    simp only [dot]
    push_cast
    omega
def Filled (R C : Nat) (f : Nat → Nat → Int) (i j : Nat) (zs : List Int) : Prop :=
  zs.length = R * C ∧ (∀ i' j' : Nat, i' < i → j' < C → zs.getD (i' * C + j') 0 = f i' j') ∧ (∀ j' : Nat, j' < j → zs.getD (i * C + j') 0 = f i j')
theorem Filled.start (R C : Nat) (f : Nat → Nat → Int) : Filled R C f 0 0 (List.replicate (R * C) 0) := ⟨by simp, fun _ _ h => absurd h (by omega), fun _ h => absurd h (by omega)⟩
theorem Filled.step {R C : Nat} {f : Nat → Nat → Int} {zs : List Int} {i j : Nat} (h : Filled R C f i j zs) (hi : i < R) (hj : j < C) : Filled R C f i (j + 1) (zs.set (i * C + j) (f i j)) := by
  obtain ⟨hl, h1, h2⟩ := h
  have hb : i * C + j < zs.length := by rw [hl]; exact idx_lt hi hj
  refine ⟨by rw [List.length_set]; exact hl, fun i' j' hi' hj' => ?_, fun j' hj' => ?_⟩
  · rw [getD_set _ _ _ _ hb, if_neg (fun e => by have := (idx_inj hj' hj e).1; omega)]
    exact h1 i' j' hi' hj'
  · rw [getD_set _ _ _ _ hb]
    by_cases e : j' = j
    · subst e; rw [if_pos rfl]
    · rw [if_neg (fun h => e (idx_inj (by omega) hj h).2)]
      exact h2 j' (by omega)
theorem Filled.row {R C : Nat} {f : Nat → Nat → Int} {zs : List Int} {i : Nat} (h : Filled R C f i C zs) : Filled R C f (i + 1) 0 zs := by
  obtain ⟨hl, h1, h2⟩ := h
  refine ⟨hl, fun i' j' hi' hj' => ?_, fun _ h => absurd h (by omega)⟩
  by_cases e : i' = i
  · subst e; exact h2 j' hj'
  · exact h1 i' j' (by omega) hj'
theorem Filled.whole {R C : Nat} {f : Nat → Nat → Int} {zs : List Int} (h : Filled R C f R 0 zs) : zs = tab R C f := tab_ext h.1 fun i j hi hj => h.2.1 i j hi hj
def mulM (r c : Int) (xs : List Int) (r' c' : Int) (ys : List Int) : MR := if (isMat r c xs && isMat r' c' ys && decide (c = r')) = true then MR.done r c' (mulL r.toNat c.toNat c'.toNat xs ys) else MR.no
end Go.Proofs.Ytpelnfenfeoeeaa
end

section
/-
  Plain mathematics of chapter 6: elimination without fractions over lists of cells ends in the determinant. Nothing of a program is used.
-/
namespace Go.Proofs.Ytpelnfenfeoeeaa
end Go.Proofs.Ytpelnfenfeoeeaa
end

section
/-
  What SameMatrix answers.
-/
namespace Go.Proofs.Ytpelnfenfeoeeaa
end Go.Proofs.Ytpelnfenfeoeeaa
end

section
/-
  Plain mathematics of chapter 3: products and matrices turned over. Nothing of a program is used.
-/
namespace Go.Proofs.Ytpelnfenfeoeeaa
end Go.Proofs.Ytpelnfenfeoeeaa
end

section
/-
  Plain mathematics of chapter 3: products can be grouped in any way, and distribute over sums. Nothing of a program is used.
-/
namespace Go.Proofs.Ytpelnfenfeoeeaa
theorem dot_sum (K C : Nat) (xs ys : List Int) (i j : Nat) : ∀ n : Nat, dot K C xs ys i j n = sumN n (fun k => xs.getD (i * K + k) 0 * ys.getD (k * C + j) 0) := by
  intro n
  induction n with
  | zero => rfl
  | succ n ih => show dot K C xs ys i j n + _ = _; rw [ih]; rfl
end Go.Proofs.Ytpelnfenfeoeeaa
end

section
/-
  Plain mathematics of chapter 6: what the laws say. Nothing of a program is used.
-/
namespace Go.Proofs.Ytpelnfenfeoeeaa
theorem detOf_says {r c d : Int} {xs : List Int} (h1 : (detOf r c xs).1 = d) (h2 : (detOf r c xs).2 = true) : ∃ n : Nat, r = n ∧ c = n ∧ n ≤ 6 ∧ xs.length = n * n ∧ nums xs = true ∧ detB n xs = d ∧ NumP d ∧ d = det n (mxL n xs) := by
  have hn := detOf_num r c xs
  rw [h1] at hn
  unfold detOf at h1 h2
  by_cases hs : isSq r c xs = true
  · rw [if_pos hs] at h1 h2
    obtain ⟨n, rfl, rfl, h6, hl, nx⟩ := isSq_says hs
    have e : (n : Int).toNat = n := rfl
    rw [e] at h1 h2
    unfold detM at h1 h2
    by_cases hb : detB n xs = badN
    · rw [if_pos hb] at h2; exact absurd h2 (by decide)
    · rw [if_neg hb] at h1
      have h1 : detB n xs = d := h1
      exact ⟨n, rfl, rfl, h6, hl, nx, h1, hn, by rw [← h1]; exact detB_det n xs hb⟩
  · rw [if_neg hs] at h2; exact absurd h2 (by decide)
theorem mulM_says {r c r' c' : Int} {xs ys : List Int} (h : (mulM r c xs r' c' ys).ok = true) : ∃ R K C : Nat, r = R ∧ c = K ∧ r' = K ∧ c' = C ∧ isMat r c xs = true ∧ isMat r' c' ys = true ∧ mulM r c xs r' c' ys = ⟨true, r, c', mulL R K C xs ys⟩ := by
  unfold mulM at h ⊢
  by_cases h1 : (isMat r c xs && isMat r' c' ys && decide (c = r')) = true
  · rw [if_pos h1] at h ⊢
    simp only [Bool.and_eq_true, decide_eq_true_eq] at h1
    obtain ⟨⟨hm, hm'⟩, rfl⟩ := h1
    obtain ⟨⟨r1, -⟩, ⟨c1, -⟩, -, -⟩ := isMat_says hm
    obtain ⟨-, ⟨c2, -⟩, -, -⟩ := isMat_says hm'
    obtain ⟨R, rfl⟩ := Int.eq_ofNat_of_zero_le r1
    obtain ⟨K, rfl⟩ := Int.eq_ofNat_of_zero_le c1
    obtain ⟨C, rfl⟩ := Int.eq_ofNat_of_zero_le c2
    unfold MR.done at h ⊢
    by_cases h2 : isMat R C (mulL R K C xs ys) = true
    · exact ⟨R, K, C, rfl, rfl, rfl, rfl, hm, hm', if_pos h2⟩
    · rw [show (if isMat R C (mulL (R : Int).toNat (K : Int).toNat (C : Int).toNat xs ys) = true then _ else MR.no) = MR.no from if_neg h2] at h
      exact absurd h (by simp [MR.no])
  · rw [if_neg h1] at h; exact absurd h (by simp [MR.no])
theorem mxL_mul (n : Nat) (xs ys : List Int) : EqX n (mxL n (mulL n n n xs ys)) (mulX n (mxL n xs) (mxL n ys)) := fun r c hr hc => by
  show (mulL n n n xs ys).getD (r * n + c) 0 = sumN n fun k => mxL n xs r k * mxL n ys k c
  unfold mulL
  rw [tab_at n n _ hr hc, dot_sum]
  rfl
theorem prod_det {r c r' c' dx dy dz : Int} {xs ys : List Int} {m : MR} (hm : mulM r c xs r' c' ys = m) (ho : m.ok = true) (a1 : (detOf r c xs).1 = dx) (a2 : (detOf r c xs).2 = true) (b1 : (detOf r' c' ys).1 = dy) (b2 : (detOf r' c' ys).2 = true)
    (c1 : (detOf m.r m.c m.zs).1 = dz) (c2 : (detOf m.r m.c m.zs).2 = true) : dx * dy = dz ∧ NumP dx ∧ NumP dy := by
  obtain ⟨n, rfl, rfl, -, -, -, -, na, ea⟩ := detOf_says a1 a2
  obtain ⟨k, rfl, rfl, -, -, -, -, nb, eb⟩ := detOf_says b1 b2
  obtain ⟨R, K, C, e1, e2, e3, e4, -, -, e⟩ := mulM_says (by rw [hm]; exact ho)
  obtain rfl : n = R := by omega
  obtain rfl : n = K := by omega
  obtain rfl : k = n := by omega
  obtain rfl : k = C := by omega
  rw [hm] at e
  subst e
  obtain ⟨p, p1, -, -, -, -, -, -, ec⟩ := detOf_says c1 c2
  have p1 : (k : Int) = (p : Int) := p1
  obtain rfl : k = p := by omega
  refine ⟨?_, na, nb⟩
  rw [ea, eb, ec]
  show _ = det k (mxL k (mulL k k k xs ys))
  rw [det_congr (mxL_mul k xs ys), det_mul]
end Go.Proofs.Ytpelnfenfeoeeaa
end

section
/-
  Chapter 3, in the program: IsMatrix.
-/
namespace Go.Proofs.Ytpelnfenfeoeeaa
open Go.RowKit
theorem iSize_t (n : Int) (w : World) (h1 : 0 ≤ n) (h2 : n ≤ 24) :
    Calls Try.prog 112 #[.int .i64 n] w fun e w' => e = .returned (.bool true) ∧ w = w' := by
  go_enter Try.func112, Try.ntmps112
  go_wp2
  go_ret
  exact ⟨rfl, rfl⟩
theorem iSize_f (n : Int) (w : World) (h : n < 0 ∨ 24 < n) :
    Calls Try.prog 112 #[.int .i64 n] w fun e w' => e = .returned (.bool false) ∧ w = w' := by
  by_cases h1 : 0 ≤ n
  · have h2 : decide (n ≤ 24) = false := by simp; omega
    go_enter Try.func112, Try.ntmps112
    go_wp2
    go_ret
    exact ⟨rfl, rfl⟩
  · go_enter Try.func112, Try.ntmps112
    go_wp2
    go_ret
    exact ⟨rfl, rfl⟩
theorem iIsNum (n : Int) (w : World) :
    Calls Try.prog 114 #[.int .i64 n] w fun e w' => e = .returned (.bool (decide (NumP n))) ∧ w = w' := by
  by_cases h : NumP n
  · rw [decide_eq_true h]; exact iIsNum_t n w h.1 h.2
  · rw [decide_eq_false h]; exact iIsNum_f n w (by unfold NumP at h; omega)
theorem iStep (b : Bool) (i j z : Int) (w : World) :
    Calls Try.prog 113 #[.bool b, .int .i64 i, .int .i64 j, .int .i64 z] w fun e w' => e = .returned (.bool (b && decide (NumP z))) ∧ w = w' := by
  cases b
  · go_enter Try.func113, Try.ntmps113
    go_wp2_with fail
    go_ret
    exact ⟨rfl, rfl⟩
  · go_enter Try.func113, Try.ntmps113
    go_wp2_with fail
    refine (iIsNum z _).mono ?_
    rintro e w' ⟨rfl, rfl⟩
    go_wp2_with fail
    go_ret
    exact ⟨rfl, rfl⟩
theorem take_nums (zs : List Int) (k : Nat) (hk : k < zs.length) : nums (zs.take (k + 1)) = (nums (zs.take k) && decide (NumP (zs.getD k 0))) := by
  unfold nums
  rw [List.take_succ_eq_append_getElem hk, List.all_append]
  simp only [List.all_cons, List.all_nil, Bool.and_true, List.getD, List.getElem?_eq_getElem hk, Option.getD_some]
set_option maxHeartbeats 400000 in
theorem iFoldB (r c : Int) (a : Option Addr) (cap : Nat) (zs : List Int) (w : World) (h : Rd w a zs) (hn : zs.length ≤ 16777216) (hc : zs.length = 0 ∨ 0 < c) :
    Calls Try.prog 66 #[.agg #[.int .i64 r, .int .i64 c, .slice a zs.length cap], .bool true, .func (.func 113) #[] #[]] w (Gives (.bool (nums zs)) w) := by
  have B0 : ∀ o, Below w.heap.size w (w.alloc o) := fun o => (Below.refl _ _).alloc (Nat.le_refl _) o
  have BH := Lib.hid B0
  have H := Lib.hid h
  obtain ⟨n, hnn⟩ : ∃ n, zs.length = n := ⟨_, rfl⟩
  have HN := Lib.hid hnn
  rw [hnn] at hn hc ⊢
  clear h B0 hnn
  go_enter Try.func66, Try.ntmps66
  go_wp2_with fail
  go_loopw [7, 8, 9, 14] (fun b _ _ i wr => ∃ k : Nat, i = .int .i64 k ∧ k ≤ n ∧ b = .bool (nums (zs.take k)) ∧ ∃ q, wr = (w.alloc (.cells #[.int .i64 r, .int .i64 c, .slice a n cap] 26)).drewN q) (fun _ _ _ i _ => n - (intOf i).toNat)
  case atStart => exact ⟨0, rfl, by omega, rfl, 0, rfl⟩
  case round =>
    obtain ⟨k, rfl, hk, rfl, q, rfl⟩ := hrel
    by_cases hlt : k < n
    · have c0 : (c == 0) = false := by simp; omega
      obtain ⟨b, o, rfl, hcell⟩ := (H.out.below (BH.out (.cells #[.int .i64 r, .int .i64 c, .slice a n cap] 26))) k (by rw [HN.out]; exact hlt)
      obtain ⟨z, hz⟩ : ∃ z, zs.getD k 0 = z := ⟨_, rfl⟩
      obtain ⟨bb, hbb⟩ : ∃ bb, nums (zs.take k) = bb := ⟨_, rfl⟩
      rw [hz] at hcell
      have Z := Lib.hid hz
      have BB := Lib.hid hbb
      rw [hbb]
      clear hz hbb
      go_wp2_with fail
      go_quiet ((refine (iStep _ _ _ _ _).mono ?_; rintro e w' ⟨rfl, rfl⟩; exact ⟨rfl, _, rfl⟩))
      go_wp2_with fail
      go_roundw
      case rel => exact ⟨k + 1, by go_num, by omega, by rw [take_nums zs k (by rw [HN.out]; exact hlt), BB.out, Z.out], _, rfl⟩
      case measure => simp [intOf]; omega
    · have hkn : k = n := by omega
      subst hkn
      have E : Hid (nums (zs.take k) = nums zs) := by show nums (zs.take k) = nums zs; rw [← HN.out, List.take_length]
      go_wp2_with fail
      go_ret
      exact ⟨by rw [E.out]; rfl, below_drewN (BH.out _) q⟩
set_option maxHeartbeats 400000 in
theorem iIsMat (r c : Int) (a : Option Addr) (cap : Nat) (zs : List Int) (w : World) (h : Rd w a zs) (hn : zs.length ≤ 16777216) :
    Calls Try.prog 58 #[.agg #[.int .i64 r, .int .i64 c, .slice a zs.length cap]] w (Gives (.bool (isMat r c zs)) w) := by
  have B0 : ∀ o, Below w.heap.size w (w.alloc o) := fun o => (Below.refl _ _).alloc (Nat.le_refl _) o
  have BH := Lib.hid B0
  have H := Lib.hid h
  clear h B0
  obtain ⟨n, hnn⟩ : ∃ n, zs.length = n := ⟨_, rfl⟩
  have HN := Lib.hid hnn
  have ED : isMat r c zs = (decide (SizeP r) && decide (SizeP c) && decide ((n : Int) = r * c) && nums zs) := by unfold isMat; rw [hnn]
  have E := Lib.hid ED
  rw [hnn] at hn ⊢
  clear hnn ED
  by_cases hr : 0 ≤ r ∧ r ≤ 24
  · by_cases hc : 0 ≤ c ∧ c ≤ 24
    · obtain ⟨m1, m2⟩ := mul_size r c hr hc
      by_cases hl : (n : Int) = r * c
      · have l1 : ((n : Int) != r * c) = false := by simpa using hl
        have l2 : ((n : Int) == r * c) = true := by simpa using hl
        have E2 : Hid (isMat r c zs = nums zs) := by
          show isMat r c zs = nums zs
          rw [E.out, show decide (SizeP r) = true from decide_eq_true hr, show decide (SizeP c) = true from decide_eq_true hc, show decide ((n : Int) = r * c) = true from decide_eq_true hl]; rfl
        have hz : zs.length = 0 ∨ 0 < c := by
          rw [HN.out]
          rcases Nat.eq_zero_or_pos n with e | e
          · exact .inl e
          · right
            rcases Int.lt_or_lt_of_ne (a := c) (b := 0) (fun e0 => by rw [e0, Int.mul_zero] at hl; omega) with h | h <;> omega
        have HZ := Lib.hid hz
        clear hl hz
        obtain ⟨r1, r2⟩ := hr
        obtain ⟨c1, c2⟩ := hc
        go_enter Try.func58, Try.ntmps58
        go_wp2_with (go_at_call 112; refine (iSize_t _ _ (by omega) (by omega)).mono ?_; rintro e w' ⟨rfl, rfl⟩)
        have ST := iFoldB r c a cap zs _ (H.out.below (BH.out (.cells #[.int .i64 r, .int .i64 c, .slice a n cap] 26))) (by rw [HN.out]; exact hn) HZ.out
        rw [HN.out] at ST
        refine ST.mono ?_
        clear ST
        rintro e w' ⟨rfl, hb⟩
        have HB := Lib.hid ((BH.out _).trans (hb.mono (BH.out (.cells #[.int .i64 r, .int .i64 c, .slice a n cap] 26)).size))
        clear hb
        go_wp2_with fail
        go_ret
        exact ⟨by rw [E2.out]; rfl, HB.out⟩
      · have l1 : ((n : Int) != r * c) = true := by simpa using hl
        have l2 : ((n : Int) == r * c) = false := by simpa using hl
        have E2 : Hid (isMat r c zs = false) := by
          show isMat r c zs = false
          rw [E.out, show decide ((n : Int) = r * c) = false from decide_eq_false hl]; simp
        clear hl
        obtain ⟨r1, r2⟩ := hr
        obtain ⟨c1, c2⟩ := hc
        go_enter Try.func58, Try.ntmps58
        go_wp2_with (go_at_call 112; refine (iSize_t _ _ (by omega) (by omega)).mono ?_; rintro e w' ⟨rfl, rfl⟩)
        go_ret
        exact ⟨by rw [E2.out]; rfl, BH.out _⟩
    · have E2 : Hid (isMat r c zs = false) := by
        show isMat r c zs = false
        rw [E.out, show decide (SizeP c) = false from decide_eq_false hc]; simp
      have hc' : c < 0 ∨ 24 < c := by omega
      clear hc
      go_enter Try.func58, Try.ntmps58
      go_wp2_with fail
      refine (iSize_t r _ hr.1 hr.2).mono ?_
      rintro e w' ⟨rfl, rfl⟩
      go_wp2_with fail
      refine (iSize_f c _ hc').mono ?_
      rintro e w' ⟨rfl, rfl⟩
      go_wp2_with fail
      go_ret
      exact ⟨by rw [E2.out]; rfl, BH.out _⟩
  · have E2 : Hid (isMat r c zs = false) := by
      show isMat r c zs = false
      rw [E.out, show decide (SizeP r) = false from decide_eq_false hr]; simp
    have hr' : r < 0 ∨ 24 < r := by omega
    clear hr
    go_enter Try.func58, Try.ntmps58
    go_wp2_with fail
    refine (iSize_f r _ hr').mono ?_
    rintro e w' ⟨rfl, rfl⟩
    go_wp2_with fail
    go_ret
    exact ⟨by rw [E2.out]; rfl, BH.out _⟩
end Go.Proofs.Ytpelnfenfeoeeaa
end

section
/-
  Chapter 3, in the program: a matrix that is handed on if it is valid.
-/
namespace Go.Proofs.Ytpelnfenfeoeeaa
open Go.RowKit
set_option maxHeartbeats 400000 in
theorem iDone (r c : Int) (a : Option Addr) (cap : Nat) (zs : List Int) (w : World) (h : Rd w a zs) (hn : zs.length ≤ 16777216) :
    Calls Try.prog 92 #[.agg #[.int .i64 r, .int .i64 c, .slice a zs.length cap]] w (Gives (DoneRes r c (.slice a zs.length cap) (isMat r c zs)) w) := by
  have H := Lib.hid h
  clear h
  go_enter Try.func92, Try.ntmps92
  go_wp2_with fail
  refine (iIsMat r c a cap zs _ (H.out.below (((Below.refl _ _).alloc (Nat.le_refl _) _).alloc (by simp) _)) hn).mono ?_
  rintro e w1 ⟨rfl, hb⟩
  have K0 : Hid (Blk3 w1 w.heap.size 26 (.int .i64 r) (.int .i64 c) (.slice a zs.length cap)) := ((Blk3.at_ _ _ _ _ rfl).old _).keep hb (by simp <;> omega)
  have K1 : Hid (Blk3 w1 (w.heap.size + 1) 26 (.int .i64 0) (.int .i64 0) (.slice none 0 0)) := (Blk3.at_ _ _ _ _ (by simp)).keep hb (by simp)
  have B : Hid (Below w.heap.size w w1) := (((Below.refl _ _).alloc (Nat.le_refl _) _).alloc (by simp) _).trans (hb.mono (by simp <;> omega))
  clear hb
  obtain ⟨c0, c1, c2, -, -, -⟩ := K0.out.all
  obtain ⟨d0, d1, d2, g0, g1, g2⟩ := K1.out.all
  have BB : ∀ x y z, Below w.heap.size w (((w1.setCell ⟨w.heap.size + 1, 0, none⟩ x).setCell ⟨w.heap.size + 1, 1, none⟩ y).setCell ⟨w.heap.size + 1, 2, none⟩ z) := fun x y z =>
    ((B.out.setCell (Nat.le_succ _) _).setCell (Nat.le_succ _) _).setCell (Nat.le_succ _) _
  have BH := Lib.hid BB
  clear BB
  rcases Bool.eq_false_or_eq_true (isMat r c zs) with hm | hm
  · rw [hm]
    have M := Lib.hid hm
    clear hm
    go_wp2_with fail
    obtain ⟨E0, E1, E2, -, -, -⟩ := (((K1.out.set0 (.int .i64 r)).set1 (.int .i64 c)).set2 (.slice a zs.length cap)).all
    exact bodyPost_ret (v := .tuple #[.agg #[.int .i64 r, .int .i64 c, .slice a zs.length cap], .bool true]) (by simp [results, Try.results92, go_sem, E0, E1, E2]) rfl ⟨by rw [M.out]; rfl, BH.out _ _ _⟩
  · rw [hm]
    have M := Lib.hid hm
    clear hm
    go_wp2_with fail
    obtain ⟨E0, E1, E2, -, -, -⟩ := (((K1.out.set0 (.int .i64 0)).set1 (.int .i64 0)).set2 (.slice none 0 0)).all
    exact bodyPost_ret (v := .tuple #[.agg #[.int .i64 0, .int .i64 0, .slice none 0 0], .bool false]) (by simp [results, Try.results92, go_sem, E0, E1, E2]) rfl ⟨by rw [M.out]; rfl, BH.out _ _ _⟩
end Go.Proofs.Ytpelnfenfeoeeaa
end

section
/-
  Chapter 3, in the program: a fold whose closure writes into its value (MultiplyMatrices).
-/
namespace Go.Proofs.Ytpelnfenfeoeeaa
set_option maxRecDepth 100000
open Go.RowKit
theorem far_of {w : World} {a : Option Addr} {zs : List Int} {n : Nat} (h : Rd w a zs) (hn : zs.length = n) : ∀ b o : Nat, a = some ⟨b, o, none⟩ → 0 < n → b ≠ w.heap.size := by
  intro b o e hz
  obtain ⟨b', o', e', hc⟩ := h 0 (by omega)
  rw [e] at e'
  injection e' with e'
  injection e' with e1 e2
  have := World.block_lt_of_cell? w _ hc
  simp at this
  omega
set_option maxRecDepth 100000 in
set_option maxHeartbeats 1000000 in
theorem iFoldM (pb R C n : Nat) (a : Option Addr) (cap : Nat) (zs : List Int) (g m mc : Nat) (L : Nat → List Int) (w : World) (hx : zs.length = n) (h : Rd w a zs) (hn : n = R * C) (hR : R ≤ 24) (hC : C ≤ 24) (hg : Ints w g (L 0)) (hz : ∀ b o : Nat, a = some ⟨b, o, none⟩ → 0 < n → b ≠ g)
    (step : ∀ (k : Nat) (w1 : World), k < n → w.grownBy w1 (some g) → Ints w1 g (L k) → Calls Try.prog 91 #[.slice (some ⟨g, 0, none⟩) m mc, .int .i64 ((k : Int) / (C : Int)), .int .i64 ((k : Int) % (C : Int)), .int .i64 (zs.getD k 0), .pointer (some ⟨pb, 0, none⟩)] w1
      (fun e w2 => e = .returned (.slice (some ⟨g, 0, none⟩) m mc) ∧ Ints w2 g (L (k + 1)) ∧ w1.grownBy w2 (some g))) :
    Calls Try.prog 86 #[.agg #[.int .i64 R, .int .i64 C, .slice a n cap], .slice (some ⟨g, 0, none⟩) m mc, .func (.func 91) #[] #[.pointer (some ⟨pb, 0, none⟩)]] w
      (fun e w' => e = .returned (.slice (some ⟨g, 0, none⟩) m mc) ∧ Ints w' g (L n) ∧ w.grownBy w' (some g)) := by
  have H := Lib.hid h
  have ST := Lib.hid step
  have HZ := Lib.hid hz
  have hle : R * C ≤ 24 * 24 := Nat.mul_le_mul hR hC
  have HN := Lib.hid hx
  rw [← hn] at hle
  have HM := Lib.hid hn
  have gw : w.grownBy (w.alloc (.cells #[.int .i64 R, .int .i64 C, .slice a n cap] 26)) (some g) := World.grownBy_alloc w _ _
  have G0 := Lib.hid gw
  have I0 := Lib.hid (hg.old (.cells #[.int .i64 R, .int .i64 C, .slice a n cap] 26))
  have K0 : Hid (Blk3 (w.alloc (.cells #[.int .i64 R, .int .i64 C, .slice a n cap] 26)) w.heap.size 26 (.int .i64 R) (.int .i64 C) (.slice a n cap)) := Blk3.at_ _ _ _ _ rfl
  have lg := hg.lt
  clear h step hz hx hn gw hg
  go_enter Try.func86, Try.ntmps86
  go_wp2_with fail
  go_loopw [7, 8, 9, 14] (fun v _ _ i wr => ∃ k : Nat, i = .int .i64 k ∧ k ≤ n ∧ v = .slice (some ⟨g, 0, none⟩) m mc ∧ Ints wr g (L k) ∧ (w.alloc (.cells #[.int .i64 R, .int .i64 C, .slice a n cap] 26)).grownBy wr (some g)) (fun _ _ _ i _ => n - (intOf i).toNat)
  case atStart => exact ⟨0, rfl, by omega, rfl, I0.out, World.grownBy.refl _ _⟩
  case round =>
    obtain ⟨k, rfl, hk, rfl, hi, hgr⟩ := hrel
    have I := Lib.hid hi
    have G := Lib.hid hgr
    have GW := Lib.hid (G0.out.trans hgr)
    clear hi hgr
    have R0 := Lib.hid (K0.out.keepOne G.out (by omega))
    by_cases hlt : k < n
    · have hC0 : 0 < C := by
        rcases Nat.eq_zero_or_pos C with e | e
        · have := HM.out; rw [e, Nat.mul_zero] at this; omega
        · exact e
      have c0 : ((C : Int) == 0) = false := by simp; omega
      obtain ⟨b, o, rfl, hcell⟩ := H.out k (by rw [HN.out]; exact hlt)
      have u1 := World.block_lt_of_cell? w _ hcell
      have hb : b ≠ g := HZ.out b o rfl (by omega)
      have hcell := GW.out.cell hcell (by simpa using hb)
      have d1 : (k : Int) / (C : Int) = ((k / C : Nat) : Int) := (Int.natCast_ediv k C).symm
      have d2 : (k : Int) % (C : Int) = ((k % C : Nat) : Int) := (Int.natCast_emod k C).symm
      have d3 : k / C ≤ k := Nat.div_le_self k C
      have d4 : k % C ≤ k := Nat.mod_le k C
      have d5 : 0 ≤ (k : Int) / (C : Int) := by rw [d1]; exact Int.natCast_nonneg _
      have d6 : (k : Int) / (C : Int) ≤ 600 := by rw [d1]; exact Int.ofNat_le.mpr (show k / C ≤ 600 by omega)
      have c1 : ¬ C = 0 := by omega
      have w1 : IntKind.i64.wrap ((k : Int) / (C : Int)) = (k : Int) / (C : Int) := IntWalk.i64_in _ (by omega)
      have e2 : Int.tmod (k : Int) (C : Int) = (k : Int) % (C : Int) := Int.tmod_eq_emod_of_nonneg (by omega)
      have e3 : Int.tdiv (k : Int) (C : Int) = (k : Int) / (C : Int) := Int.tdiv_eq_ediv_of_nonneg (by omega)
      clear d1 d2
      obtain ⟨z, hz⟩ : ∃ z, zs.getD k 0 = z := ⟨_, rfl⟩
      rw [hz] at hcell
      have Z := Lib.hid hz
      clear hz u1
      obtain ⟨r0, r1, r2, -, -, -⟩ := R0.out.all
      go_wp2_with fail
      go_still_tail 11, (by kernel_rfl)
      go_wp2_with fail
      rw [← Z.out]
      refine (ST.out k _ hlt (grown_drew_one GW.out) I.out.drew).mono ?_
      rintro e w2 ⟨rfl, hi2, hg2⟩
      have I2 := Lib.hid hi2
      have G2 := Lib.hid ((grown_drew_one G.out).trans hg2)
      clear hi2 hg2
      go_wp2_with fail
      go_roundw
      case rel => exact ⟨k + 1, by go_num, by omega, rfl, I2.out, G2.out⟩
      case measure => simp [intOf]; omega
    · obtain rfl : n = k := by omega
      go_wp2_with fail
      go_ret
      exact ⟨rfl, I.out, GW.out⟩
end Go.Proofs.Ytpelnfenfeoeeaa
end

section
/-
  Chapter 3, in the program: MultiplyMatrices.
-/
namespace Go.Proofs.Ytpelnfenfeoeeaa
set_option maxRecDepth 100000
open Go.RowKit
def mrTo (L ys : List Int) (C i p : Nat) (t : Int) (j : Nat) : List Int := (List.range L.length).map fun q => if q / C = i ∧ q % C < j then L.getD q 0 + t * ys.getD (p * C + q % C) 0 else L.getD q 0
theorem mrTo_length (L ys : List Int) (C i p : Nat) (t : Int) (j : Nat) : (mrTo L ys C i p t j).length = L.length := by simp [mrTo]
theorem mrTo_getD (L ys : List Int) (C i p : Nat) (t : Int) (j q : Nat) (hq : q < L.length) : (mrTo L ys C i p t j).getD q 0 = if q / C = i ∧ q % C < j then L.getD q 0 + t * ys.getD (p * C + q % C) 0 else L.getD q 0 := by
  simp [mrTo, List.getD, hq]
theorem mrTo_zero (L ys : List Int) (C i p : Nat) (t : Int) : mrTo L ys C i p t 0 = L := by
  refine list_getD (mrTo_length _ _ _ _ _ _ _) fun q hq => ?_
  rw [mrTo_length] at hq
  rw [mrTo_getD _ _ _ _ _ _ _ _ hq, if_neg (by omega)]
theorem mrTo_at (L ys : List Int) (C i p : Nat) (t : Int) (j : Nat) (hj : j < C) (hq : i * C + j < L.length) : (mrTo L ys C i p t j).getD (i * C + j) 0 = L.getD (i * C + j) 0 := by
  rw [mrTo_getD _ _ _ _ _ _ _ _ hq, idx_mod hj, if_neg (by omega)]
theorem mrTo_step (L ys : List Int) (C i p : Nat) (t : Int) (j : Nat) (hj : j < C) (hq : i * C + j < L.length) : (mrTo L ys C i p t j).set (i * C + j) (L.getD (i * C + j) 0 + t * ys.getD (p * C + j) 0) = mrTo L ys C i p t (j + 1) := by
  refine list_getD (by rw [List.length_set, mrTo_length, mrTo_length]) fun q hq' => ?_
  rw [List.length_set, mrTo_length] at hq'
  rw [getD_set _ _ _ _ (by rw [mrTo_length]; exact hq), mrTo_getD _ _ _ _ _ _ _ _ hq', mrTo_getD _ _ _ _ _ _ _ _ hq']
  by_cases e : q = i * C + j
  · subst e
    rw [if_pos rfl, idx_div hj, idx_mod hj, if_pos ⟨rfl, by omega⟩]
  · rw [if_neg e]
    have hC : 0 < C := by omega
    by_cases h1 : q / C = i ∧ q % C < j
    · rw [if_pos h1, if_pos ⟨h1.1, by omega⟩]
    · rw [if_neg h1, if_neg]
      rintro ⟨h2, h3⟩
      have : q % C = j := by omega
      have hh : q / C * C + q % C = q := by rw [Nat.mul_comm]; exact Nat.div_add_mod q C
      rw [h2, this] at hh
      exact e hh.symm
set_option maxRecDepth 100000 in
set_option maxHeartbeats 1000000 in
theorem iMulStep (pb K C : Nat) (r : Value) (b : Option Addr) (nb : Nat) (ys : List Int) (n : Nat) (g m mc i p : Nat) (t : Int) (L : List Int) (w : World) (hp : Blk3 w pb 26 r (.int .i64 C) (.slice b n nb)) (hd : Rd w b ys) (hn : ys.length = n) (hy : n = K * C) (hC : C ≤ 24) (hK : K ≤ 24) (ny : nums ys = true)
    (hz : ∀ b' o : Nat, b = some ⟨b', o, none⟩ → 0 < n → b' ≠ g) (hne : pb ≠ g) (hI : Ints w g L) (hpK : p < K) (hm : ∀ j, j < C → i * C + j < m) (hl : m = L.length) (hb : m ≤ 576) (t1 : -400000000 ≤ t) (t2 : t ≤ 400000000)
    (bd : ∀ q : Nat, -4000000000000000000 ≤ L.getD q 0 ∧ L.getD q 0 ≤ 4000000000000000000) :
    Calls Try.prog 91 #[.slice (some ⟨g, 0, none⟩) m mc, .int .i64 (i : Int), .int .i64 (p : Int), .int .i64 t, .pointer (some ⟨pb, 0, none⟩)] w
      (fun e w2 => e = .returned (.slice (some ⟨g, 0, none⟩) m mc) ∧ Ints w2 g (mrTo L ys C i p t C) ∧ w.grownBy w2 (some g)) := by
  have I0 := Lib.hid hI
  have D := Lib.hid hd
  have HN := Lib.hid hn
  have HY := Lib.hid hy
  have NY := Lib.hid ny
  have HZ := Lib.hid hz
  have HM := Lib.hid hm
  have HL := Lib.hid hl
  have BD := Lib.hid bd
  have KP := Lib.hid hp
  obtain ⟨p0, p1, p2, -, -, -⟩ := hp.all
  clear hI hd hn hy ny hz hm hl bd hp
  go_enter Try.func91, Try.ntmps91
  go_wp2_with fail
  clear p0 p1 p2
  go_loopw [10, 13] (fun _ i' wr => ∃ j : Nat, i' = .int .i64 j ∧ j ≤ C ∧ Ints wr g (mrTo L ys C i p t j) ∧ w.grownBy wr (some g)) (fun _ i' _ => C - (intOf i').toNat)
  case atStart => exact ⟨0, rfl, by omega, by rw [mrTo_zero]; exact I0.out, World.grownBy.refl _ _⟩
  case round =>
    obtain ⟨j, rfl, hj, hi, hgr⟩ := hrel
    have I := Lib.hid hi
    have G := Lib.hid hgr
    clear hi hgr
    obtain ⟨p0, p1, p2, -, -, -⟩ := (KP.out.keepOne G.out hne).all
    by_cases hlt : j < C
    · have q1 : i * C + j < m := HM.out j hlt
      have q2 : p * C + j < n := by rw [HY.out]; exact idx_lt hpK hlt
      obtain ⟨b', o, rfl, hc2⟩ := D.out (p * C + j) (by rw [HN.out]; exact q2)
      have hbg : b' ≠ g := HZ.out b' o rfl (by omega)
      have hc2 := G.out.cell hc2 (by simpa using hbg)
      have hold := I.out.cell (i := i * C + j) (by rw [mrTo_length, ← HL.out]; exact q1)
      rw [mrTo_at L ys C i p t j hlt (by rw [← HL.out]; exact q1)] at hold
      have v1 := BD.out (i * C + j)
      have v2 := nums_at NY.out (j := p * C + j) (by rw [HN.out]; exact q2)
      obtain ⟨x, hx⟩ : ∃ x, L.getD (i * C + j) 0 = x := ⟨_, rfl⟩
      obtain ⟨y, hy⟩ : ∃ y, ys.getD (p * C + j) 0 = y := ⟨_, rfl⟩
      rw [hx] at hold v1
      rw [hy] at hc2 v2
      obtain ⟨v11, v12⟩ := v1
      obtain ⟨m1, m2⟩ := mul_num t y ⟨t1, t2⟩ v2
      have hfr := I.out.free (i * C + j)
      have XX := Lib.hid hx
      have YY := Lib.hid hy
      have n576 : n ≤ 576 := by rw [HY.out]; exact Nat.mul_le_mul hK hC
      have c1 : (i : Int) * (C : Int) = ((i * C : Nat) : Int) := (Int.natCast_mul _ _).symm
      have c2 : (p : Int) * (C : Int) = ((p * C : Nat) : Int) := (Int.natCast_mul _ _).symm
      have d1 : 0 ≤ (i : Int) * (C : Int) ∧ (i : Int) * (C : Int) ≤ 600 := by rw [c1]; omega
      have d2 : 0 ≤ (p : Int) * (C : Int) ∧ (p : Int) * (C : Int) ≤ 600 := by rw [c2]; omega
      have e1 : 0 ≤ (i : Int) * (C : Int) + (j : Int) := by omega
      have e2 : (i : Int) * (C : Int) + (j : Int) < (m : Int) := by rw [c1]; omega
      have e3 : ((i : Int) * (C : Int) + (j : Int)).toNat = i * C + j := by rw [c1]; omega
      have f1 : 0 ≤ (p : Int) * (C : Int) + (j : Int) := by omega
      have f2 : (p : Int) * (C : Int) + (j : Int) < (n : Int) := by rw [c2]; omega
      have f3 : ((p : Int) * (C : Int) + (j : Int)).toNat = p * C + j := by rw [c2]; omega
      obtain ⟨d11, d12⟩ := d1
      obtain ⟨d21, d22⟩ := d2
      have w1 : IntKind.i64.wrap ((i : Int) * (C : Int)) = (i : Int) * (C : Int) := IntWalk.i64_in _ (by omega)
      have w2 : IntKind.i64.wrap ((i : Int) * (C : Int) + (j : Int)) = (i : Int) * (C : Int) + (j : Int) := IntWalk.i64_in _ (by omega)
      have w3 : IntKind.i64.wrap ((p : Int) * (C : Int)) = (p : Int) * (C : Int) := IntWalk.i64_in _ (by omega)
      have w4 : IntKind.i64.wrap ((p : Int) * (C : Int) + (j : Int)) = (p : Int) * (C : Int) + (j : Int) := IntWalk.i64_in _ (by omega)
      have w5 : IntKind.i64.wrap (t * y) = t * y := IntWalk.i64_in _ (by omega)
      have w6 : IntKind.i64.wrap (x + t * y) = x + t * y := IntWalk.i64_in _ (by omega)
      clear c1 c2 hx hy v2 q1 q2
      go_wp2_with fail
      go_still_tail 23, (by kernel_rfl)
      go_wp2_with fail
      go_roundw
      case rel =>
        refine ⟨j + 1, by go_num, by omega, ?_, ?_⟩
        · rw [← mrTo_step L ys C i p t j hlt (by rw [← HL.out]; exact HM.out j hlt)]
          rw [XX.out, YY.out]
          first | exact I.out.set (i * C + j) _ | exact I.out.drew.set (i * C + j) _
        · first | exact grown_set_one G.out rfl _ | exact grown_drew_one (grown_set_one G.out rfl _)
      case measure => simp [intOf]; omega
    · obtain rfl : C = j := by omega
      go_wp2_with fail
      go_ret
      exact ⟨rfl, I.out, G.out⟩
def mulTo (R K C : Nat) (xs ys : List Int) (k : Nat) : List Int := tab R C fun i j => dot K C xs ys i j (min K (k - i * K))
theorem mulTo_length (R K C : Nat) (xs ys : List Int) (k : Nat) : (mulTo R K C xs ys k).length = R * C := tab_length _ _ _
theorem mulTo_zero (R K C : Nat) (xs ys : List Int) : mulTo R K C xs ys 0 = List.replicate (R * C) 0 := by
  apply List.ext_getElem (by simp [mulTo, tab])
  intro i h1 h2
  simp [mulTo, tab, dot]
theorem mulTo_all (R K C : Nat) (xs ys : List Int) : mulTo R K C xs ys (R * K) = mulL R K C xs ys := by
  refine tab_ext (mulTo_length _ _ _ _ _ _) fun i j hi hj => ?_
  unfold mulTo
  rw [tab_at R C _ hi hj]
  have h : (i + 1) * K ≤ R * K := Nat.mul_le_mul_right K hi
  rw [Nat.add_mul, Nat.one_mul] at h
  rw [show min K (R * K - i * K) = K by omega]
theorem mulTo_step (R K C : Nat) (xs ys : List Int) {i p : Nat} (hi : i < R) (hp : p < K) : mrTo (mulTo R K C xs ys (i * K + p)) ys C i p (xs.getD (i * K + p) 0) C = mulTo R K C xs ys (i * K + p + 1) := by
  refine tab_ext (by rw [mrTo_length, mulTo_length]) fun i' j' hi' hj' => ?_
  rw [mrTo_getD _ _ _ _ _ _ _ _ (by rw [mulTo_length]; exact idx_lt hi' hj'), idx_div hj', idx_mod hj']
  have e0 : (mulTo R K C xs ys (i * K + p)).getD (i' * C + j') 0 = dot K C xs ys i' j' (min K (i * K + p - i' * K)) := by unfold mulTo; rw [tab_at R C _ hi' hj']
  rw [e0]
  by_cases e : i' = i
  · subst e
    rw [if_pos ⟨rfl, hj'⟩, show min K (i' * K + p - i' * K) = p by omega, show min K (i' * K + p + 1 - i' * K) = p + 1 by omega]
    rfl
  · rw [if_neg (fun h => e h.1)]
    rcases Nat.lt_or_gt_of_ne e with h | h
    · have : (i' + 1) * K ≤ i * K := Nat.mul_le_mul_right K h
      rw [Nat.add_mul, Nat.one_mul] at this
      rw [show min K (i * K + p - i' * K) = K by omega, show min K (i * K + p + 1 - i' * K) = K by omega]
    · have : (i + 1) * K ≤ i' * K := Nat.mul_le_mul_right K h
      rw [Nat.add_mul, Nat.one_mul] at this
      rw [show min K (i * K + p - i' * K) = 0 by omega, show min K (i * K + p + 1 - i' * K) = 0 by omega]
theorem mulTo_bd (R K C : Nat) (xs ys : List Int) (hx : nums xs = true) (hy : nums ys = true) (lx : xs.length = R * K) (ly : ys.length = K * C) (hK : K ≤ 24) (k q : Nat) : -4000000000000000000 ≤ (mulTo R K C xs ys k).getD q 0 ∧ (mulTo R K C xs ys k).getD q 0 ≤ 4000000000000000000 := by
  rcases Nat.lt_or_ge q (R * C) with hq | hq
  · have hC : 0 < C := by
      rcases Nat.eq_zero_or_pos C with e | e
      · rw [e, Nat.mul_zero] at hq; omega
      · exact e
    have hi : q / C < R := Nat.div_lt_of_lt_mul (by rw [Nat.mul_comm]; exact hq)
    have hj : q % C < C := Nat.mod_lt q hC
    have e : q / C * C + q % C = q := by rw [Nat.mul_comm]; exact Nat.div_add_mod q C
    have := dot_bd (K := K) (C := C) (xs := xs) (ys := ys) (i := q / C) (j := q % C) (fun p hp => nums_at hx (by rw [lx]; exact idx_lt hi hp)) (fun p hp => nums_at hy (by rw [ly]; exact idx_lt hp hj)) (min K (k - q / C * K)) (Nat.min_le_left _ _)
    have e0 : (mulTo R K C xs ys k).getD q 0 = dot K C xs ys (q / C) (q % C) (min K (k - q / C * K)) := by
      rw [← e]
      unfold mulTo
      rw [tab_at R C _ hi hj, e]
    rw [e0]
    have hmin : min K (k - q / C * K) ≤ 24 := Nat.le_trans (Nat.min_le_left _ _) hK
    omega
  · have e0 : (mulTo R K C xs ys k).getD q 0 = 0 := by
      simp [List.getD, mulTo_length, hq]
    rw [e0]; omega
theorem mulStepOf (pb R K C nx n g m : Nat) (r : Value) (b : Option Addr) (nb : Nat) (xs ys : List Int) (w : World) (hp : Blk3 w pb 26 r (.int .i64 C) (.slice b n nb)) (hd : Rd w b ys) (hx : xs.length = nx) (hnx : nx = R * K) (hn : ys.length = n) (hy : n = K * C) (hR : R ≤ 24) (hK : K ≤ 24) (hC : C ≤ 24) (mx : nums xs = true) (ny : nums ys = true)
    (hz : ∀ b' o : Nat, b = some ⟨b', o, none⟩ → 0 < n → b' ≠ g) (hne : pb ≠ g) (hm : m = R * C) :
    ∀ (k : Nat) (w1 : World), k < nx → w.grownBy w1 (some g) → Ints w1 g (mulTo R K C xs ys k) → Calls Try.prog 91 #[.slice (some ⟨g, 0, none⟩) m m, .int .i64 ((k : Int) / (K : Int)), .int .i64 ((k : Int) % (K : Int)), .int .i64 (xs.getD k 0), .pointer (some ⟨pb, 0, none⟩)] w1
      (fun e w2 => e = .returned (.slice (some ⟨g, 0, none⟩) m m) ∧ Ints w2 g (mulTo R K C xs ys (k + 1)) ∧ w1.grownBy w2 (some g)) := by
  intro k w1 hk hg hI
  have hK0 : 0 < K := by
    rcases Nat.eq_zero_or_pos K with e | e
    · rw [e, Nat.mul_zero] at hnx; omega
    · exact e
  have e1 : k / K * K + k % K = k := by rw [Nat.mul_comm]; exact Nat.div_add_mod k K
  have hj : k % K < K := Nat.mod_lt k hK0
  have hi : k / K < R := Nat.div_lt_of_lt_mul (by rw [Nat.mul_comm, ← hnx]; exact hk)
  have st := mulTo_step R K C xs ys hi hj
  rw [e1] at st
  rw [← Int.natCast_ediv, ← Int.natCast_emod]
  have mle : m ≤ 576 := by rw [hm]; exact Nat.mul_le_mul hR hC
  have tb := nums_at mx (j := k) (by rw [hx]; exact hk)
  have hd1 : Rd w1 b ys := fun i hi => by
    obtain ⟨b', o, rfl, hc⟩ := hd i hi
    exact ⟨b', o, rfl, hg.cell hc (by simpa using hz b' o rfl (by omega))⟩
  refine (iMulStep pb K C r b nb ys n g m m (k / K) (k % K) (xs.getD k 0) _ w1 (hp.keepOne hg hne) hd1 hn hy hC hK ny hz hne hI hj (fun j hj' => by rw [hm]; exact idx_lt hi hj') (by rw [mulTo_length, hm]) mle tb.1 tb.2 (mulTo_bd R K C xs ys mx ny (by rw [hx, hnx]) (by rw [hn, hy]) hK k)).mono ?_
  rintro e w2 ⟨h1, h2, h3⟩
  rw [st] at h2
  exact ⟨h1, h2, h3⟩
set_option maxRecDepth 100000 in
set_option maxHeartbeats 1000000 in
theorem iMul_t (R K C : Nat) (a b : Option Addr) (m n : Nat) (xs ys : List Int) (w : World) (h : Rd w a xs) (h' : Rd w b ys) (hn : xs.length ≤ 16777216) (hn' : ys.length ≤ 16777216)
    (hm : isMat R K xs = true) (hm' : isMat K C ys = true) :
    Calls Try.prog 39 #[.agg #[.int .i64 R, .int .i64 K, .slice a xs.length m], .agg #[.int .i64 K, .int .i64 C, .slice b ys.length n]] w (MatRes (MR.done R C (mulL R K C xs ys)) w) := by
  obtain ⟨⟨r1, r2⟩, ⟨k1, k2⟩, l1, nx⟩ := isMat_says hm
  obtain ⟨-, ⟨c1, c2⟩, l2, ny⟩ := isMat_says hm'
  rw [← Int.natCast_mul] at l1 l2
  have hR : R ≤ 24 := by omega
  have hK : K ≤ 24 := by omega
  have hC : C ≤ 24 := by omega
  have hle : R * C ≤ 24 * 24 := Nat.mul_le_mul hR hC
  obtain ⟨nxs, hx⟩ : ∃ n, xs.length = n := ⟨_, rfl⟩
  obtain ⟨nys, hy⟩ : ∃ n, ys.length = n := ⟨_, rfl⟩
  have HX := Lib.hid hx
  have HY := Lib.hid hy
  have HXN : Hid (nxs = R * K) := by show nxs = R * K; omega
  have HYN : Hid (nys = K * C) := by show nys = K * C; omega
  have hmk := makeProd R C (by omega)
  have hp1 : (0 : Int) ≤ (R : Int) * (C : Int) := by rw [← Int.natCast_mul]; omega
  have hp2 : (R : Int) * (C : Int) ≤ 16777216 := by rw [← Int.natCast_mul]; omega
  have hp3 : IntKind.i64.wrap ((R : Int) * (C : Int)) = (R : Int) * (C : Int) := IntWalk.i64_in _ (by omega)
  obtain ⟨N, hN⟩ : ∃ N, R * C = N := ⟨_, rfl⟩
  have HN := Lib.hid hN
  rw [hN] at hmk hle
  have NX := Lib.hid nx
  have NY := Lib.hid ny
  have M := Lib.hid hm
  have M' := Lib.hid hm'
  rw [hx] at hn ⊢
  rw [hy] at hn' ⊢
  have B0 : ∀ o1 o2 o3, Below w.heap.size w (((w.alloc o1).alloc o2).alloc o3) := fun o1 o2 o3 => (((Below.refl _ _).alloc (Nat.le_refl _) _).alloc (by simp) _).alloc (by simp <;> omega) _
  have BH := Lib.hid B0
  have H := Lib.hid h
  have H' := Lib.hid h'
  clear r1 r2 k1 k2 c1 c2 l1 l2 nx ny hm hm' hx hy hN h h' B0
  go_enter Try.func39, Try.ntmps39
  go_wp2_with fail
  have ST := iIsMat R K a m xs _ (H.out.below (BH.out (.cells #[.int .i64 R, .int .i64 K, .slice a nxs m] 26) (.cells #[.int .i64 K, .int .i64 C, .slice b nys n] 26) (.cells #[.int .i64 0, .int .i64 0, .slice none 0 0] 26))) (by rw [HX.out]; omega)
  rw [HX.out] at ST
  refine ST.mono ?_
  clear ST
  rintro e w1 ⟨rfl, hb⟩
  have K0 : Hid (Blk3 w1 w.heap.size 26 (.int .i64 R) (.int .i64 K) (.slice a nxs m)) := (((Blk3.at_ _ _ _ _ rfl).old _).old _).keep hb (by simp <;> omega)
  have K1 : Hid (Blk3 w1 (w.heap.size + 1) 26 (.int .i64 K) (.int .i64 C) (.slice b nys n)) := ((Blk3.at_ _ _ _ _ (by simp)).old _).keep hb (by simp <;> omega)
  have K2 : Hid (Blk3 w1 (w.heap.size + 1 + 1) 26 (.int .i64 0) (.int .i64 0) (.slice none 0 0)) := (Blk3.at_ _ _ _ _ (by simp)).keep hb (by simp)
  have B : Hid (Below w.heap.size w w1) := (BH.out _ _ _).trans (hb.mono (by simp <;> omega))
  clear hb
  obtain ⟨c0, c1, c2, -, -, -⟩ := K0.out.all
  obtain ⟨d0, d1, d2, -, -, -⟩ := K1.out.all
  rw [M.out]
  go_wp2_with fail
  have ST := iIsMat K C b n ys _ (H'.out.below B.out) (by rw [HY.out]; omega)
  rw [HY.out] at ST
  refine ST.mono ?_
  clear ST
  rintro e w2 ⟨rfl, hb⟩
  have K0 := Lib.hid (K0.out.step hb)
  have K1 := Lib.hid (K1.out.step hb)
  have K2 := Lib.hid (K2.out.step hb)
  have B := Lib.hid (stepB B.out hb)
  clear hb
  obtain ⟨e0, e1, e2, -, -, -⟩ := K0.out.all
  obtain ⟨g0, g1, g2, -, -, -⟩ := K1.out.all
  rw [M'.out]
  go_upto_region 3 with fail
  refine wp_region_held_drew (S := fun w' => Below w2.heap.size w2 w') (by kernel_rfl) (Below.refl _ _).drew (fun hH => ?_)
  refine wpAnyH_take (i := 0) (v := ?_) (by simp only [List.getElem?_toArray, List.getElem?_cons_zero]; rfl) (by kernel_rfl) (by kernel_rfl) (by kernel_rfl) (by exact fun _ _ _ h => h) (Or.inl ⟨by rfl, ?_⟩) hH ?_
  rotate_left
  · (intro wS hS; (try dsimp only at hS); obtain ⟨k1, k2, k3, k4, k5, k6⟩ := six K0.out K1.out hS; go_simp; try rfl)
  try simp only [Act.put, List.setIfInBounds_toArray, List.set_cons_zero, List.set_cons_succ]
  refine wpAnyH_take (i := 1) (v := ?_) (by simp only [List.getElem?_toArray, List.getElem?_cons_succ, List.getElem?_cons_zero]; rfl) (by kernel_rfl) (by kernel_rfl) (by kernel_rfl) (by exact fun _ _ _ h => h) (Or.inl ⟨by rfl, ?_⟩) hH ?_
  rotate_left
  · (intro wS hS; (try dsimp only at hS); obtain ⟨k1, k2, k3, k4, k5, k6⟩ := six K0.out K1.out hS; go_simp; try rfl)
  try simp only [Act.put, List.setIfInBounds_toArray, List.set_cons_zero, List.set_cons_succ]
  refine wpAnyH_take (i := 2) (v := ?_) (by simp only [List.getElem?_toArray, List.getElem?_cons_succ, List.getElem?_cons_zero]; rfl) (by kernel_rfl) (by kernel_rfl) (by kernel_rfl) (by exact fun _ _ _ h => h) (Or.inl ⟨by rfl, ?_⟩) hH ?_
  rotate_left
  · (intro wS hS; (try dsimp only at hS); obtain ⟨k1, k2, k3, k4, k5, k6⟩ := six K0.out K1.out hS; go_simp; try rfl)
  try simp only [Act.put, List.setIfInBounds_toArray, List.set_cons_zero, List.set_cons_succ]
  refine wpAnyH_take (i := 3) (v := ?_) (by simp only [List.getElem?_toArray, List.getElem?_cons_succ, List.getElem?_cons_zero]; rfl) (by kernel_rfl) (by kernel_rfl) (by kernel_rfl) (by exact fun _ _ _ h => h) (Or.inl ⟨by rfl, ?_⟩) hH ?_
  rotate_left
  · (intro wS hS; (try dsimp only at hS); obtain ⟨k1, k2, k3, k4, k5, k6⟩ := six K0.out K1.out hS; go_simp; try rfl)
  try simp only [Act.put, List.setIfInBounds_toArray, List.set_cons_zero, List.set_cons_succ]
  refine wpAnyH_take (i := 4) (v := ?_) (by simp only [List.getElem?_toArray, List.getElem?_cons_succ, List.getElem?_cons_zero]; rfl) (by kernel_rfl) (by kernel_rfl) (by kernel_rfl) (by exact fun _ _ _ h => h) (Or.inl ⟨by rfl, ?_⟩) hH ?_
  rotate_left
  · (intro wS hS; (try dsimp only at hS); obtain ⟨k1, k2, k3, k4, k5, k6⟩ := six K0.out K1.out hS; go_simp; try rfl)
  try simp only [Act.put, List.setIfInBounds_toArray, List.set_cons_zero, List.set_cons_succ]
  refine wpAnyH_take (i := 5) (v := ?_) (by simp only [List.getElem?_toArray, List.getElem?_cons_succ, List.getElem?_cons_zero]; rfl) (by kernel_rfl) (by kernel_rfl) (by kernel_rfl) (by exact fun _ _ _ h => h) (Or.inl ⟨by rfl, ?_⟩) hH ?_
  rotate_left
  · (intro wS hS; clear hS; go_simp; try rfl)
  try simp only [Act.put, List.setIfInBounds_toArray, List.set_cons_zero, List.set_cons_succ]
  refine wpAnyH_take (i := 7) (v := ?_) (by simp only [List.getElem?_toArray, List.getElem?_cons_succ, List.getElem?_cons_zero]; rfl) (by kernel_rfl) (by kernel_rfl) (by kernel_rfl) (by exact fun _ _ _ h => h) (Or.inl ⟨by rfl, ?_⟩) hH ?_
  rotate_left
  · (intro wS hS; clear hS; go_simp; try rfl)
  try simp only [Act.put, List.setIfInBounds_toArray, List.set_cons_zero, List.set_cons_succ]
  refine wpAnyH_ready (rs := [6]) (by kernel_rfl) (by simp) ?_
  refine AllReadyH.cons (by simp only [List.getElem?_toArray, List.getElem?_cons_succ, List.getElem?_cons_zero]; rfl) (fun KK hKK => ?_) AllReadyH.nil
  go_simp
  have I0 : Hid (Ints (w2.alloc (.cells (madeCells #[.int .i64 0] N) 3)) w2.heap.size (List.replicate N 0)) := Ints.made N rfl
  try dsimp only
  refine hKK.out _ _ ?_ (fun hH2 => ?_)
  · exact hH.alloc hH.size _
  clear hKK KK
  have hO := hH
  clear hH
  have hH := hH2
  clear hH2
  try simp only [Act.put, List.setIfInBounds_toArray, List.set_cons_zero, List.set_cons_succ]
  refine wpAnyH_ready (rs := [8]) (by kernel_rfl) (by simp) ?_
  refine AllReadyH.cons (by simp only [List.getElem?_toArray, List.getElem?_cons_succ, List.getElem?_cons_zero]; rfl) (fun KK hKK => ?_) AllReadyH.nil
  go_simp
  refine (iFoldM (w.heap.size + 1) R K nxs a m xs w2.heap.size N N (mulTo R K C xs ys) _ HX.out (H.out.below (B.out.trans (hH.mono B.out.size))) HXN.out hR hK (by rw [mulTo_zero, HN.out]; first | exact I0.out | exact I0.out.drew) (far_of (H.out.below B.out) HX.out) (mulStepOf (w.heap.size + 1) R K C nxs nys w2.heap.size N _ b n xs ys _ (K1.out.keep hH K1.out.lt) (H'.out.below (B.out.trans (hH.mono B.out.size))) HX.out HXN.out HY.out HYN.out hR hK hC NX.out NY.out (far_of (H'.out.below B.out) HY.out) (Nat.ne_of_lt K1.out.lt) HN.out.symm)).mono ?_
  rintro e v1 ⟨rfl, hi, hg⟩
  have I2 := Lib.hid hi
  clear hi
  try dsimp only
  refine hKK.out _ _ ?_ (fun hH2 => ?_)
  · exact hH.trans (below_of_one hg (Nat.le_refl _) hH.size)
  clear hKK KK
  have hO := hH
  clear hH
  have hH := hH2
  clear hH2
  try simp only [Act.put, List.setIfInBounds_toArray, List.set_cons_zero, List.set_cons_succ]
  refine wpAnyH_take (i := 9) (v := ?_) (by simp only [List.getElem?_toArray, List.getElem?_cons_succ, List.getElem?_cons_zero]; rfl) (by kernel_rfl) (by kernel_rfl) (by kernel_rfl) (by exact fun _ _ _ h => h) (Or.inl ⟨by rfl, ?_⟩) hH ?_
  rotate_left
  · (intro wS hS; clear hS; go_simp; try rfl)
  try simp only [Act.put, List.setIfInBounds_toArray, List.set_cons_zero, List.set_cons_succ]
  refine wpAnyH_done (by kernel_rfl) ?_ _
  have hb := hH
  clear hH hO hg
  have EQ : mulTo R K C xs ys nxs = mulL R K C xs ys := by rw [HXN.out]; exact mulTo_all R K C xs ys
  rw [EQ] at I2
  have HL : Hid ((mulL R K C xs ys).length = N) := by show (mulL R K C xs ys).length = N; unfold mulL; rw [tab_length, HN.out]
  have gl := K2.out.lt
  have K0 := Lib.hid (K0.out.step hb)
  have K1 := Lib.hid (K1.out.step hb)
  have R2 := Lib.hid (K2.out.step hb)
  have B := Lib.hid (stepB B.out hb)
  clear hb EQ
  obtain ⟨u0, u1, u2, -, -, -⟩ := K0.out.all
  obtain ⟨y0, y1, y2, -, -, -⟩ := K1.out.all
  go_wp2_with fail
  have ST := iDone R C (some ⟨w2.heap.size, 0, none⟩) N (mulL R K C xs ys) _ I2.out.rd (by rw [HL.out]; omega)
  rw [HL.out] at ST
  refine ST.mono ?_
  clear ST
  rintro e w4 ⟨rfl, hb⟩
  have R2 := Lib.hid (R2.out.step hb)
  have I2 := Lib.hid (I2.out.keep hb I2.out.lt)
  have B := Lib.hid (stepB B.out hb)
  clear hb
  obtain ⟨s0, s1, s2, t0, t1, t2⟩ := R2.out.all
  have be : ∀ x y z, Below w.heap.size w (((w4.setCell ⟨w.heap.size + 1 + 1, 0, none⟩ x).setCell ⟨w.heap.size + 1 + 1, 1, none⟩ y).setCell ⟨w.heap.size + 1 + 1, 2, none⟩ z) := fun x y z =>
    (((B.out.setCell (by show w.heap.size ≤ w.heap.size + 1 + 1; omega) _).setCell (by show w.heap.size ≤ w.heap.size + 1 + 1; omega) _).setCell (by show w.heap.size ≤ w.heap.size + 1 + 1; omega) _)
  have BE := Lib.hid be
  clear be
  rcases Bool.eq_false_or_eq_true (isMat R C (mulL R K C xs ys)) with hd | hd
  · have E : Hid (MR.done R C (mulL R K C xs ys) = ⟨true, R, C, mulL R K C xs ys⟩) := by show MR.done R C (mulL R K C xs ys) = _; unfold MR.done; rw [hd]; rfl
    rw [hd]
    clear hd
    unfold DoneRes
    go_wp2_with fail
    obtain ⟨E0, E1, E2, -, -, -⟩ := (((R2.out.set0 (.int .i64 R)).set1 (.int .i64 C)).set2 (.slice (some ⟨w2.heap.size, 0, none⟩) N N)).all
    rw [E.out]
    refine bodyPost_ret (v := .tuple #[.agg #[.int .i64 R, .int .i64 C, .slice (some ⟨w2.heap.size, 0, none⟩) N N], .bool true]) (by simp [results, Try.results39, go_sem, E0, E1, E2]) rfl ⟨_, rfl, ?_, ?_⟩
    · refine .inr ⟨w2.heap.size, N, by rw [HL.out], by omega, ?_, by rw [HL.out]; omega, by rw [HL.out]; omega⟩
      exact ((I2.out.far (by show w2.heap.size ≠ w.heap.size + 1 + 1; omega) _).far (by show w2.heap.size ≠ w.heap.size + 1 + 1; omega) _).far (by show w2.heap.size ≠ w.heap.size + 1 + 1; omega) _
    · exact BE.out _ _ _
  · have E : Hid (MR.done R C (mulL R K C xs ys) = MR.no) := by show MR.done R C (mulL R K C xs ys) = _; unfold MR.done; rw [hd]; rfl
    rw [hd]
    clear hd
    unfold DoneRes
    go_wp2_with fail
    obtain ⟨E0, E1, E2, -, -, -⟩ := (((R2.out.set0 (.int .i64 0)).set1 (.int .i64 0)).set2 (.slice none 0 0)).all
    rw [E.out]
    exact bodyPost_ret (v := .tuple #[.agg #[.int .i64 0, .int .i64 0, .slice none 0 0], .bool false]) (by simp [results, Try.results39, go_sem, E0, E1, E2]) rfl ⟨_, rfl, .inl ⟨rfl, rfl⟩, BE.out _ _ _⟩
set_option maxRecDepth 100000 in
set_option maxHeartbeats 1000000 in
theorem iMul (r c r' c' : Int) (a b : Option Addr) (m n : Nat) (xs ys : List Int) (w : World) (h : Rd w a xs) (h' : Rd w b ys) (hn : xs.length ≤ 16777216) (hn' : ys.length ≤ 16777216) :
    Calls Try.prog 39 #[.agg #[.int .i64 r, .int .i64 c, .slice a xs.length m], .agg #[.int .i64 r', .int .i64 c', .slice b ys.length n]] w (MatRes (mulM r c xs r' c' ys) w) := by
  rcases Bool.eq_false_or_eq_true (isMat r c xs) with hm | hm
  · rcases Bool.eq_false_or_eq_true (isMat r' c' ys) with hm' | hm'
    · by_cases e1 : c = r'
      · subst e1
        obtain ⟨⟨r1, r2⟩, ⟨k1, k2⟩, -, -⟩ := isMat_says hm
        obtain ⟨-, ⟨c1, c2⟩, -, -⟩ := isMat_says hm'
        obtain ⟨R, rfl⟩ := Int.eq_ofNat_of_zero_le r1
        obtain ⟨K, rfl⟩ := Int.eq_ofNat_of_zero_le k1
        obtain ⟨C, rfl⟩ := Int.eq_ofNat_of_zero_le c1
        have E : mulM R K xs K C ys = MR.done R C (mulL R K C xs ys) := by unfold mulM; rw [hm, hm']; simp
        rw [E]
        exact iMul_t R K C a b m n xs ys w h h' hn hn' hm hm'
      · have E : Hid (mulM r c xs r' c' ys = MR.no) := by show mulM r c xs r' c' ys = _; unfold mulM; rw [hm, hm']; simp [e1]
        have n1 : (c == r') = false := by simpa using e1
        have n2 : (c != r') = true := by simpa using e1
        have B0 : ∀ o1 o2 o3, Below w.heap.size w (((w.alloc o1).alloc o2).alloc o3) := fun o1 o2 o3 => (((Below.refl _ _).alloc (Nat.le_refl _) _).alloc (by simp) _).alloc (by simp <;> omega) _
        have BH := Lib.hid B0
        have H := Lib.hid h
        have H' := Lib.hid h'
        clear B0 h h'
        have M := Lib.hid hm
        have M' := Lib.hid hm'
        clear hm hm' e1
        go_enter Try.func39, Try.ntmps39
        go_wp2_with fail
        refine (iIsMat r c a m xs _ (H.out.below (BH.out (.cells #[.int .i64 r, .int .i64 c, .slice a xs.length m] 26) (.cells #[.int .i64 r', .int .i64 c', .slice b ys.length n] 26) (.cells #[.int .i64 0, .int .i64 0, .slice none 0 0] 26))) hn).mono ?_
        rintro e w1 ⟨rfl, hb⟩
        have K0 : Hid (Blk3 w1 w.heap.size 26 (.int .i64 r) (.int .i64 c) (.slice a xs.length m)) := (((Blk3.at_ _ _ _ _ rfl).old _).old _).keep hb (by simp <;> omega)
        have K1 : Hid (Blk3 w1 (w.heap.size + 1) 26 (.int .i64 r') (.int .i64 c') (.slice b ys.length n)) := ((Blk3.at_ _ _ _ _ (by simp)).old _).keep hb (by simp <;> omega)
        have K2 : Hid (Blk3 w1 (w.heap.size + 1 + 1) 26 (.int .i64 0) (.int .i64 0) (.slice none 0 0)) := (Blk3.at_ _ _ _ _ (by simp)).keep hb (by simp)
        have B : Hid (Below w.heap.size w w1) := (BH.out _ _ _).trans (hb.mono (by simp <;> omega))
        clear hb
        obtain ⟨ca0, ca1, ca2, -, -, -⟩ := K0.out.all
        obtain ⟨cb0, cb1, cb2, -, -, -⟩ := K1.out.all
        obtain ⟨cc0, cc1, cc2, ff0, ff1, ff2⟩ := K2.out.all
        rw [M.out]
        go_wp2_with fail
        refine (iIsMat r' c' b n ys _ (H'.out.below B.out) hn').mono ?_
        rintro e w2 ⟨rfl, hb⟩
        have K0 := Lib.hid (K0.out.keep hb K0.out.lt)
        have K1 := Lib.hid (K1.out.keep hb K1.out.lt)
        have K2 := Lib.hid (K2.out.keep hb K2.out.lt)
        have B := Lib.hid (B.out.trans (hb.mono B.out.size))
        clear hb
        obtain ⟨da0, da1, da2, -, -, -⟩ := K0.out.all
        obtain ⟨db0, db1, db2, -, -, -⟩ := K1.out.all
        obtain ⟨dc0, dc1, dc2, gf0, gf1, gf2⟩ := K2.out.all
        rw [M'.out]
        go_wp2_with fail
        obtain ⟨E0, E1, E2, -, -, -⟩ := (((K2.out.set0 (.int .i64 0)).set1 (.int .i64 0)).set2 (.slice none 0 0)).all
        rw [E.out]
        exact bodyPost_ret (v := .tuple #[.agg #[.int .i64 0, .int .i64 0, .slice none 0 0], .bool false]) (by simp [results, Try.results39, go_sem, E0, E1, E2]) rfl ⟨_, rfl, .inl ⟨rfl, rfl⟩, ((B.out.setCell (by show w.heap.size ≤ w.heap.size + 1 + 1; omega) _).setCell (by show w.heap.size ≤ w.heap.size + 1 + 1; omega) _).setCell (by show w.heap.size ≤ w.heap.size + 1 + 1; omega) _⟩
    · have E : Hid (mulM r c xs r' c' ys = MR.no) := by show mulM r c xs r' c' ys = _; unfold mulM; rw [hm, hm']; simp
      have B0 : ∀ o1 o2 o3, Below w.heap.size w (((w.alloc o1).alloc o2).alloc o3) := fun o1 o2 o3 => (((Below.refl _ _).alloc (Nat.le_refl _) _).alloc (by simp) _).alloc (by simp <;> omega) _
      have BH := Lib.hid B0
      have H := Lib.hid h
      have H' := Lib.hid h'
      clear B0 h h'
      have M := Lib.hid hm
      have M' := Lib.hid hm'
      clear hm hm'
      go_enter Try.func39, Try.ntmps39
      go_wp2_with fail
      refine (iIsMat r c a m xs _ (H.out.below (BH.out (.cells #[.int .i64 r, .int .i64 c, .slice a xs.length m] 26) (.cells #[.int .i64 r', .int .i64 c', .slice b ys.length n] 26) (.cells #[.int .i64 0, .int .i64 0, .slice none 0 0] 26))) hn).mono ?_
      rintro e w1 ⟨rfl, hb⟩
      have K0 : Hid (Blk3 w1 w.heap.size 26 (.int .i64 r) (.int .i64 c) (.slice a xs.length m)) := (((Blk3.at_ _ _ _ _ rfl).old _).old _).keep hb (by simp <;> omega)
      have K1 : Hid (Blk3 w1 (w.heap.size + 1) 26 (.int .i64 r') (.int .i64 c') (.slice b ys.length n)) := ((Blk3.at_ _ _ _ _ (by simp)).old _).keep hb (by simp <;> omega)
      have K2 : Hid (Blk3 w1 (w.heap.size + 1 + 1) 26 (.int .i64 0) (.int .i64 0) (.slice none 0 0)) := (Blk3.at_ _ _ _ _ (by simp)).keep hb (by simp)
      have B : Hid (Below w.heap.size w w1) := (BH.out _ _ _).trans (hb.mono (by simp <;> omega))
      clear hb
      obtain ⟨ca0, ca1, ca2, -, -, -⟩ := K0.out.all
      obtain ⟨cb0, cb1, cb2, -, -, -⟩ := K1.out.all
      obtain ⟨cc0, cc1, cc2, ff0, ff1, ff2⟩ := K2.out.all
      rw [M.out]
      go_wp2_with fail
      refine (iIsMat r' c' b n ys _ (H'.out.below B.out) hn').mono ?_
      rintro e w2 ⟨rfl, hb⟩
      have K0 := Lib.hid (K0.out.keep hb K0.out.lt)
      have K1 := Lib.hid (K1.out.keep hb K1.out.lt)
      have K2 := Lib.hid (K2.out.keep hb K2.out.lt)
      have B := Lib.hid (B.out.trans (hb.mono B.out.size))
      clear hb
      obtain ⟨da0, da1, da2, -, -, -⟩ := K0.out.all
      obtain ⟨db0, db1, db2, -, -, -⟩ := K1.out.all
      obtain ⟨dc0, dc1, dc2, gf0, gf1, gf2⟩ := K2.out.all
      rw [M'.out]
      go_wp2_with fail
      obtain ⟨E0, E1, E2, -, -, -⟩ := (((K2.out.set0 (.int .i64 0)).set1 (.int .i64 0)).set2 (.slice none 0 0)).all
      rw [E.out]
      exact bodyPost_ret (v := .tuple #[.agg #[.int .i64 0, .int .i64 0, .slice none 0 0], .bool false]) (by simp [results, Try.results39, go_sem, E0, E1, E2]) rfl ⟨_, rfl, .inl ⟨rfl, rfl⟩, ((B.out.setCell (by show w.heap.size ≤ w.heap.size + 1 + 1; omega) _).setCell (by show w.heap.size ≤ w.heap.size + 1 + 1; omega) _).setCell (by show w.heap.size ≤ w.heap.size + 1 + 1; omega) _⟩
  · have E : Hid (mulM r c xs r' c' ys = MR.no) := by show mulM r c xs r' c' ys = _; unfold mulM; rw [hm]; simp
    have B0 : ∀ o1 o2 o3, Below w.heap.size w (((w.alloc o1).alloc o2).alloc o3) := fun o1 o2 o3 => (((Below.refl _ _).alloc (Nat.le_refl _) _).alloc (by simp) _).alloc (by simp <;> omega) _
    have BH := Lib.hid B0
    have H := Lib.hid h
    have H' := Lib.hid h'
    clear B0 h h'
    have M := Lib.hid hm
    clear hm hn'
    go_enter Try.func39, Try.ntmps39
    go_wp2_with fail
    refine (iIsMat r c a m xs _ (H.out.below (BH.out (.cells #[.int .i64 r, .int .i64 c, .slice a xs.length m] 26) (.cells #[.int .i64 r', .int .i64 c', .slice b ys.length n] 26) (.cells #[.int .i64 0, .int .i64 0, .slice none 0 0] 26))) hn).mono ?_
    rintro e w1 ⟨rfl, hb⟩
    have K0 : Hid (Blk3 w1 w.heap.size 26 (.int .i64 r) (.int .i64 c) (.slice a xs.length m)) := (((Blk3.at_ _ _ _ _ rfl).old _).old _).keep hb (by simp <;> omega)
    have K1 : Hid (Blk3 w1 (w.heap.size + 1) 26 (.int .i64 r') (.int .i64 c') (.slice b ys.length n)) := ((Blk3.at_ _ _ _ _ (by simp)).old _).keep hb (by simp <;> omega)
    have K2 : Hid (Blk3 w1 (w.heap.size + 1 + 1) 26 (.int .i64 0) (.int .i64 0) (.slice none 0 0)) := (Blk3.at_ _ _ _ _ (by simp)).keep hb (by simp)
    have B : Hid (Below w.heap.size w w1) := (BH.out _ _ _).trans (hb.mono (by simp <;> omega))
    clear hb
    obtain ⟨ca0, ca1, ca2, -, -, -⟩ := K0.out.all
    obtain ⟨cb0, cb1, cb2, -, -, -⟩ := K1.out.all
    obtain ⟨cc0, cc1, cc2, ff0, ff1, ff2⟩ := K2.out.all
    rw [M.out]
    go_wp2_with fail
    obtain ⟨E0, E1, E2, -, -, -⟩ := (((K2.out.set0 (.int .i64 0)).set1 (.int .i64 0)).set2 (.slice none 0 0)).all
    rw [E.out]
    exact bodyPost_ret (v := .tuple #[.agg #[.int .i64 0, .int .i64 0, .slice none 0 0], .bool false]) (by simp [results, Try.results39, go_sem, E0, E1, E2]) rfl ⟨_, rfl, .inl ⟨rfl, rfl⟩, ((B.out.setCell (by show w.heap.size ≤ w.heap.size + 1 + 1; omega) _).setCell (by show w.heap.size ≤ w.heap.size + 1 + 1; omega) _).setCell (by show w.heap.size ≤ w.heap.size + 1 + 1; omega) _⟩
end Go.Proofs.Ytpelnfenfeoeeaa
end

section
/-
  Chapter 3, in the model: l3Mul.
-/
namespace Go.Proofs.Ytpelnfenfeoeeaa
open Go.RowKit
set_option maxRecDepth 100000 in
set_option maxHeartbeats 4000000 in
theorem sMulL (R K C : Nat) (a b : Option Addr) (m n : Nat) (xs ys : List Int) (w : World) (h : Rd w a xs) (h' : Rd w b ys) (hR : R ≤ 24) (hK : K ≤ 24) (hC : C ≤ 24) (hx : xs.length = R * K) (hy : ys.length = K * C)
    (nx : nums xs = true) (ny : nums ys = true) :
    Calls Try.prog 104 #[.agg #[.int .i64 R, .int .i64 K, .slice a xs.length m], .agg #[.int .i64 K, .int .i64 C, .slice b ys.length n]] w (NewMat R C (mulL R K C xs ys) w) := by
  have hle : R * C ≤ 24 * 24 := Nat.mul_le_mul hR hC
  have B0 : ∀ o1 o2 o3, Below w.heap.size w (((w.alloc o1).alloc o2).alloc o3) := fun o1 o2 o3 => (((Below.refl _ _).alloc (Nat.le_refl _) _).alloc (by simp) _).alloc (by simp <;> omega) _
  have BH := Lib.hid B0
  have H := Lib.hid h
  have H' := Lib.hid h'
  have NX := Lib.hid nx
  have NY := Lib.hid ny
  obtain ⟨N, hN⟩ : ∃ N, R * C = N := ⟨_, rfl⟩
  obtain ⟨NA, hNA⟩ : ∃ NA, R * K = NA := ⟨_, rfl⟩
  obtain ⟨NB, hNB⟩ : ∃ NB, K * C = NB := ⟨_, rfl⟩
  have hle1 : NA ≤ 24 * 24 := by rw [← hNA]; exact Nat.mul_le_mul hR hK
  have hle2 : NB ≤ 24 * 24 := by rw [← hNB]; exact Nat.mul_le_mul hK hC
  rw [hNA] at hx
  rw [hNB] at hy
  rw [hN] at hle
  have HX := Lib.hid hx
  have HY := Lib.hid hy
  have HN := Lib.hid hN
  have HNA := Lib.hid hNA
  have HNB := Lib.hid hNB
  rw [hx, hy]
  clear B0 h h' hx hy hN hNA hNB nx ny
  go_enter Try.func104, Try.ntmps104
  go_wp2_with fail
  refine (sNew R C _ (by omega) (by omega)).mono ?_
  rintro e w1 ⟨g, rfl, hg, hi, hb⟩
  rw [HN.out] at hi ⊢
  simp only [List.length_replicate]
  have K0 : Hid (Blk3 w1 w.heap.size 26 (.int .i64 R) (.int .i64 K) (.slice a NA m)) := (((Blk3.at_ _ _ _ _ rfl).old _).old _).keep hb (by simp <;> omega)
  have K1 : Hid (Blk3 w1 (w.heap.size + 1) 26 (.int .i64 K) (.int .i64 C) (.slice b NB n)) := ((Blk3.at_ _ _ _ _ (by simp)).old _).keep hb (by simp <;> omega)
  have K2 : Hid (Blk3 w1 (w.heap.size + 1 + 1) 26 (.int .i64 0) (.int .i64 0) (.slice none 0 0)) := (Blk3.at_ _ _ _ _ (by simp)).keep hb (by simp)
  have B : Hid (Below w.heap.size w w1) := (BH.out _ _ _).trans (hb.mono (by simp <;> omega))
  have l1 : w.heap.size + 1 + 1 < g := by simp at hg; omega
  have gl := hi.lt
  have I := Lib.hid (hi.old (.cells #[.int .i64 R, .int .i64 C, .slice (some ⟨g, 0, none⟩) N N] 26))
  have BA : Hid (Below w.heap.size w (w1.alloc (.cells #[.int .i64 R, .int .i64 C, .slice (some ⟨g, 0, none⟩) N N] 26))) := B.out.alloc B.out.size _
  have K0 := Lib.hid (K0.out.old (.cells #[.int .i64 R, .int .i64 C, .slice (some ⟨g, 0, none⟩) N N] 26))
  have K1 := Lib.hid (K1.out.old (.cells #[.int .i64 R, .int .i64 C, .slice (some ⟨g, 0, none⟩) N N] 26))
  have K2 := Lib.hid (K2.out.old (.cells #[.int .i64 R, .int .i64 C, .slice (some ⟨g, 0, none⟩) N N] 26))
  have K5 : Hid (Blk3 (w1.alloc (.cells #[.int .i64 R, .int .i64 C, .slice (some ⟨g, 0, none⟩) N N] 26)) w1.heap.size 26 (.int .i64 R) (.int .i64 C) (.slice (some ⟨g, 0, none⟩) N N)) := Blk3.at_ _ _ _ _ rfl
  clear hb hi hg
  go_wp2_with fail
  go_loopw [6] (fun i wr => ∃ (r : Nat) (zs : List Int), i = .int .i64 r ∧ r ≤ R ∧ Filled R C (fun i j => dot K C xs ys i j K) r 0 zs ∧ Ints wr g zs ∧ (w1.alloc (.cells #[.int .i64 R, .int .i64 C, .slice (some ⟨g, 0, none⟩) N N] 26)).grownBy wr (some g)) (fun i _ => R - (intOf i).toNat)
  case atStart => exact ⟨0, _, rfl, by omega, by have := Filled.start R C (fun i j => dot K C xs ys i j K); rw [HN.out] at this; exact this, I.out, World.grownBy.refl _ _⟩
  case round =>
    obtain ⟨r, zs, rfl, hr, ht, hi, hgr⟩ := hrel
    have T := Lib.hid ht
    have I := Lib.hid hi
    have G := Lib.hid hgr
    clear ht hi hgr
    have R0 := Lib.hid (K0.out.keepOne G.out (by omega))
    have R1 := Lib.hid (K1.out.keepOne G.out (by omega))
    have R2 := Lib.hid (K2.out.keepOne G.out (by omega))
    have R5 := Lib.hid (K5.out.keepOne G.out (by omega))
    obtain ⟨p0, p1, p2, -, -, -⟩ := R0.out.all
    obtain ⟨q0, q1, q2, -, -, -⟩ := R1.out.all
    obtain ⟨r0, r1, r2, -, -, -⟩ := R5.out.all
    by_cases hlt : r < R
    · go_wp2_with fail
      go_loopw [7] (fun j wq => ∃ (c : Nat) (us : List Int), j = .int .i64 c ∧ c ≤ C ∧ Filled R C (fun i j => dot K C xs ys i j K) r c us ∧ Ints wq g us ∧ (w1.alloc (.cells #[.int .i64 R, .int .i64 C, .slice (some ⟨g, 0, none⟩) N N] 26)).grownBy wq (some g)) (fun j _ => C - (intOf j).toNat)
      case atStart => exact ⟨0, zs, rfl, by omega, T.out, I.out, G.out⟩
      case round =>
        obtain ⟨c, us, rfl, hc, ht, hi, hgr⟩ := hrel
        have T' := Lib.hid ht
        have I' := Lib.hid hi
        have G' := Lib.hid hgr
        clear ht hi hgr p0 p1 p2 q0 q1 q2 r0 r1 r2
        have S0 := Lib.hid (K0.out.keepOne G'.out (by omega))
        have S1 := Lib.hid (K1.out.keepOne G'.out (by omega))
        have S5 := Lib.hid (K5.out.keepOne G'.out (by omega))
        obtain ⟨p0, p1, p2, -, -, -⟩ := S0.out.all
        obtain ⟨q0, q1, q2, -, -, -⟩ := S1.out.all
        obtain ⟨r0, r1, r2, -, -, -⟩ := S5.out.all
        by_cases hlc : c < C
        · have dx : ∀ p : Nat, p < K → NumP (xs.getD (r * K + p) 0) := fun p hp => nums_at NX.out (by rw [HX.out, ← HNA.out]; exact idx_lt hlt hp)
          have dy : ∀ p : Nat, p < K → NumP (ys.getD (p * C + c) 0) := fun p hp => nums_at NY.out (by rw [HY.out, ← HNB.out]; exact idx_lt hp hlc)
          have DB := Lib.hid (dot_bd dx dy)
          have DX := Lib.hid dx
          have DY := Lib.hid dy
          clear dx dy
          go_wp2_with fail
          go_loopw [8, 9] (fun s t wk => ∃ k : Nat, t = .int .i64 k ∧ s = .int .i64 (dot K C xs ys r c k) ∧ k ≤ K ∧ ∃ q, wk = wr.drewN q) (fun _ t _ => K - (intOf t).toNat)
          case atStart => exact ⟨0, rfl, rfl, by omega, 0, rfl⟩
          case round =>
            obtain ⟨k, rfl, rfl, hk, d, rfl⟩ := hrel
            obtain ⟨b1, b2⟩ := DB.out k hk
            obtain ⟨D, hD⟩ : ∃ D, dot K C xs ys r c k = D := ⟨_, rfl⟩
            rw [hD] at b1 b2
            rw [hD]
            have HD := Lib.hid hD
            clear hD
            by_cases hlk : k < K
            · have i1 : r * K + k < NA := by rw [← HNA.out]; exact idx_lt hlt hlk
              have i2 : k * C + c < NB := by rw [← HNB.out]; exact idx_lt hlk hlc
              obtain ⟨x, hx⟩ : ∃ x, xs.getD (r * K + k) 0 = x := ⟨_, rfl⟩
              obtain ⟨y, hy⟩ : ∃ y, ys.getD (k * C + c) 0 = y := ⟨_, rfl⟩
              have n1 := DX.out k hlk
              have n2 := DY.out k hlk
              obtain ⟨x1, o1, rfl, hc1⟩ := H.out (r * K + k) (by rw [HX.out]; exact i1)
              obtain ⟨x2, o2, rfl, hc2⟩ := H'.out (k * C + c) (by rw [HY.out]; exact i2)
              have u1 := World.block_lt_of_cell? w _ hc1
              have u2 := World.block_lt_of_cell? w _ hc2
              have hc1 := G'.out.cell ((BA.out.cell (p := ⟨x1, o1 + (r * K + k), none⟩) u1).trans hc1) (by simp; simp at u1; omega)
              have hc2 := G'.out.cell ((BA.out.cell (p := ⟨x2, o2 + (k * C + c), none⟩) u2).trans hc2) (by simp; simp at u2; omega)
              rw [hx] at hc1 n1
              rw [hy] at hc2 n2
              obtain ⟨n11, n12⟩ := n1
              obtain ⟨n21, n22⟩ := n2
              obtain ⟨m1, m2⟩ := mul_num x y ⟨n11, n12⟩ ⟨n21, n22⟩
              have XX := Lib.hid hx
              have YY := Lib.hid hy
              have c1 : (r : Int) * (K : Int) = ((r * K : Nat) : Int) := (Int.natCast_mul _ _).symm
              have c2 : (k : Int) * (C : Int) = ((k * C : Nat) : Int) := (Int.natCast_mul _ _).symm
              have d1 : 0 ≤ (r : Int) * (K : Int) ∧ (r : Int) * (K : Int) ≤ 600 := by rw [c1]; omega
              have d2 : 0 ≤ (k : Int) * (C : Int) ∧ (k : Int) * (C : Int) ≤ 600 := by rw [c2]; omega
              have e1 : 0 ≤ (r : Int) * (K : Int) + (k : Int) := by omega
              have e2 : (r : Int) * (K : Int) + (k : Int) < (NA : Int) := by rw [c1]; omega
              have e3 : ((r : Int) * (K : Int) + (k : Int)).toNat = r * K + k := by rw [c1]; omega
              have e4 : 0 ≤ (k : Int) * (C : Int) + (c : Int) := by omega
              have e5 : (k : Int) * (C : Int) + (c : Int) < (NB : Int) := by rw [c2]; omega
              have e6 : ((k : Int) * (C : Int) + (c : Int)).toNat = k * C + c := by rw [c2]; omega
              obtain ⟨d11, d12⟩ := d1
              obtain ⟨d21, d22⟩ := d2
              have v1 : IntKind.i64.wrap ((r : Int) * (K : Int)) = (r : Int) * (K : Int) := IntWalk.i64_in _ (by omega)
              have v2 : IntKind.i64.wrap ((r : Int) * (K : Int) + (k : Int)) = (r : Int) * (K : Int) + (k : Int) := IntWalk.i64_in _ (by omega)
              have v3 : IntKind.i64.wrap ((k : Int) * (C : Int)) = (k : Int) * (C : Int) := IntWalk.i64_in _ (by omega)
              have v4 : IntKind.i64.wrap ((k : Int) * (C : Int) + (c : Int)) = (k : Int) * (C : Int) + (c : Int) := IntWalk.i64_in _ (by omega)
              have v5 : IntKind.i64.wrap (x * y) = x * y := IntWalk.i64_in _ (by omega)
              have v6 : IntKind.i64.wrap (D + x * y) = D + x * y := IntWalk.i64_in _ (by omega)
              clear hx hy u1 u2 c1 c2
              go_wp2_with fail
              go_quiet (fail)
              go_wp2_with fail
              go_roundw
              case rel =>
                refine ⟨k + 1, by go_num, ?_, by omega, _, rfl⟩
                simp only [dot]
                rw [HD.out, XX.out, YY.out]
              case measure => simp [intOf]; omega
            · have hkn : k = K := by omega
              subst hkn
              have i1 : r * C + c < N := by rw [← HN.out]; exact idx_lt hlt hlc
              have hold := I'.out.cell (i := r * C + c) (by rw [T'.out.1, HN.out]; exact i1)
              have hfr := I'.out.free (r * C + c)
              have c1 : (r : Int) * (C : Int) = ((r * C : Nat) : Int) := (Int.natCast_mul _ _).symm
              have d1 : 0 ≤ (r : Int) * (C : Int) ∧ (r : Int) * (C : Int) ≤ 600 := by rw [c1]; omega
              have e1 : 0 ≤ (r : Int) * (C : Int) + (c : Int) := by omega
              have e2 : (r : Int) * (C : Int) + (c : Int) < (N : Int) := by rw [c1]; omega
              have e3 : ((r : Int) * (C : Int) + (c : Int)).toNat = r * C + c := by rw [c1]; omega
              obtain ⟨d11, d12⟩ := d1
              clear c1
              go_wp2_with fail
              go_roundw
              case rel =>
                refine ⟨c + 1, _, by go_num, by omega, T'.out.step hlt hlc, ?_, ?_⟩
                · rw [HD.out]
                  exact (I'.out.drewN d).set (r * C + c) D
                · exact grown_set_one (grown_drewN_one G'.out d) rfl _
              case measure => simp [intOf]; omega
        · have hqn : c = C := by omega
          subst hqn
          go_wp2_with fail
          go_roundw
          case rel => exact ⟨r + 1, us, by go_num, by omega, T'.out.row, I'.out, G'.out⟩
          case measure => simp [intOf]; omega
    · have hkn : r = R := by omega
      subst hkn
      have hz := T.out.whole
      subst hz
      have hl : (tab r C fun i j => dot K C xs ys i j K).length = N := by rw [← HN.out]; exact tab_length _ _ _
      have HL := Lib.hid hl
      have B := Lib.hid (BA.out.trans (below_of_one G.out (by omega) BA.out.size))
      clear hl
      obtain ⟨s0, s1, s2, t0, t1, t2⟩ := R2.out.all
      go_wp2_with fail
      obtain ⟨E0, E1, E2, -, -, -⟩ := (((R2.out.set0 (.int .i64 r)).set1 (.int .i64 C)).set2 (.slice (some ⟨g, 0, none⟩) N N)).all
      refine bodyPost_ret (v := .agg #[.int .i64 r, .int .i64 C, .slice (some ⟨g, 0, none⟩) N N]) (by simp [results, Try.results104, go_sem, E0, E1, E2]) rfl ⟨g, by unfold mulL; rw [HL.out], by omega, ?_, ?_⟩
      · exact ((I.out.far (by show g ≠ w.heap.size + 1 + 1; omega) _).far (by show g ≠ w.heap.size + 1 + 1; omega) _).far (by show g ≠ w.heap.size + 1 + 1; omega) _
      · exact ((B.out.setCell (by show w.heap.size ≤ w.heap.size + 1 + 1; omega) _).setCell (by show w.heap.size ≤ w.heap.size + 1 + 1; omega) _).setCell (by show w.heap.size ≤ w.heap.size + 1 + 1; omega) _
end Go.Proofs.Ytpelnfenfeoeeaa
end

section
/-
  Chapter 3, in the model: MultiplyMatrices.
-/
namespace Go.Proofs.Ytpelnfenfeoeeaa
open Go.RowKit
set_option maxRecDepth 100000 in
set_option maxHeartbeats 1000000 in
theorem sMul_t (R K C : Nat) (a b : Option Addr) (m n : Nat) (xs ys : List Int) (w : World) (h : Rd w a xs) (h' : Rd w b ys) (hn : xs.length ≤ 16777216) (hn' : ys.length ≤ 16777216)
    (hm : isMat R K xs = true) (hm' : isMat K C ys = true) :
    Calls Try.prog 51 #[.agg #[.int .i64 R, .int .i64 K, .slice a xs.length m], .agg #[.int .i64 K, .int .i64 C, .slice b ys.length n]] w (MatRes (MR.done R C (mulL R K C xs ys)) w) := by
  obtain ⟨⟨r1, r2⟩, ⟨k1, k2⟩, l1, nx⟩ := isMat_says hm
  obtain ⟨-, ⟨c1, c2⟩, l2, ny⟩ := isMat_says hm'
  rw [← Int.natCast_mul] at l1 l2
  have hle : R * C ≤ 24 * 24 := Nat.mul_le_mul (by omega) (by omega)
  have hl1 : xs.length = R * K := by omega
  have hl2 : ys.length = K * C := by omega
  have HL1 := Lib.hid hl1
  have HL2 := Lib.hid hl2
  have NX := Lib.hid nx
  have NY := Lib.hid ny
  clear l1 l2 hl1 hl2 nx ny
  have B0 : ∀ o1 o2 o3, Below w.heap.size w (((w.alloc o1).alloc o2).alloc o3) := fun o1 o2 o3 => (((Below.refl _ _).alloc (Nat.le_refl _) _).alloc (by simp) _).alloc (by simp <;> omega) _
  have BH := Lib.hid B0
  have H := Lib.hid h
  have H' := Lib.hid h'
  clear B0 h h'
  have M := Lib.hid hm
  have M' := Lib.hid hm'
  clear hm hm'
  go_enter Try.func51, Try.ntmps51
  go_wp2_with fail
  refine (sIsMat R K a m xs _ (H.out.below (BH.out (.cells #[.int .i64 R, .int .i64 K, .slice a xs.length m] 26) (.cells #[.int .i64 K, .int .i64 C, .slice b ys.length n] 26) (.cells #[.int .i64 0, .int .i64 0, .slice none 0 0] 26))) hn).mono ?_
  rintro e w1 ⟨rfl, hb⟩
  have K0 : Hid (Blk3 w1 w.heap.size 26 (.int .i64 R) (.int .i64 K) (.slice a xs.length m)) := (((Blk3.at_ _ _ _ _ rfl).old _).old _).keep hb (by simp <;> omega)
  have K1 : Hid (Blk3 w1 (w.heap.size + 1) 26 (.int .i64 K) (.int .i64 C) (.slice b ys.length n)) := ((Blk3.at_ _ _ _ _ (by simp)).old _).keep hb (by simp <;> omega)
  have K2 : Hid (Blk3 w1 (w.heap.size + 1 + 1) 26 (.int .i64 0) (.int .i64 0) (.slice none 0 0)) := (Blk3.at_ _ _ _ _ (by simp)).keep hb (by simp)
  have B : Hid (Below w.heap.size w w1) := (BH.out _ _ _).trans (hb.mono (by simp <;> omega))
  clear hb
  obtain ⟨ca0, ca1, ca2, -, -, -⟩ := K0.out.all
  obtain ⟨cb0, cb1, cb2, -, -, -⟩ := K1.out.all
  obtain ⟨cc0, cc1, cc2, ff0, ff1, ff2⟩ := K2.out.all
  rw [M.out]
  go_wp2_with fail
  refine (sIsMat K C b n ys _ (H'.out.below B.out) hn').mono ?_
  rintro e w2 ⟨rfl, hb⟩
  have K0 := Lib.hid (K0.out.keep hb K0.out.lt)
  have K1 := Lib.hid (K1.out.keep hb K1.out.lt)
  have K2 := Lib.hid (K2.out.keep hb K2.out.lt)
  have B := Lib.hid (B.out.trans (hb.mono B.out.size))
  clear hb
  obtain ⟨da0, da1, da2, -, -, -⟩ := K0.out.all
  obtain ⟨db0, db1, db2, -, -, -⟩ := K1.out.all
  obtain ⟨dc0, dc1, dc2, gf0, gf1, gf2⟩ := K2.out.all
  rw [M'.out]
  go_wp2_with fail
  refine (sMulL R K C a b m n xs ys _ (H.out.below B.out) (H'.out.below B.out) (by omega) (by omega) (by omega) HL1.out HL2.out NX.out NY.out).mono ?_
  rintro e w3 ⟨g, rfl, hg, hi, hb⟩
  have l2 := Nat.lt_of_lt_of_le K2.out.lt hg
  obtain ⟨k, hk⟩ : ∃ k, (mulL R K C xs ys).length = k := ⟨_, rfl⟩
  have HL := Lib.hid hk
  have kle : k ≤ 576 := by rw [← hk]; unfold mulL; rw [tab_length]; exact hle
  rw [hk]
  have K2 := Lib.hid (K2.out.keep hb K2.out.lt)
  have I2 := Lib.hid hi
  have gl := hi.lt
  have B := Lib.hid (B.out.trans (hb.mono B.out.size))
  clear hb hi hk hg
  go_wp2_with fail
  have ST := sDone R C (some ⟨g, 0, none⟩) k (mulL R K C xs ys) w3 I2.out.rd (by rw [HL.out]; omega)
  rw [HL.out] at ST
  refine ST.mono ?_
  clear ST
  rintro e w4 ⟨rfl, hb⟩
  have K2 := Lib.hid (K2.out.keep hb K2.out.lt)
  have I2 := Lib.hid (I2.out.keep hb I2.out.lt)
  have B := Lib.hid (B.out.trans (hb.mono B.out.size))
  clear hb
  obtain ⟨s0, s1, s2, t0, t1, t2⟩ := K2.out.all
  have z2 := K2.out.lt
  have be : ∀ x y z o, Below w.heap.size w ((((w4.setCell ⟨w.heap.size + 1 + 1, 0, none⟩ x).setCell ⟨w.heap.size + 1 + 1, 1, none⟩ y).setCell ⟨w.heap.size + 1 + 1, 2, none⟩ z).alloc o) := fun x y z o =>
    (((B.out.setCell (by show w.heap.size ≤ w.heap.size + 1 + 1; omega) _).setCell (by show w.heap.size ≤ w.heap.size + 1 + 1; omega) _).setCell (by show w.heap.size ≤ w.heap.size + 1 + 1; omega) _).alloc (by have := B.out.size; simpa using this) _
  have BE := Lib.hid be
  clear be
  rcases Bool.eq_false_or_eq_true (isMat R C (mulL R K C xs ys)) with hd | hd
  · have E : Hid (MR.done R C (mulL R K C xs ys) = ⟨true, R, C, mulL R K C xs ys⟩) := by show MR.done R C (mulL R K C xs ys) = _; unfold MR.done; rw [hd]; rfl
    rw [hd]
    clear hd
    unfold DoneRes
    go_wp2_with fail
    obtain ⟨E0, E1, E2, -, -, -⟩ := ((((K2.out.set0 (.int .i64 R)).set1 (.int .i64 C)).set2 (.slice (some ⟨g, 0, none⟩) k k)).old (.cells #[.int .i64 R, .int .i64 C, .slice (some ⟨g, 0, none⟩) k k] 26)).all
    rw [E.out]
    refine bodyPost_ret (v := .tuple #[.agg #[.int .i64 R, .int .i64 C, .slice (some ⟨g, 0, none⟩) k k], .bool true]) (by simp [results, Try.results51, go_sem, E0, E1, E2]) rfl ⟨_, rfl, ?_, ?_⟩
    · refine .inr ⟨g, k, by rw [HL.out], by omega, ?_, by simp [HL.out], by simp [HL.out]; omega⟩
      exact (((I2.out.far (by show g ≠ w.heap.size + 1 + 1; omega) _).far (by show g ≠ w.heap.size + 1 + 1; omega) _).far (by show g ≠ w.heap.size + 1 + 1; omega) _).old _
    · exact BE.out _ _ _ _
  · have E : Hid (MR.done R C (mulL R K C xs ys) = MR.no) := by show MR.done R C (mulL R K C xs ys) = _; unfold MR.done; rw [hd]; rfl
    rw [hd]
    clear hd
    unfold DoneRes
    go_wp2_with fail
    obtain ⟨E0, E1, E2, -, -, -⟩ := ((((K2.out.set0 (.int .i64 0)).set1 (.int .i64 0)).set2 (.slice none 0 0)).old (.cells #[.int .i64 0, .int .i64 0, .slice none 0 0] 26)).all
    rw [E.out]
    exact bodyPost_ret (v := .tuple #[.agg #[.int .i64 0, .int .i64 0, .slice none 0 0], .bool false]) (by simp [results, Try.results51, go_sem, E0, E1, E2]) rfl ⟨_, rfl, .inl ⟨rfl, rfl⟩, BE.out _ _ _ _⟩
set_option maxRecDepth 100000 in
set_option maxHeartbeats 1000000 in
theorem sMul (r c r' c' : Int) (a b : Option Addr) (m n : Nat) (xs ys : List Int) (w : World) (h : Rd w a xs) (h' : Rd w b ys) (hn : xs.length ≤ 16777216) (hn' : ys.length ≤ 16777216) :
    Calls Try.prog 51 #[.agg #[.int .i64 r, .int .i64 c, .slice a xs.length m], .agg #[.int .i64 r', .int .i64 c', .slice b ys.length n]] w (MatRes (mulM r c xs r' c' ys) w) := by
  rcases Bool.eq_false_or_eq_true (isMat r c xs) with hm | hm
  · rcases Bool.eq_false_or_eq_true (isMat r' c' ys) with hm' | hm'
    · by_cases e1 : c = r'
      · subst e1
        obtain ⟨⟨r1, r2⟩, ⟨k1, k2⟩, -, -⟩ := isMat_says hm
        obtain ⟨-, ⟨c1, c2⟩, -, -⟩ := isMat_says hm'
        obtain ⟨R, rfl⟩ := Int.eq_ofNat_of_zero_le r1
        obtain ⟨K, rfl⟩ := Int.eq_ofNat_of_zero_le k1
        obtain ⟨C, rfl⟩ := Int.eq_ofNat_of_zero_le c1
        have E : mulM R K xs K C ys = MR.done R C (mulL R K C xs ys) := by unfold mulM; rw [hm, hm']; simp
        rw [E]
        exact sMul_t R K C a b m n xs ys w h h' hn hn' hm hm'
      · have E : Hid (mulM r c xs r' c' ys = MR.no) := by show mulM r c xs r' c' ys = _; unfold mulM; rw [hm, hm']; simp [e1]
        have n1 : (c == r') = false := by simpa using e1
        have n2 : (c != r') = true := by simpa using e1
        have B0 : ∀ o1 o2 o3, Below w.heap.size w (((w.alloc o1).alloc o2).alloc o3) := fun o1 o2 o3 => (((Below.refl _ _).alloc (Nat.le_refl _) _).alloc (by simp) _).alloc (by simp <;> omega) _
        have BH := Lib.hid B0
        have H := Lib.hid h
        have H' := Lib.hid h'
        clear B0 h h'
        have M := Lib.hid hm
        have M' := Lib.hid hm'
        clear hm hm' e1
        go_enter Try.func51, Try.ntmps51
        go_wp2_with fail
        refine (sIsMat r c a m xs _ (H.out.below (BH.out (.cells #[.int .i64 r, .int .i64 c, .slice a xs.length m] 26) (.cells #[.int .i64 r', .int .i64 c', .slice b ys.length n] 26) (.cells #[.int .i64 0, .int .i64 0, .slice none 0 0] 26))) hn).mono ?_
        rintro e w1 ⟨rfl, hb⟩
        have K0 : Hid (Blk3 w1 w.heap.size 26 (.int .i64 r) (.int .i64 c) (.slice a xs.length m)) := (((Blk3.at_ _ _ _ _ rfl).old _).old _).keep hb (by simp <;> omega)
        have K1 : Hid (Blk3 w1 (w.heap.size + 1) 26 (.int .i64 r') (.int .i64 c') (.slice b ys.length n)) := ((Blk3.at_ _ _ _ _ (by simp)).old _).keep hb (by simp <;> omega)
        have K2 : Hid (Blk3 w1 (w.heap.size + 1 + 1) 26 (.int .i64 0) (.int .i64 0) (.slice none 0 0)) := (Blk3.at_ _ _ _ _ (by simp)).keep hb (by simp)
        have B : Hid (Below w.heap.size w w1) := (BH.out _ _ _).trans (hb.mono (by simp <;> omega))
        clear hb
        obtain ⟨ca0, ca1, ca2, -, -, -⟩ := K0.out.all
        obtain ⟨cb0, cb1, cb2, -, -, -⟩ := K1.out.all
        obtain ⟨cc0, cc1, cc2, ff0, ff1, ff2⟩ := K2.out.all
        rw [M.out]
        go_wp2_with fail
        refine (sIsMat r' c' b n ys _ (H'.out.below B.out) hn').mono ?_
        rintro e w2 ⟨rfl, hb⟩
        have K0 := Lib.hid (K0.out.keep hb K0.out.lt)
        have K1 := Lib.hid (K1.out.keep hb K1.out.lt)
        have K2 := Lib.hid (K2.out.keep hb K2.out.lt)
        have B := Lib.hid (B.out.trans (hb.mono B.out.size))
        clear hb
        obtain ⟨da0, da1, da2, -, -, -⟩ := K0.out.all
        obtain ⟨db0, db1, db2, -, -, -⟩ := K1.out.all
        obtain ⟨dc0, dc1, dc2, gf0, gf1, gf2⟩ := K2.out.all
        rw [M'.out]
        go_wp2_with fail
        obtain ⟨E0, E1, E2, -, -, -⟩ := (((K2.out.set0 (.int .i64 0)).set1 (.int .i64 0)).set2 (.slice none 0 0)).all
        rw [E.out]
        exact bodyPost_ret (v := .tuple #[.agg #[.int .i64 0, .int .i64 0, .slice none 0 0], .bool false]) (by simp [results, Try.results51, go_sem, E0, E1, E2]) rfl ⟨_, rfl, .inl ⟨rfl, rfl⟩, ((B.out.setCell (by show w.heap.size ≤ w.heap.size + 1 + 1; omega) _).setCell (by show w.heap.size ≤ w.heap.size + 1 + 1; omega) _).setCell (by show w.heap.size ≤ w.heap.size + 1 + 1; omega) _⟩
    · have E : Hid (mulM r c xs r' c' ys = MR.no) := by show mulM r c xs r' c' ys = _; unfold mulM; rw [hm, hm']; simp
      have B0 : ∀ o1 o2 o3, Below w.heap.size w (((w.alloc o1).alloc o2).alloc o3) := fun o1 o2 o3 => (((Below.refl _ _).alloc (Nat.le_refl _) _).alloc (by simp) _).alloc (by simp <;> omega) _
      have BH := Lib.hid B0
      have H := Lib.hid h
      have H' := Lib.hid h'
      clear B0 h h'
      have M := Lib.hid hm
      have M' := Lib.hid hm'
      clear hm hm'
      go_enter Try.func51, Try.ntmps51
      go_wp2_with fail
      refine (sIsMat r c a m xs _ (H.out.below (BH.out (.cells #[.int .i64 r, .int .i64 c, .slice a xs.length m] 26) (.cells #[.int .i64 r', .int .i64 c', .slice b ys.length n] 26) (.cells #[.int .i64 0, .int .i64 0, .slice none 0 0] 26))) hn).mono ?_
      rintro e w1 ⟨rfl, hb⟩
      have K0 : Hid (Blk3 w1 w.heap.size 26 (.int .i64 r) (.int .i64 c) (.slice a xs.length m)) := (((Blk3.at_ _ _ _ _ rfl).old _).old _).keep hb (by simp <;> omega)
      have K1 : Hid (Blk3 w1 (w.heap.size + 1) 26 (.int .i64 r') (.int .i64 c') (.slice b ys.length n)) := ((Blk3.at_ _ _ _ _ (by simp)).old _).keep hb (by simp <;> omega)
      have K2 : Hid (Blk3 w1 (w.heap.size + 1 + 1) 26 (.int .i64 0) (.int .i64 0) (.slice none 0 0)) := (Blk3.at_ _ _ _ _ (by simp)).keep hb (by simp)
      have B : Hid (Below w.heap.size w w1) := (BH.out _ _ _).trans (hb.mono (by simp <;> omega))
      clear hb
      obtain ⟨ca0, ca1, ca2, -, -, -⟩ := K0.out.all
      obtain ⟨cb0, cb1, cb2, -, -, -⟩ := K1.out.all
      obtain ⟨cc0, cc1, cc2, ff0, ff1, ff2⟩ := K2.out.all
      rw [M.out]
      go_wp2_with fail
      refine (sIsMat r' c' b n ys _ (H'.out.below B.out) hn').mono ?_
      rintro e w2 ⟨rfl, hb⟩
      have K0 := Lib.hid (K0.out.keep hb K0.out.lt)
      have K1 := Lib.hid (K1.out.keep hb K1.out.lt)
      have K2 := Lib.hid (K2.out.keep hb K2.out.lt)
      have B := Lib.hid (B.out.trans (hb.mono B.out.size))
      clear hb
      obtain ⟨da0, da1, da2, -, -, -⟩ := K0.out.all
      obtain ⟨db0, db1, db2, -, -, -⟩ := K1.out.all
      obtain ⟨dc0, dc1, dc2, gf0, gf1, gf2⟩ := K2.out.all
      rw [M'.out]
      go_wp2_with fail
      obtain ⟨E0, E1, E2, -, -, -⟩ := (((K2.out.set0 (.int .i64 0)).set1 (.int .i64 0)).set2 (.slice none 0 0)).all
      rw [E.out]
      exact bodyPost_ret (v := .tuple #[.agg #[.int .i64 0, .int .i64 0, .slice none 0 0], .bool false]) (by simp [results, Try.results51, go_sem, E0, E1, E2]) rfl ⟨_, rfl, .inl ⟨rfl, rfl⟩, ((B.out.setCell (by show w.heap.size ≤ w.heap.size + 1 + 1; omega) _).setCell (by show w.heap.size ≤ w.heap.size + 1 + 1; omega) _).setCell (by show w.heap.size ≤ w.heap.size + 1 + 1; omega) _⟩
  · have E : Hid (mulM r c xs r' c' ys = MR.no) := by show mulM r c xs r' c' ys = _; unfold mulM; rw [hm]; simp
    have B0 : ∀ o1 o2 o3, Below w.heap.size w (((w.alloc o1).alloc o2).alloc o3) := fun o1 o2 o3 => (((Below.refl _ _).alloc (Nat.le_refl _) _).alloc (by simp) _).alloc (by simp <;> omega) _
    have BH := Lib.hid B0
    have H := Lib.hid h
    have H' := Lib.hid h'
    clear B0 h h'
    have M := Lib.hid hm
    clear hm hn'
    go_enter Try.func51, Try.ntmps51
    go_wp2_with fail
    refine (sIsMat r c a m xs _ (H.out.below (BH.out (.cells #[.int .i64 r, .int .i64 c, .slice a xs.length m] 26) (.cells #[.int .i64 r', .int .i64 c', .slice b ys.length n] 26) (.cells #[.int .i64 0, .int .i64 0, .slice none 0 0] 26))) hn).mono ?_
    rintro e w1 ⟨rfl, hb⟩
    have K0 : Hid (Blk3 w1 w.heap.size 26 (.int .i64 r) (.int .i64 c) (.slice a xs.length m)) := (((Blk3.at_ _ _ _ _ rfl).old _).old _).keep hb (by simp <;> omega)
    have K1 : Hid (Blk3 w1 (w.heap.size + 1) 26 (.int .i64 r') (.int .i64 c') (.slice b ys.length n)) := ((Blk3.at_ _ _ _ _ (by simp)).old _).keep hb (by simp <;> omega)
    have K2 : Hid (Blk3 w1 (w.heap.size + 1 + 1) 26 (.int .i64 0) (.int .i64 0) (.slice none 0 0)) := (Blk3.at_ _ _ _ _ (by simp)).keep hb (by simp)
    have B : Hid (Below w.heap.size w w1) := (BH.out _ _ _).trans (hb.mono (by simp <;> omega))
    clear hb
    obtain ⟨ca0, ca1, ca2, -, -, -⟩ := K0.out.all
    obtain ⟨cb0, cb1, cb2, -, -, -⟩ := K1.out.all
    obtain ⟨cc0, cc1, cc2, ff0, ff1, ff2⟩ := K2.out.all
    rw [M.out]
    go_wp2_with fail
    obtain ⟨E0, E1, E2, -, -, -⟩ := (((K2.out.set0 (.int .i64 0)).set1 (.int .i64 0)).set2 (.slice none 0 0)).all
    rw [E.out]
    exact bodyPost_ret (v := .tuple #[.agg #[.int .i64 0, .int .i64 0, .slice none 0 0], .bool false]) (by simp [results, Try.results51, go_sem, E0, E1, E2]) rfl ⟨_, rfl, .inl ⟨rfl, rfl⟩, ((B.out.setCell (by show w.heap.size ≤ w.heap.size + 1 + 1; omega) _).setCell (by show w.heap.size ≤ w.heap.size + 1 + 1; omega) _).setCell (by show w.heap.size ≤ w.heap.size + 1 + 1; omega) _⟩
end Go.Proofs.Ytpelnfenfeoeeaa
end

section
/-
  Plain mathematics of chapter 6: a step of the elimination, cell by cell. Nothing of a program is used.
-/
namespace Go.Proofs.Ytpelnfenfeoeeaa
end Go.Proofs.Ytpelnfenfeoeeaa
end

section
/-
  Plain mathematics of chapter 6: determinants of the last of some rows in a set of columns, the columns as the bits of a number. Nothing of a program is used.
-/
namespace Go.Proofs.Ytpelnfenfeoeeaa
def colsL (n S : Nat) : List Nat := (List.range n).filter fun c => S.testBit c
def lessS (S c : Nat) : Nat := S &&& (18446744073709551615 - 2 ^ c)
def rowsD (xs : List Int) (n : Nat) (rows cs : List Nat) : List Int := tab cs.length cs.length fun i j => xs.getD (rows.getD (rows.length - cs.length + i) 0 * n + cs.getD j 0) 0
def setD (n : Nat) (xs : List Int) (rows : List Nat) (S : Nat) : Int := detB (colsL n S).length (rowsD xs n rows (colsL n S))
theorem colsL_succ (c S : Nat) : colsL (c + 1) S = if S.testBit c then colsL c S ++ [c] else colsL c S := by
  unfold colsL
  rw [List.range_succ, List.filter_append]
  by_cases h : S.testBit c = true
  · rw [if_pos h]; simp [h]
  · rw [if_neg h]; simp [h]
theorem colsL_in {c S : Nat} (h : S.testBit c = true) : (colsL (c + 1) S).length = (colsL c S).length + 1 := by rw [colsL_succ, if_pos h]; simp
theorem colsL_out {c S : Nat} (h : S.testBit c = false) : colsL (c + 1) S = colsL c S := by rw [colsL_succ, if_neg (by rw [h]; decide)]
theorem colsL_pre {c n S : Nat} (h : c ≤ n) : ∃ r, colsL n S = colsL c S ++ r := by
  obtain ⟨k, rfl⟩ := Nat.exists_eq_add_of_le h
  unfold colsL
  rw [List.range_add, List.filter_append]
  exact ⟨_, rfl⟩
theorem colsL_at {c n S : Nat} (hc : c < n) (h : S.testBit c = true) : (colsL c S).length < (colsL n S).length ∧ (colsL n S).getD (colsL c S).length 0 = c := by
  obtain ⟨r, e⟩ := colsL_pre (S := S) (show c + 1 ≤ n from hc)
  rw [e, colsL_succ, if_pos h]
  refine ⟨by simp, ?_⟩
  simp [List.getD]
theorem colsL_le {c n S : Nat} (h : c ≤ n) : (colsL c S).length ≤ (colsL n S).length := by
  obtain ⟨r, e⟩ := colsL_pre (S := S) h
  rw [e, List.length_append]; omega
theorem colsL_less : ∀ n, n ≤ 6 → ∀ S, S < 64 → ∀ c, c < n → S.testBit c = true → colsL n (lessS S c) = (colsL n S).eraseIdx (colsL c S).length ∧ lessS S c < 64 := by
  decide +kernel
theorem lessS_lt : ∀ n, n ≤ 6 → ∀ S, S < 2 ^ n → ∀ c, c < n → lessS S c < 2 ^ n := by
  decide +kernel
theorem colsL_none : ∀ n, n ≤ 6 → ∀ S, S < 2 ^ n → (colsL n S).length = 0 → S = 0 := by
  decide +kernel
theorem colsL_full : ∀ n, n ≤ 6 → colsL n (2 ^ n - 1) = List.range n := by decide +kernel
theorem colsL_zero (n : Nat) : colsL n 0 = [] := by unfold colsL; simp
theorem erase_getD (cs : List Nat) (t j : Nat) : (cs.eraseIdx t).getD j 0 = cs.getD (skp t j) 0 := by
  unfold skp
  rw [List.getD, List.getD, List.getElem?_eraseIdx]
  split <;> rfl
theorem rowsD_minor (xs : List Int) (n : Nat) (rows cs : List Nat) (k t : Nat) (hc : cs.length = k + 1) (hr : k + 1 ≤ rows.length) (ht : t < k + 1) :
    woL (k + 1) 0 (t : Int) (rowsD xs n rows cs) ((k + 1) * (k + 1)) = rowsD xs n rows (cs.eraseIdx t) := by
  have hl : (cs.eraseIdx t).length = k := by rw [List.length_eraseIdx, hc, if_pos ht]; omega
  have e := woL_tab k 0 t (rowsD xs n rows cs) (by omega) ht
  rw [show ((0 : Nat) : Int) = 0 from rfl] at e
  rw [e]
  unfold rowsD
  rw [hl, hc]
  have hl2 : (tab k k fun i j => xs.getD (rows.getD (rows.length - k + i) 0 * n + (cs.eraseIdx t).getD j 0) 0).length = k * k := tab_length _ _ _
  refine (tab_ext hl2 fun i j hi hj => ?_).symm
  rw [tab_at k k _ hi hj, tab_at (k + 1) (k + 1) _ (skp_lt hi) (skp_lt hj), erase_getD, skp_zero]
  rw [show rows.length - (k + 1) + (i + 1) = rows.length - k + i by omega]
theorem setD_first {xs : List Int} {n : Nat} {rows cs : List Nat} {k : Nat} (hc : cs.length = k + 1) (j : Nat) (hj : j < k + 1) : (rowsD xs n rows cs).getD j 0 = xs.getD (rows.getD (rows.length - (k + 1)) 0 * n + cs.getD j 0) 0 := by
  have := tab_at (k + 1) (k + 1) (fun i j => xs.getD (rows.getD (rows.length - (k + 1) + i) 0 * n + cs.getD j 0) 0) (show 0 < k + 1 by omega) hj
  rw [Nat.zero_mul, Nat.zero_add, Nat.add_zero] at this
  unfold rowsD
  rw [hc]
  exact this
theorem setD_zero (n : Nat) (xs : List Int) (rows : List Nat) : setD n xs rows 0 = 1 := by unfold setD; rw [colsL_zero]; rfl
theorem setD_or (n : Nat) (xs : List Int) (rows : List Nat) (S : Nat) : setD n xs rows S = badN ∨ NumP (setD n xs rows S) := detB_or _ _
theorem mnB_less {n S c k : Nat} {xs : List Int} {rows : List Nat} (h6 : n ≤ 6) (hS : S < 64) (hc : c < n) (hb : S.testBit c = true) (hk : (colsL n S).length = k + 1) (hr : k + 1 ≤ rows.length) :
    mnB k (rowsD xs n rows (colsL n S)) (colsL c S).length = setD n xs rows (lessS S c) := by
  obtain ⟨e, -⟩ := colsL_less n h6 S hS c hc hb
  have hp := (colsL_at hc hb).1
  unfold mnB setD
  rw [e, List.length_eraseIdx, hk, if_pos (by omega), Nat.add_sub_cancel, rowsD_minor xs n rows _ k _ hk hr (by omega)]
theorem less_card {n S c k : Nat} (h6 : n ≤ 6) (hS : S < 64) (hc : c < n) (hb : S.testBit c = true) (hk : (colsL n S).length = k + 1) : (colsL n (lessS S c)).length = k := by
  obtain ⟨e, -⟩ := colsL_less n h6 S hS c hc hb
  have hp := (colsL_at hc hb).1
  rw [e, List.length_eraseIdx, hk, if_pos (by omega)]; omega
theorem setD_all {n : Nat} {xs : List Int} (h6 : n ≤ 6) (hx : xs.length = n * n) : setD n xs (List.range n) (2 ^ n - 1) = detB n xs := by
  unfold setD
  rw [colsL_full n h6]
  unfold rowsD
  simp only [List.length_range, Nat.sub_self, Nat.zero_add]
  congr 1
  refine (tab_ext hx fun i j hi hj => ?_).symm
  simp [List.getD, hi, hj]
end Go.Proofs.Ytpelnfenfeoeeaa
end

section
/-
  Chapter 6, in the program: a block of five cells, a map of determinants, clear. No function of the program is named.
-/
namespace Go.Proofs.Ytpelnfenfeoeeaa
open Go.RowKit Go.Maps
def Blk5 (w : World) (b : Nat) (t : TypeId) (p q r s u : Value) : Prop := w.heap[b]? = some (.cells #[p, q, r, s, u] t (0, 0))
theorem Blk5.all {w : World} {b : Nat} {t : TypeId} {p q r s u : Value} (h : Blk5 w b t p q r s u) : w.cell? ⟨b, 0, none⟩ = some p ∧ w.cell? ⟨b, 1, none⟩ = some q ∧ w.cell? ⟨b, 2, none⟩ = some r ∧ w.cell? ⟨b, 3, none⟩ = some s ∧ w.cell? ⟨b, 4, none⟩ = some u := by
  unfold Blk5 at h
  simp [World.cell?, h]
theorem Blk5.free {w : World} {b : Nat} {t : TypeId} {p q r s u : Value} (h : Blk5 w b t p q r s u) (o : Nat) : w.frozen? ⟨b, o, none⟩ = false := by unfold Blk5 at h; simp [World.frozen?, h]
theorem Blk5.lt {w : World} {b : Nat} {t : TypeId} {p q r s u : Value} (h : Blk5 w b t p q r s u) : b < w.heap.size := lt_of_block h
theorem Blk5.move {w w' : World} {b : Nat} {t : TypeId} {p q r s u : Value} (h : Blk5 w b t p q r s u) (e : w'.heap[b]? = w.heap[b]?) : Blk5 w' b t p q r s u := e.trans h
theorem Blk5.old {w : World} {b : Nat} {t : TypeId} {p q r s u : Value} (h : Blk5 w b t p q r s u) (o : Obj) : Blk5 (w.alloc o) b t p q r s u := h.move (Below.heap_alloc w o b h.lt)
theorem Blk5.one {w w' : World} {b c : Nat} {t : TypeId} {p q r s u : Value} (h : Blk5 w b t p q r s u) (hg : w.grownBy w' (some c)) (hne : b ≠ c) : Blk5 w' b t p q r s u := h.move (hg.block b h.lt (by simpa using hne))
theorem Blk5.grown {w w' : World} {b : Nat} {row : Option Nat} {t : TypeId} {p q r s u : Value} (h : Blk5 w b t p q r s u) (hg : w.grownBy w' row) (hne : some b ≠ row) : Blk5 w' b t p q r s u := h.move (hg.block b h.lt hne)
theorem Blk5.at_ {w : World} {b : Nat} (t : TypeId) (p q r s u : Value) (hb : b = w.heap.size) : Blk5 (w.alloc (.cells #[p, q, r, s, u] t)) b t p q r s u := by
  subst hb; unfold Blk5; show (w.heap.push _)[w.heap.size]? = _
  rw [Array.getElem?_push, if_pos rfl]
theorem Blk5.set3 {w : World} {b : Nat} {t : TypeId} {p q r s u : Value} (h : Blk5 w b t p q r s u) (v : Value) : Blk5 (w.setCell ⟨b, 3, none⟩ v) b t p q r v u := by
  have hlt := h.lt
  unfold Blk5 at h ⊢
  have h' : w.heap[b] = .cells #[p, q, r, s, u] t (0, 0) := by simpa [Array.getElem?_eq_getElem hlt] using h
  show (w.heap.modify b _)[b]? = _
  rw [Array.getElem?_eq_getElem (by simpa using hlt), Array.getElem_modify_self, h']
  rfl
def Mp (w : World) (bm c : Nat) (D : DataW Unit) : Prop := w.ownsMap Try.prog 79 (plainElem Try.prog 3) bm c D
theorem keyed_cols : Keyed Try.prog 79 := int_keyed (q := .u64) (by kernel_rfl)
theorem und_cols : Try.prog.underlying 79 = some (.int .u64) := by kernel_rfl
theorem und_map : Try.prog.underlying 112 = some (.map 79 3) := by kernel_rfl
theorem und_int : Try.prog.underlying 3 = some (.int .i64) := by kernel_rfl
theorem zero_int (w : World) : (zeroValue 3).run Try.prog w = .ok (.int .i64 0) w := by kernel_rfl
theorem Mp.lt {w : World} {bm c : Nat} {D : DataW Unit} (h : Mp w bm c D) : bm < w.heap.size := World.ownsMap.lt h
theorem Mp.made (w : World) : Mp (w.alloc (.map #[] 0)) w.heap.size 0 (.map []) := World.ownsMap_made w _ _ _
theorem Mp.kept {w w' : World} {bm c : Nat} {D : DataW Unit} {row : Option Nat} (h : Mp w bm c D) (hg : w.grownBy w' row) (hne : some bm ≠ row) : Mp w' bm c D := World.ownsMap.kept h hg hne
theorem Mp.move {w w' : World} {bm c : Nat} {D : DataW Unit} (h : Mp w bm c D) (e : w'.heap[bm]? = w.heap[bm]?) : Mp w' bm c D := by
  obtain ⟨es, clock, hb, r⟩ := h
  exact ⟨es, clock, e.trans hb, r⟩
theorem Mp.mono {w : World} {bm c c' : Nat} {D : DataW Unit} (h : Mp w bm c D) (hc : c ≤ c') : Mp w bm c' D := World.ownsMap.mono h hc
theorem Mp.ne5 {w : World} {bm c b : Nat} {D : DataW Unit} {t : TypeId} {p q r s u : Value} (h : Mp w bm c D) (k : Blk5 w b t p q r s u) : b ≠ bm := by
  obtain ⟨es, clock, hb, -⟩ := h
  rintro rfl
  unfold Blk5 at k
  rw [hb] at k
  cases k
theorem Mp.neCell {w : World} {bm c b : Nat} {D : DataW Unit} {o : Nat} {v : Value} (h : Mp w bm c D) (k : w.cell? ⟨b, o, none⟩ = some v) : b ≠ bm := by
  obtain ⟨es, clock, hb, -⟩ := h
  rintro rfl
  simp [World.cell?, hb] at k
theorem Rd.map {w w' : World} {bm c : Nat} {D : DataW Unit} {a : Option Addr} {zs : List Int} (h : Rd w a zs) (hm : Mp w bm c D) (hg : w.grownBy w' (some bm)) : Rd w' a zs := fun i hi => by
  obtain ⟨b, o, ha, hc⟩ := h i hi
  exact ⟨b, o, ha, hg.cell hc (by simpa using hm.neCell hc)⟩
theorem Mp.clear {w : World} {bm c : Nat} {D : DataW Unit} (h : Mp w bm c D) (ty : TypeId) :
    ∃ w', (Builtin.clear_ #[112] ty #[.map (some bm)]).run Try.prog w = .ok (.tuple #[]) w' ∧ Mp w' bm 0 (.map []) ∧ w.grownBy w' (some bm) := by
  obtain ⟨es, clock, hb, -⟩ := h
  refine ⟨ChangeMaps.setBlock w bm (.map #[] clock), ?_, ⟨#[], clock, ChangeMaps.heap_setBlock_same hb _, ⟨by simp, MapKept.stamped_empty clock, by simp⟩, Nat.le_refl _, rfl⟩, ⟨rfl, rfl, rfl, by simp [ChangeMaps.setBlock], fun i _ hi => ChangeMaps.heap_setBlock_other hb _ (fun e => hi (by rw [e]))⟩⟩
  simp [Builtin.clear_, run_underlying und_map, MapKept.run_getObj_map hb, MapKept.run_setObj_map _ hb, Result.andThen, ChangeMaps.setBlock]
def Memo (n : Nat) (xs : List Int) (rows : List Nat) (D : DataW Unit) : Prop := ∀ S : Nat, Maps.has D (.int .u64 (S : Int)) = true → setD n xs rows S ≠ badN ∧ D.atKey (.int .u64 (S : Int)) (.lit (.int .i64 0)) = .lit (.int .i64 (setD n xs rows S))
theorem Memo.none (n : Nat) (xs : List Int) (rows : List Nat) : Memo n xs rows (.map []) := fun S h => by
  unfold Maps.has at h
  simp at h
theorem Memo.put {n : Nat} {xs : List Int} {rows : List Nat} {D : DataW Unit} (h : Memo n xs rows D) (hD : IsMap D) (S : Nat) (hb : setD n xs rows S ≠ badN) : Memo n xs rows (D.put (.int .u64 (S : Int)) (.lit (.int .i64 (setD n xs rows S)))) := fun S' hS => by
  by_cases e : S' = S
  · subst e
    exact ⟨hb, Maps.atKey_put_same hD (by trivial) _ _⟩
  · have ne : Lit.int .u64 (S' : Int) ≠ Lit.int .u64 (S : Int) := fun he => e (by injection he with _ he; omega)
    rw [Maps.has_put_other ne] at hS
    rw [Maps.atKey_put_other ne]
    exact h S' hS
structure MnSt (R n : Nat) (a : Option Addr) (m : Nat) (xs : List Int) (rows : List Nat) (q : Option Addr) (qc px bm c : Nat) (w : World) : Prop where
  blk : Blk5 w px 114 (.int .i64 R) (.int .i64 n) (.slice a (R * n) m) (.slice q rows.length qc) (.map (some bm))
  cells : Rd w a xs
  rws : Rd w q (rows.map fun (r : Nat) => (r : Int))
  memo : ∃ D, Mp w bm c D ∧ Memo n xs rows D
theorem MnSt.ne {R n : Nat} {a : Option Addr} {m : Nat} {xs : List Int} {rows : List Nat} {q : Option Addr} {qc px bm c : Nat} {w : World} (h : MnSt R n a m xs rows q qc px bm c w) : px ≠ bm := by
  obtain ⟨D, hD, -⟩ := h.memo
  exact hD.ne5 h.blk
theorem MnSt.turn {R n : Nat} {a : Option Addr} {m : Nat} {xs : List Int} {rows : List Nat} {q : Option Addr} {qc px bm c c' : Nat} {w w' : World} (h : MnSt R n a m xs rows q qc px bm c w) (hg : w.grownBy w' (some bm)) {D : DataW Unit} (hD : Mp w' bm c' D) (hM : Memo n xs rows D) : MnSt R n a m xs rows q qc px bm c' w' := by
  obtain ⟨D0, h0, -⟩ := h.memo
  exact ⟨h.blk.one hg h.ne, h.cells.map h0 hg, h.rws.map h0 hg, D, hD, hM⟩
theorem MnSt.mono {R n : Nat} {a : Option Addr} {m : Nat} {xs : List Int} {rows : List Nat} {q : Option Addr} {qc px bm c c' : Nat} {w : World} (h : MnSt R n a m xs rows q qc px bm c w) (hc : c ≤ c') : MnSt R n a m xs rows q qc px bm c' w := by
  obtain ⟨D, hD, hM⟩ := h.memo
  exact ⟨h.blk, h.cells, h.rws, D, hD.mono hc, hM⟩
theorem MnSt.drewN {R n : Nat} {a : Option Addr} {m : Nat} {xs : List Int} {rows : List Nat} {q : Option Addr} {qc px bm c : Nat} {w : World} (h : MnSt R n a m xs rows q qc px bm c w) (k : Nat) : MnSt R n a m xs rows q qc px bm c (w.drewN k) := ⟨h.blk, h.cells, h.rws, h.memo⟩
end Go.Proofs.Ytpelnfenfeoeeaa
end

section
/-
  Chapter 6, in the program: sets of lines as bits.
-/
namespace Go.Proofs.Ytpelnfenfeoeeaa
set_option maxRecDepth 100000
open Go.RowKit
theorem iOnes64 (S : Nat) (h : S < 64) (w : World) : Calls Try.prog 165 #[.int .u64 S] w fun e w' => e = .returned (.int .i64 ((colsL 6 S).length : Int)) ∧ w' = w := by
  go_enter Try.func165, Try.ntmps165
  go_wp2
  go_ret
  refine ⟨congrArg Ending.returned (congrArg (Value.int .i64) ?_), rfl⟩
  revert S
  decide +kernel
theorem iOnes (S : Nat) (h : S < 64) (w : World) : Calls Try.prog 155 #[.int .u64 S] w fun e w' => e = .returned (.int .i64 ((colsL 6 S).length : Int)) ∧ w' = w := by
  go_enter Try.func155, Try.ntmps155
  go_wp2_with fail
  refine (iOnes64 S h _).mono ?_
  rintro e w' ⟨rfl, rfl⟩
  go_wp2_with fail
  go_ret
  exact ⟨rfl, rfl⟩
theorem iCount (S : Nat) (h : S < 64) (w : World) : Calls Try.prog 125 #[.int .u64 S] w fun e w' => e = .returned (.int .i64 ((colsL 6 S).length : Int)) ∧ w' = w := by
  go_enter Try.func125, Try.ntmps125
  go_wp2_with fail
  refine (iOnes S h _).mono ?_
  rintro e w' ⟨rfl, rfl⟩
  go_wp2_with fail
  go_ret
  exact ⟨rfl, rfl⟩
theorem iHas (S c : Nat) (h : S < 64) (hc : c < 6) (w : World) : Calls Try.prog 126 #[.int .u64 S, .int .i64 c] w fun e w' => e = .returned (.bool (S.testBit c)) ∧ w' = w := by
  have c0 : (0 : Int) ≤ (c : Int) := by omega
  have c1 : (c : Int) ≤ 64 := by omega
  go_enter Try.func126, Try.ntmps126
  go_wp2
  go_ret
  refine ⟨congrArg Ending.returned (congrArg Value.bool ?_), rfl⟩
  clear c0 c1
  revert c
  revert S
  decide +kernel
theorem iWithout (S c : Nat) (h : S < 64) (hc : c < 6) (w : World) : Calls Try.prog 156 #[.int .u64 S, .int .i64 c] w fun e w' => e = .returned (.int .u64 (lessS S c)) ∧ w' = w := by
  have c0 : (0 : Int) ≤ (c : Int) := by omega
  have c1 : (c : Int) ≤ 64 := by omega
  go_enter Try.func156, Try.ntmps156
  go_wp2
  go_ret
  refine ⟨congrArg Ending.returned (congrArg (Value.int .u64) ?_), rfl⟩
  clear c0 c1
  revert c
  revert S
  decide +kernel
theorem iFirst (n : Nat) (h : n ≤ 6) (w : World) : Calls Try.prog 99 #[.int .i64 n] w fun e w' => e = .returned (.int .u64 ((2 ^ n - 1 : Nat) : Int)) ∧ w' = w := by
  have c0 : (0 : Int) ≤ (n : Int) := by omega
  have c1 : (n : Int) ≤ 64 := by omega
  go_enter Try.func99, Try.ntmps99
  go_wp2
  go_ret
  refine ⟨congrArg Ending.returned (congrArg (Value.int .u64) ?_), rfl⟩
  clear c0 c1
  revert n
  decide +kernel
end Go.Proofs.Ytpelnfenfeoeeaa
end

section
/-
  Chapter 6, in the program: over to the rows of a set.
-/
namespace Go.Proofs.Ytpelnfenfeoeeaa
set_option maxRecDepth 100000
open Go.RowKit Go.Maps
theorem own_ne5 {w : World} {B n b k : Nat} {v : Value} {us : List Value} {p q r s u : Value} (h : w.ownsRow B 3 1 v n us) (hk : v.ownBlock = some k) (h5 : Blk5 w b 114 p q r s u) : b ≠ k := by
  rcases h.2 with ⟨rfl, -⟩ | ⟨g, cap, cur, rfl, -, hg, -⟩
  · cases hk
  · injection hk with hk
    subst hk
    rintro rfl
    unfold Blk5 at h5
    change w.heap[b]? = _ at hg
    rw [hg] at h5
    injection h5 with h5
    injection h5 with _ h5 _
    exact absurd h5 (by decide)
theorem own_neM {w : World} {B n bm c k : Nat} {D : DataW Unit} {v : Value} {us : List Value} (h : w.ownsRow B 3 1 v n us) (hk : v.ownBlock = some k) (hm : Mp w bm c D) : bm ≠ k := by
  obtain ⟨es, clock, hb, -⟩ := hm
  rcases h.2 with ⟨rfl, -⟩ | ⟨g, cap, cur, rfl, -, hg, -⟩
  · cases hk
  · injection hk with hk
    subst hk
    rintro rfl
    change w.heap[bm]? = _ at hg
    rw [hg] at hb
    cases hb
theorem FrS.of_row {w w' : World} {row : Option Nat} (h : w.grownBy w' row) : FrS (fun k => row = some k) w w' := ⟨h.os, h.tape, h.output, h.size, fun k hk hn => h.block k hk (fun e => hn e.symm)⟩
theorem Blk5.ne_map {w : World} {b bm c : Nat} {D : DataW Unit} {t : TypeId} {p q r s u : Value} (h : Blk5 w b t p q r s u) (hm : Mp w bm c D) (e : bm = b) : False := hm.ne5 h e.symm
theorem take5 {w w1 : World} {B n b : Nat} {v : Value} {us : List Value} {p q r s u : Value} {o : Obj} (h5 : Blk5 w b 114 p q r s u) (h : w.ownsRow B 3 1 v n us) (hg : (w.alloc o).grownBy w1 v.ownBlock) : Blk5 w1 b 114 p q r s u :=
  (h5.old o).grown hg (fun e => own_ne5 h e.symm h5 rfl)
theorem colsL_len (k S : Nat) : (colsL k S).length ≤ k := by
  unfold colsL
  have := List.length_filter_le (fun c => S.testBit c) (List.range k)
  simpa using this
def TkSt (R n : Nat) (A : Value) (px bm c B : Nat) (D : DataW Unit) (V : Value) (RS : Nat) (w : World) (k : Nat) (wr : World) : Prop := ∃ V', Blk5 wr px 114 (.int .i64 R) (.int .i64 n) A V' (.map (some bm)) ∧ wr.ownsRow B 3 1 V' (colsL k RS).length ((colsL k RS).map fun (r : Nat) => Value.int .i64 (r : Int)) ∧ (∀ g, V'.ownBlock = some g → V.ownBlock = some g ∨ w.heap.size ≤ g) ∧ Mp wr bm c D ∧ FrS (fun k => k = px ∨ k = bm ∨ V.ownBlock = some k) w wr
set_option maxHeartbeats 1000000 in
theorem iTake (R n N m : Nat) (a : Option Addr) (RS : Nat) (px bm c B l : Nat) (D : DataW Unit) (V : Value) (us : List Value) (w : World) (h6 : R ≤ 6) (hS : RS < 64) (h5 : Blk5 w px 114 (.int .i64 R) (.int .i64 n) (.slice a N m) V (.map (some bm))) (ho : w.ownsRow B 3 1 V l us) (hm : Mp w bm c D) (hB : B ≤ w.heap.size) :
    Calls Try.prog 77 #[.pointer (some ⟨px, 0, none⟩), .int .u64 RS] w (fun r w' => Void r ∧ ∃ V', Blk5 w' px 114 (.int .i64 R) (.int .i64 n) (.slice a N m) V' (.map (some bm)) ∧ w'.ownsRow B 3 1 V' (colsL R RS).length ((colsL R RS).map fun (r : Nat) => Value.int .i64 (r : Int)) ∧ (∀ g, V'.ownBlock = some g → V.ownBlock = some g ∨ w.heap.size ≤ g) ∧ Mp w' bm 0 (.map []) ∧ FrS (fun k => k = px ∨ k = bm ∨ V.ownBlock = some k) w w') := by
  have HA : Hid (∀ j (w' : World), j < R → Calls Try.prog 126 #[.int .u64 RS, .int .i64 j] w' fun e w2 => e = .returned (.bool (RS.testBit j)) ∧ w2 = w') := fun j w' hj => iHas RS j hS (by omega) w'
  have H5 := Lib.hid h5
  have MM := Lib.hid hm
  have HB := Lib.hid hB
  have OO := Lib.hid ho
  obtain ⟨b0, b1, b2, b3, b4⟩ := h5.all
  have bf := h5.free 3
  have PN : Hid (∀ g, V.ownBlock = some g → px ≠ g) := fun g hg => own_ne5 ho hg h5
  obtain ⟨fi, hfi, hz0, hz1, hz2⟩ := facts_int
  rcases ho.2 with ⟨rfl, -⟩ | ⟨g, cap, cur, rfl, hg1, hg2, hg3, hg4, hg5, hg6⟩
  · have S0 : Hid (TkSt R n (.slice a N m) px bm c B D (.slice none 0 0) RS w 0 (w.setCell ⟨px, 3, none⟩ (.slice none 0 0))) :=
      ⟨_, H5.out.set3 _, World.ownsRow_nil _ _ _ _, fun g hg => .inl hg, MM.out.move (Below.heap_setCell _ _ _ _ (Ne.symm (MM.out.ne5 H5.out))), (FrS.refl _ w).set (.inl (.inl rfl)) _⟩
    clear h5 hm hB ho
    go_enter Try.func77, Try.ntmps77
    go_wp2_with fail
    clear b0 b1 b2 b3 b4 bf PN OO
    generalize w.setCell ⟨px, 3, none⟩ (.slice none 0 0) = W at S0
    go_loopw [4, 18] (fun _ i wr => ∃ k : Nat, i = .int .i64 k ∧ k ≤ R ∧ TkSt R n (.slice a N m) px bm c B D (.slice none 0 0) RS w k wr) (fun _ i _ => R - (intOf i).toNat)
    case atStart => exact ⟨0, rfl, by omega, S0.out⟩
    case round =>
      obtain ⟨k, rfl, hk, hst⟩ := hrel
      have ST := Lib.hid hst
      obtain ⟨V', k5, ko, kn, km, kf⟩ := hst
      obtain ⟨b0, b1, b2, b3, b4⟩ := k5.all
      by_cases hlt : k < R
      · have HK := Lib.hid (fun w' => HA.out k w' hlt)
        by_cases hr : RS.testBit k = false
        · have RE : Hid (colsL (k + 1) RS = colsL k RS) := colsL_out hr
          rw [hr] at HK
          clear k5 ko kn km kf hr
          go_wp2_with fail
          refine (HK.out _).mono ?_
          rintro e w2 ⟨rfl, hw2⟩
          rw [hw2]
          clear hw2
          go_wp2_with fail
          go_roundw
          case rel => exact ⟨k + 1, by go_num, by omega, by have := ST.out; unfold TkSt at this ⊢; rw [RE.out]; exact this⟩
          case measure => simp [intOf]; omega
        · have hr : RS.testBit k = true := by simpa using hr
          have RE : Hid (colsL (k + 1) RS = colsL k RS ++ [k]) := by show _ = _; rw [colsL_succ, if_pos hr]
          rw [hr] at HK
          have LB : (colsL k RS).length ≤ 6 := Nat.le_trans (colsL_len k RS) (by omega)
          have hBw : B ≤ wr.heap.size := Nat.le_trans HB.out kf.size
          have K5 := Lib.hid k5
          have KO := Lib.hid ko
          have KN := Lib.hid kn
          have KM := Lib.hid km
          have KF := Lib.hid kf
          have bf := k5.free 3
          clear k5 ko kn km kf hr ST
          have KOA : Hid ((wr.alloc (.cells #[.int .i64 (k : Int)] 3)).ownsRow B 3 1 V' (colsL k RS).length ((colsL k RS).map fun (r : Nat) => Value.int .i64 (r : Int))) := KO.out.alloc _
          have G1 : Hid (wr.grownBy (wr.alloc (.cells #[.int .i64 (k : Int)] 3)) V'.ownBlock) := World.grownBy_alloc _ _ _
          obtain ⟨L, hL⟩ : ∃ L, (colsL k RS).length = L := ⟨_, rfl⟩
          have HL := Lib.hid hL
          rw [hL] at KOA LB
          clear hL
          go_wp2_with fail
          refine (HK.out _).mono ?_
          rintro e w2 ⟨rfl, hw2⟩
          rw [hw2]
          clear hw2 HK
          go_wp2_with (first
            | (at_builtin; refine wpList_append_own_at _ rfl _ _ 22 rfl B 3 fi (.int .i64 0) 1 8 underlying_ints hfi hz0 hz1 hz2 rfl (by decide) _ _ _ rfl KOA.out ⟨wr.heap.size, 0, none⟩ 1 1 [.int .i64 (k : Int)] rfl rfl (cell_one_new _ _ _) (ints_oneCell .i64 [(k : Int)]) (by unfold maxLen; omega) (by omega) (by simp; omega) ?_; intro v' w1 hown' hgrow hnil hloc; obtain ⟨va, vm, vc, rfl⟩ := rows_form hown'; have K51 := take5 K5.out KO.out hgrow; have bf1 := K51.free 3; obtain ⟨-, -, -, q3, -⟩ := K51.all; replace K51 := Lib.hid K51)
            | fail)
          have PK : V'.ownBlock ≠ some px := fun e => own_ne5 KO.out e K5.out rfl
          have PM : V'.ownBlock ≠ some bm := fun e => own_neM KO.out e KM.out rfl
          have NV : ∀ g, (Value.slice va vm vc).ownBlock = some g → (Value.slice none 0 0).ownBlock = some g ∨ w.heap.size ≤ g := fun g hg => by
            rcases hloc with hl | hl
            · exact KN.out g (hl ▸ hg)
            · rw [hl] at hg
              injection hg with hg
              have := KF.out.size
              exact .inr (by rw [← hg]; simp; omega)
          have F1 : FrS (fun k => k = px ∨ V'.ownBlock = some k) wr (w1.setCell ⟨px, 3, none⟩ (.slice va vm vc)) := ((((FrS.refl _ wr).alloc _).trans ((FrS.of_row hgrow).mono (fun k hk => .inr hk)))).set (.inl (.inl rfl)) _
          go_roundw
          case rel =>
            refine ⟨k + 1, by go_num, by omega, _, K51.out.set3 _, ?_, NV, KM.out.move (F1.block bm KM.out.lt ?_), KF.out.transR F1 ?_⟩
            · have : w1.ownsRow B 3 1 (.slice va vm vc) (colsL (k + 1) RS).length ((colsL (k + 1) RS).map fun (r : Nat) => Value.int .i64 (r : Int)) := by
                rw [RE.out, List.length_append, List.map_append, HL.out]
                exact hown'
              refine this.kept (row := some px) (grown_set_one (World.grownBy.refl _ _) rfl _) (.inr fun hv => ?_)
              exact own_ne5 this hv K51.out rfl
            · rintro (e1 | e1)
              · exact K5.out.ne_map KM.out e1
              · exact PM e1
            · rintro k0 hk0 (rfl | e1)
              · exact .inl rfl
              · rcases KN.out k0 e1 with h | h
                · exact .inr (.inr h)
                · omega
          case measure => simp [intOf]; omega
      · obtain rfl : k = R := by omega
        have K5 := Lib.hid k5
        have KO := Lib.hid ko
        have KN := Lib.hid kn
        have KM := Lib.hid km
        have KF := Lib.hid kf
        clear k5 ko kn km kf hlt
        obtain ⟨w1, hcl, hm1, hg1⟩ := KM.out.clear 0
        go_wp2_with fail
        go_end0
        refine ⟨rfl, V', K5.out.one hg1 (KM.out.ne5 K5.out), KO.out.kept hg1 ?_, KN.out, hm1, KF.out.transR (FrS.of_row hg1) (fun k _ hk => .inr (.inl (by injection hk with hk; exact hk.symm)))⟩
        cases hv : V'.ownBlock with
        | none => exact .inl rfl
        | some g0 => exact .inr (fun e => own_neM KO.out hv KM.out (by injection e with e; exact e.symm))
  · have S0 : Hid (TkSt R n (.slice a N m) px bm c B D (.slice (some ⟨g, 0, none⟩) l cap) RS w 0 (w.setCell ⟨px, 3, none⟩ (.slice (some ⟨g, 0, none⟩) 0 cap))) :=
      ⟨_, H5.out.set3 _, ⟨rfl, .inr ⟨g, cap, cur, rfl, hg1, (Below.heap_setCell w ⟨px, 3, none⟩ _ g (Ne.symm (PN.out g rfl))).trans hg2, Nat.zero_le _, hg4, hg5, by simp [colsL]⟩⟩, fun g hg => .inl hg, MM.out.move (Below.heap_setCell _ _ _ _ (Ne.symm (MM.out.ne5 H5.out))), (FrS.refl _ w).set (.inl (.inl rfl)) _⟩
    clear h5 hm hB ho hg2 hg3 hg4 hg5 hg6
    go_enter Try.func77, Try.ntmps77
    go_wp2_with fail
    clear b0 b1 b2 b3 b4 bf PN OO
    generalize w.setCell ⟨px, 3, none⟩ (.slice (some ⟨g, 0, none⟩) 0 cap) = W at S0
    go_loopw [4, 18] (fun _ i wr => ∃ k : Nat, i = .int .i64 k ∧ k ≤ R ∧ TkSt R n (.slice a N m) px bm c B D (.slice (some ⟨g, 0, none⟩) l cap) RS w k wr) (fun _ i _ => R - (intOf i).toNat)
    case atStart => exact ⟨0, rfl, by omega, S0.out⟩
    case round =>
      obtain ⟨k, rfl, hk, hst⟩ := hrel
      have ST := Lib.hid hst
      obtain ⟨V', k5, ko, kn, km, kf⟩ := hst
      obtain ⟨b0, b1, b2, b3, b4⟩ := k5.all
      by_cases hlt : k < R
      · have HK := Lib.hid (fun w' => HA.out k w' hlt)
        by_cases hr : RS.testBit k = false
        · have RE : Hid (colsL (k + 1) RS = colsL k RS) := colsL_out hr
          rw [hr] at HK
          clear k5 ko kn km kf hr
          go_wp2_with fail
          refine (HK.out _).mono ?_
          rintro e w2 ⟨rfl, hw2⟩
          rw [hw2]
          clear hw2
          go_wp2_with fail
          go_roundw
          case rel => exact ⟨k + 1, by go_num, by omega, by have := ST.out; unfold TkSt at this ⊢; rw [RE.out]; exact this⟩
          case measure => simp [intOf]; omega
        · have hr : RS.testBit k = true := by simpa using hr
          have RE : Hid (colsL (k + 1) RS = colsL k RS ++ [k]) := by show _ = _; rw [colsL_succ, if_pos hr]
          rw [hr] at HK
          have LB : (colsL k RS).length ≤ 6 := Nat.le_trans (colsL_len k RS) (by omega)
          have hBw : B ≤ wr.heap.size := Nat.le_trans HB.out kf.size
          have K5 := Lib.hid k5
          have KO := Lib.hid ko
          have KN := Lib.hid kn
          have KM := Lib.hid km
          have KF := Lib.hid kf
          have bf := k5.free 3
          clear k5 ko kn km kf hr ST
          have KOA : Hid ((wr.alloc (.cells #[.int .i64 (k : Int)] 3)).ownsRow B 3 1 V' (colsL k RS).length ((colsL k RS).map fun (r : Nat) => Value.int .i64 (r : Int))) := KO.out.alloc _
          have G1 : Hid (wr.grownBy (wr.alloc (.cells #[.int .i64 (k : Int)] 3)) V'.ownBlock) := World.grownBy_alloc _ _ _
          obtain ⟨L, hL⟩ : ∃ L, (colsL k RS).length = L := ⟨_, rfl⟩
          have HL := Lib.hid hL
          rw [hL] at KOA LB
          clear hL
          go_wp2_with fail
          refine (HK.out _).mono ?_
          rintro e w2 ⟨rfl, hw2⟩
          rw [hw2]
          clear hw2 HK
          go_wp2_with (first
            | (at_builtin; refine wpList_append_own_at _ rfl _ _ 22 rfl B 3 fi (.int .i64 0) 1 8 underlying_ints hfi hz0 hz1 hz2 rfl (by decide) _ _ _ rfl KOA.out ⟨wr.heap.size, 0, none⟩ 1 1 [.int .i64 (k : Int)] rfl rfl (cell_one_new _ _ _) (ints_oneCell .i64 [(k : Int)]) (by unfold maxLen; omega) (by omega) (by simp; omega) ?_; intro v' w1 hown' hgrow hnil hloc; obtain ⟨va, vm, vc, rfl⟩ := rows_form hown'; have K51 := take5 K5.out KO.out hgrow; have bf1 := K51.free 3; obtain ⟨-, -, -, q3, -⟩ := K51.all; replace K51 := Lib.hid K51)
            | fail)
          have PK : V'.ownBlock ≠ some px := fun e => own_ne5 KO.out e K5.out rfl
          have PM : V'.ownBlock ≠ some bm := fun e => own_neM KO.out e KM.out rfl
          have NV : ∀ g', (Value.slice va vm vc).ownBlock = some g' → (Value.slice (some ⟨g, 0, none⟩) l cap).ownBlock = some g' ∨ w.heap.size ≤ g' := fun g' hg => by
            rcases hloc with hl | hl
            · exact KN.out g' (hl ▸ hg)
            · rw [hl] at hg
              injection hg with hg
              have := KF.out.size
              exact .inr (by rw [← hg]; simp; omega)
          have F1 : FrS (fun k => k = px ∨ V'.ownBlock = some k) wr (w1.setCell ⟨px, 3, none⟩ (.slice va vm vc)) := ((((FrS.refl _ wr).alloc _).trans ((FrS.of_row hgrow).mono (fun k hk => .inr hk)))).set (.inl (.inl rfl)) _
          go_roundw
          case rel =>
            refine ⟨k + 1, by go_num, by omega, _, K51.out.set3 _, ?_, NV, KM.out.move (F1.block bm KM.out.lt ?_), KF.out.transR F1 ?_⟩
            · have : w1.ownsRow B 3 1 (.slice va vm vc) (colsL (k + 1) RS).length ((colsL (k + 1) RS).map fun (r : Nat) => Value.int .i64 (r : Int)) := by
                rw [RE.out, List.length_append, List.map_append, HL.out]
                exact hown'
              refine this.kept (row := some px) (grown_set_one (World.grownBy.refl _ _) rfl _) (.inr fun hv => ?_)
              exact own_ne5 this hv K51.out rfl
            · rintro (e1 | e1)
              · exact K5.out.ne_map KM.out e1
              · exact PM e1
            · rintro k0 hk0 (rfl | e1)
              · exact .inl rfl
              · rcases KN.out k0 e1 with h | h
                · exact .inr (.inr h)
                · omega
          case measure => simp [intOf]; omega
      · obtain rfl : k = R := by omega
        have K5 := Lib.hid k5
        have KO := Lib.hid ko
        have KN := Lib.hid kn
        have KM := Lib.hid km
        have KF := Lib.hid kf
        clear k5 ko kn km kf hlt
        obtain ⟨w1, hcl, hm1, hg1⟩ := KM.out.clear 0
        go_wp2_with fail
        go_end0
        refine ⟨rfl, V', K5.out.one hg1 (KM.out.ne5 K5.out), KO.out.kept hg1 ?_, KN.out, hm1, KF.out.transR (FrS.of_row hg1) (fun k _ hk => .inr (.inl (by injection hk with hk; exact hk.symm)))⟩
        cases hv : V'.ownBlock with
        | none => exact .inl rfl
        | some g0 => exact .inr (fun e => own_neM KO.out hv KM.out (by injection e with e; exact e.symm))
end Go.Proofs.Ytpelnfenfeoeeaa
end
