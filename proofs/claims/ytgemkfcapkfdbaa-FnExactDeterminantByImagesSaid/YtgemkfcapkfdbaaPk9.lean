/-
  Texts of this seat, joined: MatI · SqI · DoneI · FoldM · BnI
-/
import Derived.BigQuiet
import Derived.Deep.QuietTactic
import Derived.IntWalk
import Derived.StillTailTactics
import Derived.Test.YtgemkfcapkfdbaaPk1
import Derived.Test.YtgemkfcapkfdbaaPk3
import Derived.Test.YtgemkfcapkfdbaaPk4
import Derived.Test.YtgemkfcapkfdbaaPk5
import Derived.Test.YtgemkfcapkfdbaaPk8

section
/-
  Chapter 3, in the program: IsMatrix.
-/
namespace Go.Proofs.Ytgemkfcapkfdbaa
open Go.RowKit

theorem iSize_t (n : Int) (w : World) (h1 : 0 ≤ n) (h2 : n ≤ 24) :
    Calls Try.prog 94 #[.int .i64 n] w fun e w' => e = .returned (.bool true) ∧ w = w' := by
  go_enter Try.func94, Try.ntmps94
  go_wp2
  go_ret
  exact ⟨rfl, rfl⟩
theorem iSize_f (n : Int) (w : World) (h : n < 0 ∨ 24 < n) :
    Calls Try.prog 94 #[.int .i64 n] w fun e w' => e = .returned (.bool false) ∧ w = w' := by
  by_cases h1 : 0 ≤ n
  · have h2 : decide (n ≤ 24) = false := by simp; omega
    go_enter Try.func94, Try.ntmps94
    go_wp2
    go_ret
    exact ⟨rfl, rfl⟩
  · go_enter Try.func94, Try.ntmps94
    go_wp2
    go_ret
    exact ⟨rfl, rfl⟩
theorem iSize (n : Int) (w : World) :
    Calls Try.prog 94 #[.int .i64 n] w fun e w' => e = .returned (.bool (decide (SizeP n))) ∧ w = w' := by
  by_cases h : SizeP n
  · rw [decide_eq_true h]; exact iSize_t n w h.1 h.2
  · rw [decide_eq_false h]; exact iSize_f n w (by unfold SizeP at h; omega)
theorem iIsNum (n : Int) (w : World) :
    Calls Try.prog 36 #[.int .i64 n] w fun e w' => e = .returned (.bool (decide (NumP n))) ∧ w = w' := by
  by_cases h : NumP n
  · rw [decide_eq_true h]; exact iIsNum_t n w h.1 h.2
  · rw [decide_eq_false h]; exact iIsNum_f n w (by unfold NumP at h; omega)
/-- The step of IsMatrix's fold. -/
theorem iStep (b : Bool) (i j z : Int) (w : World) :
    Calls Try.prog 96 #[.bool b, .int .i64 i, .int .i64 j, .int .i64 z] w fun e w' => e = .returned (.bool (b && decide (NumP z))) ∧ w = w' := by
  cases b
  · go_enter Try.func96, Try.ntmps96
    go_wp2_with fail
    go_ret
    exact ⟨rfl, rfl⟩
  · go_enter Try.func96, Try.ntmps96
    go_wp2_with fail
    refine (iIsNum z _).mono ?_
    rintro e w' ⟨rfl, rfl⟩
    go_wp2_with fail
    go_ret
    exact ⟨rfl, rfl⟩
theorem take_nums (zs : List Int) (k : Nat) (hk : k < zs.length) : nums (zs.take (k + 1)) = (nums (zs.take k) && decide (NumP (zs.getD k 0))) := by
  unfold nums
  rw [List.take_succ_eq_append_getElem hk, List.all_append]
  simp only [List.all_cons, List.all_nil, Bool.and_true, List.getD, List.getElem?_eq_getElem hk, Option.getD_some]
set_option maxHeartbeats 400000 in
theorem iFoldB (r c : Int) (a : Option Addr) (cap : Nat) (zs : List Int) (w : World) (h : Rd w a zs) (hn : zs.length ≤ 16777216) (hc : zs.length = 0 ∨ 0 < c) :
    Calls Try.prog 95 #[.agg #[.int .i64 r, .int .i64 c, .slice a zs.length cap], .bool true, .func (.func 96) #[] #[]] w (Gives (.bool (nums zs)) w) := by
  have B0 : ∀ o, Below w.heap.size w (w.alloc o) := fun o => (Below.refl _ _).alloc (Nat.le_refl _) o
  have BH := Lib.hid B0
  have H := Lib.hid h
  obtain ⟨n, hnn⟩ : ∃ n, zs.length = n := ⟨_, rfl⟩
  have HN := Lib.hid hnn
  rw [hnn] at hn hc ⊢
  clear h B0 hnn
  go_enter Try.func95, Try.ntmps95
  go_wp2_with fail
  go_loopw [7, 8, 9, 14] (fun b _ _ i wr => ∃ k : Nat, i = .int .i64 k ∧ k ≤ n ∧ b = .bool (nums (zs.take k)) ∧ ∃ q, wr = (w.alloc (.cells #[.int .i64 r, .int .i64 c, .slice a n cap] 34)).drewN q) (fun _ _ _ i _ => n - (intOf i).toNat)
  case atStart => exact ⟨0, rfl, by omega, rfl, 0, rfl⟩
  case round =>
    obtain ⟨k, rfl, hk, rfl, q, rfl⟩ := hrel
    by_cases hlt : k < n
    · have c0 : (c == 0) = false := by simp; omega
      obtain ⟨b, o, rfl, hcell⟩ := (H.out.below (BH.out (.cells #[.int .i64 r, .int .i64 c, .slice a n cap] 34))) k (by rw [HN.out]; exact hlt)
      obtain ⟨z, hz⟩ : ∃ z, zs.getD k 0 = z := ⟨_, rfl⟩
      obtain ⟨bb, hbb⟩ : ∃ bb, nums (zs.take k) = bb := ⟨_, rfl⟩
      rw [hz] at hcell
      have Z := Lib.hid hz
      have BB := Lib.hid hbb
      rw [hbb]
      clear hz hbb
      go_wp2_with fail
      go_quiet ((refine (iStep _ _ _ _ _).mono ?_; rintro e w' ⟨rfl, rfl⟩; exact ⟨rfl, _, rfl⟩))
      go_wp2_with fail
      go_roundw
      case rel => exact ⟨k + 1, by go_num, by omega, by rw [take_nums zs k (by rw [HN.out]; exact hlt), BB.out, Z.out], _, rfl⟩
      case measure => simp [intOf]; omega
    · have hkn : k = n := by omega
      subst hkn
      have E : Hid (nums (zs.take k) = nums zs) := by show nums (zs.take k) = nums zs; rw [← HN.out, List.take_length]
      go_wp2_with fail
      go_ret
      exact ⟨by rw [E.out]; rfl, below_drewN (BH.out _) q⟩

set_option maxHeartbeats 400000 in
theorem iIsMat (r c : Int) (a : Option Addr) (cap : Nat) (zs : List Int) (w : World) (h : Rd w a zs) (hn : zs.length ≤ 16777216) :
    Calls Try.prog 76 #[.agg #[.int .i64 r, .int .i64 c, .slice a zs.length cap]] w (Gives (.bool (isMat r c zs)) w) := by
  have B0 : ∀ o, Below w.heap.size w (w.alloc o) := fun o => (Below.refl _ _).alloc (Nat.le_refl _) o
  have BH := Lib.hid B0
  have H := Lib.hid h
  clear h B0
  obtain ⟨n, hnn⟩ : ∃ n, zs.length = n := ⟨_, rfl⟩
  have HN := Lib.hid hnn
  have ED : isMat r c zs = (decide (SizeP r) && decide (SizeP c) && decide ((n : Int) = r * c) && nums zs) := by unfold isMat; rw [hnn]
  have E := Lib.hid ED
  rw [hnn] at hn ⊢
  clear hnn ED
  by_cases hr : 0 ≤ r ∧ r ≤ 24
  · by_cases hc : 0 ≤ c ∧ c ≤ 24
    · obtain ⟨m1, m2⟩ := mul_size r c hr hc
      by_cases hl : (n : Int) = r * c
      · have l1 : ((n : Int) != r * c) = false := by simpa using hl
        have l2 : ((n : Int) == r * c) = true := by simpa using hl
        have E2 : Hid (isMat r c zs = nums zs) := by
          show isMat r c zs = nums zs
          rw [E.out, show decide (SizeP r) = true from decide_eq_true hr, show decide (SizeP c) = true from decide_eq_true hc, show decide ((n : Int) = r * c) = true from decide_eq_true hl]; rfl
        have hz : zs.length = 0 ∨ 0 < c := by
          rw [HN.out]
          rcases Nat.eq_zero_or_pos n with e | e
          · exact .inl e
          · right
            rcases Int.lt_or_lt_of_ne (a := c) (b := 0) (fun e0 => by rw [e0, Int.mul_zero] at hl; omega) with h | h <;> omega
        have HZ := Lib.hid hz
        clear hl hz
        obtain ⟨r1, r2⟩ := hr
        obtain ⟨c1, c2⟩ := hc
        go_enter Try.func76, Try.ntmps76
        go_wp2_with (go_at_call 94; refine (iSize_t _ _ (by omega) (by omega)).mono ?_; rintro e w' ⟨rfl, rfl⟩)
        have ST := iFoldB r c a cap zs _ (H.out.below (BH.out (.cells #[.int .i64 r, .int .i64 c, .slice a n cap] 34))) (by rw [HN.out]; exact hn) HZ.out
        rw [HN.out] at ST
        refine ST.mono ?_
        clear ST
        rintro e w' ⟨rfl, hb⟩
        have HB := Lib.hid ((BH.out _).trans (hb.mono (BH.out (.cells #[.int .i64 r, .int .i64 c, .slice a n cap] 34)).size))
        clear hb
        go_wp2_with fail
        go_ret
        exact ⟨by rw [E2.out]; rfl, HB.out⟩
      · have l1 : ((n : Int) != r * c) = true := by simpa using hl
        have l2 : ((n : Int) == r * c) = false := by simpa using hl
        have E2 : Hid (isMat r c zs = false) := by
          show isMat r c zs = false
          rw [E.out, show decide ((n : Int) = r * c) = false from decide_eq_false hl]; simp
        clear hl
        obtain ⟨r1, r2⟩ := hr
        obtain ⟨c1, c2⟩ := hc
        go_enter Try.func76, Try.ntmps76
        go_wp2_with (go_at_call 94; refine (iSize_t _ _ (by omega) (by omega)).mono ?_; rintro e w' ⟨rfl, rfl⟩)
        go_ret
        exact ⟨by rw [E2.out]; rfl, BH.out _⟩
    · have E2 : Hid (isMat r c zs = false) := by
        show isMat r c zs = false
        rw [E.out, show decide (SizeP c) = false from decide_eq_false hc]; simp
      have hc' : c < 0 ∨ 24 < c := by omega
      clear hc
      go_enter Try.func76, Try.ntmps76
      go_wp2_with fail
      refine (iSize_t r _ hr.1 hr.2).mono ?_
      rintro e w' ⟨rfl, rfl⟩
      go_wp2_with fail
      refine (iSize_f c _ hc').mono ?_
      rintro e w' ⟨rfl, rfl⟩
      go_wp2_with fail
      go_ret
      exact ⟨by rw [E2.out]; rfl, BH.out _⟩
  · have E2 : Hid (isMat r c zs = false) := by
      show isMat r c zs = false
      rw [E.out, show decide (SizeP r) = false from decide_eq_false hr]; simp
    have hr' : r < 0 ∨ 24 < r := by omega
    clear hr
    go_enter Try.func76, Try.ntmps76
    go_wp2_with fail
    refine (iSize_f r _ hr').mono ?_
    rintro e w' ⟨rfl, rfl⟩
    go_wp2_with fail
    go_ret
    exact ⟨by rw [E2.out]; rfl, BH.out _⟩
end Go.Proofs.Ytgemkfcapkfdbaa
end

section
/-
  Chapter 6, in the program: IsSquare.
-/
namespace Go.Proofs.Ytgemkfcapkfdbaa
set_option maxRecDepth 100000
open Go.RowKit

set_option maxHeartbeats 1000000 in
theorem iIsSq (r c : Int) (a : Option Addr) (m : Nat) (xs : List Int) (w : World) (h : Rd w a xs) (hn : xs.length ≤ 16777216) :
    Calls Try.prog 45 #[.agg #[.int .i64 r, .int .i64 c, .slice a xs.length m]] w (Gives (.bool (isSq r c xs)) w) := by
  have H := Lib.hid h
  obtain ⟨n, hx⟩ : ∃ n, xs.length = n := ⟨_, rfl⟩
  have HX := Lib.hid hx
  rw [hx] at hn ⊢
  clear hx h
  have B0 : ∀ o1, Below w.heap.size w (w.alloc o1) := fun o1 => (Below.refl _ _).alloc (Nat.le_refl _) _
  have BH := Lib.hid B0
  clear B0
  have fin : ∀ b (w' : World), isSq r c xs = b → Below w.heap.size w w' → Gives (.bool (isSq r c xs)) w (.returned (.bool b)) w' := fun b w' h1 h2 => ⟨by rw [h1], h2⟩
  have FIN := Lib.hid fin
  clear fin
  go_enter Try.func45, Try.ntmps45
  go_wp2_with fail
  have ST := iIsMat r c a m xs _ (H.out.below (BH.out (.cells #[.int .i64 r, .int .i64 c, .slice a n m] 34))) (by rw [HX.out]; omega)
  rw [HX.out] at ST
  refine ST.mono ?_
  clear ST
  rintro e w1 ⟨rfl, hb⟩
  have K0 : Hid (Blk3 w1 w.heap.size 34 (.int .i64 r) (.int .i64 c) (.slice a n m)) := (Blk3.at_ _ _ _ _ rfl).keep hb (by simp)
  have B : Hid (Below w.heap.size w w1) := (BH.out _).trans (hb.mono (by simp))
  clear hb
  obtain ⟨ca0, ca1, ca2, -, -, -⟩ := K0.out.all
  obtain ⟨bm, hbm⟩ : ∃ b, isMat r c xs = b := ⟨_, rfl⟩
  rw [hbm]
  cases bm with
  | false =>
    have V : Hid (isSq r c xs = false) := by show isSq r c xs = false; unfold isSq; rw [hbm]; rfl
    clear hbm
    go_wp2_with fail
    go_ret
    exact FIN.out _ _ V.out B.out
  | true =>
    by_cases h1 : r = c
    · by_cases h2 : r ≤ 6
      · have V : Hid (isSq r c xs = true) := by show isSq r c xs = true; unfold isSq; rw [hbm, decide_eq_true h1, decide_eq_true h2]; rfl
        clear hbm
        subst h1
        go_wp2_with fail
        go_ret
        exact FIN.out _ _ V.out B.out
      · have V : Hid (isSq r c xs = false) := by show isSq r c xs = false; unfold isSq; rw [hbm, decide_eq_false h2]; simp
        clear hbm
        subst h1
        go_wp2_with fail
        go_ret
        exact FIN.out _ _ (by rw [V.out]; exact (decide_eq_false (by omega)).symm) B.out
    · have V : Hid (isSq r c xs = false) := by show isSq r c xs = false; unfold isSq; rw [hbm, decide_eq_false h1]; simp
      have n1 : (r == c) = false := by simpa using h1
      clear hbm
      go_wp2_with fail
      go_ret
      exact FIN.out _ _ V.out B.out
end Go.Proofs.Ytgemkfcapkfdbaa
end

section
/-
  Chapter 3, in the program: a matrix that is handed on if it is valid.
-/
namespace Go.Proofs.Ytgemkfcapkfdbaa
open Go.RowKit

end Go.Proofs.Ytgemkfcapkfdbaa
end

section
/-
  Chapter 3, in the program: a fold whose closure writes into its value (MultiplyMatrices).
-/
namespace Go.Proofs.Ytgemkfcapkfdbaa
set_option maxRecDepth 100000
open Go.RowKit

theorem sevenG {W w' : World} {b g : Nat} {t : TypeId} {p q r : Value} (h0 : Blk3 W b t p q r) (hg : W.grownBy w' (some g)) (hb : b ≠ g) :
    w'.cell? ⟨b, 0, none⟩ = some p ∧ w'.cell? ⟨b, 1, none⟩ = some q ∧ w'.cell? ⟨b, 2, none⟩ = some r :=
  ⟨(h0.keepOne hg hb).cell0, (h0.keepOne hg hb).cell1, (h0.keepOne hg hb).cell2⟩
theorem far_of {w : World} {a : Option Addr} {zs : List Int} {n : Nat} (h : Rd w a zs) (hn : zs.length = n) : ∀ b o : Nat, a = some ⟨b, o, none⟩ → 0 < n → b ≠ w.heap.size := by
  intro b o e hz
  obtain ⟨b', o', e', hc⟩ := h 0 (by omega)
  rw [e] at e'
  injection e' with e'
  injection e' with e1 e2
  have := World.block_lt_of_cell? w _ hc
  simp at this
  omega
end Go.Proofs.Ytgemkfcapkfdbaa
end

section
/-
  Chapter 9, in the program: RowBound.
-/
namespace Go.Proofs.Ytgemkfcapkfdbaa
set_option maxRecDepth 100000
open Go.RowKit

/-- The sums of the rows, as far as k cells are taken. -/
def sumsTo (n : Nat) (xs : List Int) (k : Nat) : List Int := (List.range n).map fun i => rowA n xs i (min n (k - i * n))
theorem sumsTo_length (n : Nat) (xs : List Int) (k : Nat) : (sumsTo n xs k).length = n := by simp [sumsTo]
theorem sumsTo_at {n : Nat} {xs : List Int} {k i : Nat} (h : i < n) : (sumsTo n xs k).getD i 0 = rowA n xs i (min n (k - i * n)) := by simp [sumsTo, List.getD, h]
theorem sumsTo_zero (n : Nat) (xs : List Int) : sumsTo n xs 0 = List.replicate n 0 := by
  refine list_eq (n := n) (sumsTo_length _ _ _) (by simp) fun j hj => ?_
  rw [sumsTo_at hj, Nat.zero_sub, Nat.min_zero, rowA_zero]
  simp [List.getD, hj]
theorem sumsTo_step {n : Nat} {xs : List Int} {i j : Nat} (hi : i < n) (hj : j < n) : (sumsTo n xs (i * n + j)).set i ((sumsTo n xs (i * n + j)).getD i 0 + ((xs.getD (i * n + j) 0).natAbs : Int)) = sumsTo n xs (i * n + j + 1) := by
  refine list_eq (n := n) (by rw [List.length_set, sumsTo_length]) (sumsTo_length _ _ _) fun q hq => ?_
  rw [getD_set _ _ _ _ (by rw [sumsTo_length]; exact hi), sumsTo_at hq, sumsTo_at hq, sumsTo_at hi]
  by_cases e : q = i
  · rw [if_pos e, e, show i * n + j - i * n = j by omega, show i * n + j + 1 - i * n = j + 1 by omega, Nat.min_eq_right (by omega), Nat.min_eq_right (by omega), rowA_step]
  · rw [if_neg e]
    rcases Nat.lt_or_ge q i with h1 | h1
    · have h2 : (q + 1) * n ≤ i * n := Nat.mul_le_mul_right n h1
      rw [Nat.add_mul, Nat.one_mul] at h2
      rw [Nat.min_eq_left (by omega), Nat.min_eq_left (by omega)]
    · have h2 : (i + 1) * n ≤ q * n := Nat.mul_le_mul_right n (by omega)
      rw [Nat.add_mul, Nat.one_mul] at h2
      rw [show i * n + j - q * n = 0 by omega, show i * n + j + 1 - q * n = 0 by omega]
theorem sumsTo_all {n : Nat} {xs : List Int} {i : Nat} (hi : i < n) : (sumsTo n xs (n * n)).getD i 0 = rowA n xs i n := by
  rw [sumsTo_at hi]
  have h2 : (i + 1) * n ≤ n * n := Nat.mul_le_mul_right n hi
  rw [Nat.add_mul, Nat.one_mul] at h2
  rw [Nat.min_eq_left (by omega)]
theorem rowA_le {n : Nat} {xs : List Int} (hx : nums xs = true) (i : Nat) : ∀ j, rowA n xs i j ≤ 400000000 * j
  | 0 => by show (0 : Int) ≤ _; omega
  | j + 1 => by
    have h1 := rowA_le (n := n) hx i j
    have h2 : ((xs.getD (i * n + j) 0).natAbs : Int) ≤ 400000000 := by
      rcases Nat.lt_or_ge (i * n + j) xs.length with h | h
      · obtain ⟨a, b⟩ := nums_at hx h
        omega
      · simp [List.getD, h]
    rw [rowA_step]
    omega
theorem sumsTo_bd {n : Nat} {xs : List Int} (hx : nums xs = true) (h6 : n ≤ 6) {k i : Nat} (hi : i < n) : 0 ≤ (sumsTo n xs k).getD i 0 ∧ (sumsTo n xs k).getD i 0 ≤ 2400000000 := by
  rw [sumsTo_at hi]
  have := rowA_nonneg n xs i (min n (k - i * n))
  have := rowA_le (n := n) hx i (min n (k - i * n))
  omega
/-- The product of the sums is the bound. -/
theorem pd_bnd {n : Nat} {xs : List Int} : ∀ i, i ≤ n → pdTo (sumsTo n xs (n * n)) i = bndTo n xs i
  | 0, _ => rfl
  | i + 1, hi => by
    have ih := pd_bnd (n := n) (xs := xs) i (by omega)
    have e := sumsTo_all (n := n) (xs := xs) (i := i) (by omega)
    have r0 := rowA_nonneg n xs i n
    cases hb : bndTo n xs i with
    | none =>
      rw [hb] at ih
      rw [bndTo_none hb (i + 1) (by omega), pdTo_none ih (i + 1) (by omega)]
    | some P =>
      rw [hb] at ih
      obtain ⟨p0, p1, -⟩ := bndTo_says hb
      have q0 : 0 ≤ P * rowA n xs i n := Int.mul_nonneg p0 r0
      by_cases h : rowA n xs i n ≤ 400000000 ∧ P * rowA n xs i n ≤ 400000000
      · rw [bndTo_yes hb h.1 h.2, pdTo_yes ih e ⟨by omega, h.1⟩ ⟨by omega, h.2⟩]
      · rw [bndTo_no hb (by omega), pdTo_no ih e (fun k => h ⟨k.1.2, k.2.2⟩)]
theorem pdX_bnd {n : Nat} {xs : List Int} (h : isSq n n xs = true) : pdX (sumsTo n xs (n * n)) = bndX n n xs := by
  have e := pd_bnd (n := n) (xs := xs) n (Nat.le_refl _)
  unfold pdX
  rw [sumsTo_length, e]
  cases hb : bndTo n xs n with
  | none => rw [bndX_no h hb]
  | some P => rw [bndX_yes h hb]
set_option maxHeartbeats 1000000 in
/-- The closure adds one cell to its row's sum. -/
theorem iBoundStep (g m mc i : Nat) (j z : Int) (L : List Int) (w : World) (hI : Ints w g L) (hi : i < m) (hl : m = L.length) (hz : -400000000 ≤ z ∧ z ≤ 400000000) (hs : 0 ≤ L.getD i 0 ∧ L.getD i 0 ≤ 2400000000) :
    Calls Try.prog 58 #[.slice (some ⟨g, 0, none⟩) m mc, .int .i64 (i : Int), .int .i64 j, .int .i64 z] w
      (fun e w2 => e = .returned (.slice (some ⟨g, 0, none⟩) m mc) ∧ Ints w2 g (L.set i (L.getD i 0 + (z.natAbs : Int))) ∧ w.grownBy w2 (some g)) := by
  obtain ⟨z0, z1⟩ := hz
  obtain ⟨s0, s1⟩ := hs
  have hold := hI.cell (i := i) (by omega)
  have hfr := hI.free i
  have I := Lib.hid hI
  obtain ⟨s, hs⟩ : ∃ s, L.getD i 0 = s := ⟨_, rfl⟩
  rw [hs] at hold s0 s1 ⊢
  have v1 : IntKind.i64.wrap (-z) = -z := IntWalk.i64_in _ (by omega)
  have v2 : max z (-z) = (z.natAbs : Int) := by omega
  have v3 : IntKind.i64.wrap (s + (z.natAbs : Int)) = s + (z.natAbs : Int) := IntWalk.i64_in _ (by omega)
  clear hI hs
  go_enter Try.func58, Try.ntmps58
  go_wp2_with fail
  go_ret
  exact ⟨rfl, I.out.set _ _, grown_set_one (World.grownBy.refl _ _) rfl _⟩
theorem boundStepOf (n g : Nat) (xs : List Int) (h6 : n ≤ 6) (hl : xs.length = n * n) (hx : nums xs = true) (k : Nat) (w1 : World) (hk : k < n * n) (hI : Ints w1 g (sumsTo n xs k)) :
    Calls Try.prog 58 #[.slice (some ⟨g, 0, none⟩) n n, .int .i64 ((k : Int) / (n : Int)), .int .i64 ((k : Int) % (n : Int)), .int .i64 (xs.getD k 0)] w1
      (fun e w2 => e = .returned (.slice (some ⟨g, 0, none⟩) n n) ∧ Ints w2 g (sumsTo n xs (k + 1)) ∧ w1.grownBy w2 (some g)) := by
  have hn : 0 < n := by
    rcases Nat.eq_zero_or_pos n with e | e
    · rw [e] at hk; omega
    · exact e
  have e1 : k / n * n + k % n = k := by rw [Nat.mul_comm]; exact Nat.div_add_mod k n
  have hj : k % n < n := Nat.mod_lt k hn
  have hi : k / n < n := Nat.div_lt_of_lt_mul hk
  have st := sumsTo_step (xs := xs) hi hj
  rw [e1] at st
  rw [← Int.natCast_ediv]
  refine (iBoundStep g n n (k / n) _ (xs.getD k 0) _ w1 hI hi (sumsTo_length _ _ _).symm (nums_at hx (by omega)) (sumsTo_bd hx h6 hi)).mono ?_
  rintro e w2 ⟨h1, h2, h3⟩
  rw [st] at h2
  exact ⟨h1, h2, h3⟩
set_option maxHeartbeats 1000000 in
theorem iFoldSum (n N : Nat) (a : Option Addr) (cap : Nat) (zs : List Int) (g : Nat) (w : World) (hx : zs.length = N) (h : Rd w a zs) (hn : N = n * n) (h6 : n ≤ 6) (hnum : nums zs = true) (hg : Ints w g (sumsTo n zs 0)) (hz : ∀ b o : Nat, a = some ⟨b, o, none⟩ → 0 < N → b ≠ g) :
    Calls Try.prog 57 #[.agg #[.int .i64 n, .int .i64 n, .slice a N cap], .slice (some ⟨g, 0, none⟩) n n, .func (.func 58) #[] #[]] w
      (fun e w' => e = .returned (.slice (some ⟨g, 0, none⟩) n n) ∧ Ints w' g (sumsTo n zs N) ∧ w.grownBy w' (some g)) := by
  have H := Lib.hid h
  have hle : n * n ≤ 6 * 6 := Nat.mul_le_mul h6 h6
  have ST : Hid (∀ (k : Nat) (w1 : World), k < N → Ints w1 g (sumsTo n zs k) → Calls Try.prog 58 #[.slice (some ⟨g, 0, none⟩) n n, .int .i64 ((k : Int) / (n : Int)), .int .i64 ((k : Int) % (n : Int)), .int .i64 (zs.getD k 0)] w1
      (fun e w2 => e = .returned (.slice (some ⟨g, 0, none⟩) n n) ∧ Ints w2 g (sumsTo n zs (k + 1)) ∧ w1.grownBy w2 (some g))) := fun k w1 h1 h2 => boundStepOf n g zs h6 (hx.trans hn) hnum k w1 (by omega) h2
  have HZ := Lib.hid hz
  have HN := Lib.hid hx
  rw [← hn] at hle
  have HM := Lib.hid hn
  have gw : w.grownBy (w.alloc (.cells #[.int .i64 n, .int .i64 n, .slice a N cap] 34)) (some g) := World.grownBy_alloc w _ _
  have G0 := Lib.hid gw
  have I0 := Lib.hid (hg.old (.cells #[.int .i64 n, .int .i64 n, .slice a N cap] 34))
  have K0 : Hid (Blk3 (w.alloc (.cells #[.int .i64 n, .int .i64 n, .slice a N cap] 34)) w.heap.size 34 (.int .i64 n) (.int .i64 n) (.slice a N cap)) := Blk3.at_ _ _ _ _ rfl
  have lg := hg.lt
  clear h hz hx hn gw hg hnum
  go_enter Try.func57, Try.ntmps57
  go_wp2_with fail
  go_loopw [7, 8, 9, 14] (fun v _ _ i wr => ∃ k : Nat, i = .int .i64 k ∧ k ≤ N ∧ v = .slice (some ⟨g, 0, none⟩) n n ∧ Ints wr g (sumsTo n zs k) ∧ (w.alloc (.cells #[.int .i64 n, .int .i64 n, .slice a N cap] 34)).grownBy wr (some g)) (fun _ _ _ i _ => N - (intOf i).toNat)
  case atStart => exact ⟨0, rfl, by omega, rfl, I0.out, World.grownBy.refl _ _⟩
  case round =>
    obtain ⟨k, rfl, hk, rfl, hi, hgr⟩ := hrel
    have I := Lib.hid hi
    have G := Lib.hid hgr
    have GW := Lib.hid (G0.out.trans hgr)
    clear hi hgr
    have R0 := Lib.hid (K0.out.keepOne G.out (by omega))
    by_cases hlt : k < N
    · have hC0 : 0 < n := by
        rcases Nat.eq_zero_or_pos n with e | e
        · have := HM.out; rw [e, Nat.mul_zero] at this; omega
        · exact e
      have c0 : ((n : Int) == 0) = false := by simp; omega
      obtain ⟨b, o, rfl, hcell⟩ := H.out k (by rw [HN.out]; exact hlt)
      have u1 := World.block_lt_of_cell? w _ hcell
      have hb : b ≠ g := HZ.out b o rfl (by omega)
      have hcell := GW.out.cell hcell (by simpa using hb)
      have d1 : (k : Int) / (n : Int) = ((k / n : Nat) : Int) := (Int.natCast_ediv k n).symm
      have d2 : (k : Int) % (n : Int) = ((k % n : Nat) : Int) := (Int.natCast_emod k n).symm
      have d3 : k / n ≤ k := Nat.div_le_self k n
      have d4 : k % n ≤ k := Nat.mod_le k n
      have d5 : 0 ≤ (k : Int) / (n : Int) := by rw [d1]; exact Int.natCast_nonneg _
      have d6 : (k : Int) / (n : Int) ≤ 600 := by rw [d1]; exact Int.ofNat_le.mpr (show k / n ≤ 600 by omega)
      have c1 : ¬ n = 0 := by omega
      have w1 : IntKind.i64.wrap ((k : Int) / (n : Int)) = (k : Int) / (n : Int) := IntWalk.i64_in _ (by omega)
      have e2 : Int.tmod (k : Int) (n : Int) = (k : Int) % (n : Int) := Int.tmod_eq_emod_of_nonneg (by omega)
      have e3 : Int.tdiv (k : Int) (n : Int) = (k : Int) / (n : Int) := Int.tdiv_eq_ediv_of_nonneg (by omega)
      clear d1 d2
      obtain ⟨z, hz⟩ : ∃ z, zs.getD k 0 = z := ⟨_, rfl⟩
      rw [hz] at hcell
      have Z := Lib.hid hz
      clear hz u1
      obtain ⟨r0, r1, r2, -, -, -⟩ := R0.out.all
      go_wp2_with fail
      go_still_tail 11, (by kernel_rfl)
      go_wp2_with fail
      rw [← Z.out]
      refine (ST.out k _ hlt I.out.drew).mono ?_
      rintro e w2 ⟨rfl, hi2, hg2⟩
      have I2 := Lib.hid hi2
      have G2 := Lib.hid ((grown_drew_one G.out).trans hg2)
      clear hi2 hg2
      go_wp2_with fail
      go_roundw
      case rel => exact ⟨k + 1, by go_num, by omega, rfl, I2.out, G2.out⟩
      case measure => simp [intOf]; omega
    · obtain rfl : N = k := by omega
      go_wp2_with fail
      go_ret
      exact ⟨rfl, I.out, GW.out⟩
set_option maxHeartbeats 2000000 in
theorem iBnd (r c : Int) (a : Option Addr) (m : Nat) (xs : List Int) (w : World) (h : Rd w a xs) (hn : xs.length ≤ 16777216) :
    Calls Try.prog 22 #[.agg #[.int .i64 r, .int .i64 c, .slice a xs.length m]] w (Gives (.tuple #[.int .i64 (bndX r c xs).1, .bool (bndX r c xs).2]) w) := by
  have SQ : Hid (∀ w', Below w.heap.size w w' → Calls Try.prog 45 #[.agg #[.int .i64 r, .int .i64 c, .slice a xs.length m]] w' (Gives (.bool (isSq r c xs)) w')) := fun w' hb => iIsSq r c a m xs w' (h.below hb) hn
  have B0 : Hid (Below w.heap.size w (w.alloc (.cells #[.int .i64 r, .int .i64 c, .slice a xs.length m] 34))) := (Below.refl _ _).alloc (Nat.le_refl _) _
  have K0 : Hid (Blk3 (w.alloc (.cells #[.int .i64 r, .int .i64 c, .slice a xs.length m] 34)) w.heap.size 34 (.int .i64 r) (.int .i64 c) (.slice a xs.length m)) := Blk3.at_ _ _ _ _ rfl
  rcases Bool.eq_false_or_eq_true (isSq r c xs) with hs | hs
  · have HS := hs
    rw [hs] at SQ
    obtain ⟨n, rfl, rfl, h6, hl, hnum⟩ := isSq_says hs
    have PX := Lib.hid (pdX_bnd HS)
    have NX := Lib.hid hnum
    have H := Lib.hid h
    have HX := Lib.hid hl
    have hmk := makeInts n (by omega)
    obtain ⟨N, hN⟩ : ∃ N, n * n = N := ⟨_, rfl⟩
    have HN := Lib.hid hN
    rw [hl, hN] at SQ B0 K0 ⊢
    clear h hs HS hl hnum hN hn
    go_enter Try.func22, Try.ntmps22
    go_wp2_with fail
    refine (SQ.out _ B0.out).mono ?_
    rintro e w1 ⟨rfl, hb⟩
    have K1 := Lib.hid (K0.out.step hb)
    have B1 := Lib.hid (B0.out.trans (hb.mono (by simp)))
    clear hb K0 B0 SQ
    obtain ⟨p0, p1, p2, -, -, -⟩ := K1.out.all
    go_upto_region 3 with fail
    refine wp_region_held_drew (S := fun w' => Below w1.heap.size w1 w') (by kernel_rfl) (Below.refl _ _).drew (fun hH => ?_)
    refine wpAnyH_take (i := 0) (v := ?_) (by simp only [List.getElem?_toArray, List.getElem?_cons_zero]; rfl) (by kernel_rfl) (by kernel_rfl) (by kernel_rfl) (by exact fun _ _ _ h => h) (Or.inl ⟨by rfl, ?_⟩) hH ?_
    rotate_left
    · (intro wS hS; (try dsimp only at hS); obtain ⟨k1, k2, k3⟩ := seven K1.out hS; go_simp; try rfl)
    try simp only [Act.put, List.setIfInBounds_toArray, List.set_cons_zero, List.set_cons_succ]
    refine wpAnyH_take (i := 1) (v := ?_) (by simp only [List.getElem?_toArray, List.getElem?_cons_succ, List.getElem?_cons_zero]; rfl) (by kernel_rfl) (by kernel_rfl) (by kernel_rfl) (by exact fun _ _ _ h => h) (Or.inl ⟨by rfl, ?_⟩) hH ?_
    rotate_left
    · (intro wS hS; (try dsimp only at hS); obtain ⟨k1, k2, k3⟩ := seven K1.out hS; go_simp; try rfl)
    try simp only [Act.put, List.setIfInBounds_toArray, List.set_cons_zero, List.set_cons_succ]
    refine wpAnyH_take (i := 2) (v := ?_) (by simp only [List.getElem?_toArray, List.getElem?_cons_succ, List.getElem?_cons_zero]; rfl) (by kernel_rfl) (by kernel_rfl) (by kernel_rfl) (by exact fun _ _ _ h => h) (Or.inl ⟨by rfl, ?_⟩) hH ?_
    rotate_left
    · (intro wS hS; (try dsimp only at hS); obtain ⟨k1, k2, k3⟩ := seven K1.out hS; go_simp; try rfl)
    try simp only [Act.put, List.setIfInBounds_toArray, List.set_cons_zero, List.set_cons_succ]
    refine wpAnyH_ready (rs := [3]) (by kernel_rfl) (by simp) ?_
    refine AllReadyH.cons (by simp only [List.getElem?_toArray, List.getElem?_cons_succ, List.getElem?_cons_zero]; rfl) (fun K hK => ?_) AllReadyH.nil
    go_simp
    have I0 : Hid (Ints (w1.alloc (.cells (madeCells #[.int .i64 0] n) 3)) w1.heap.size (List.replicate n 0)) := Ints.made n rfl
    try dsimp only
    refine hK.out _ _ ?_ (fun hH2 => ?_)
    · exact hH.alloc hH.size _
    clear hK K
    have hO := hH
    clear hH
    have hH := hH2
    clear hH2
    try simp only [Act.put, List.setIfInBounds_toArray, List.set_cons_zero, List.set_cons_succ]
    refine wpAnyH_ready (rs := [4]) (by kernel_rfl) (by simp) ?_
    refine AllReadyH.cons (by simp only [List.getElem?_toArray, List.getElem?_cons_succ, List.getElem?_cons_zero]; rfl) (fun K hK => ?_) AllReadyH.nil
    go_simp
    refine (iFoldSum n N a m xs w1.heap.size _ (HX.out.trans HN.out) (H.out.below (B1.out.trans (hH.mono B1.out.size))) HN.out.symm h6 NX.out (by rw [sumsTo_zero]; first | exact I0.out | exact I0.out.drew) (far_of (H.out.below B1.out) (HX.out.trans HN.out))).mono ?_
    rintro e v1 ⟨rfl, hi, hg⟩
    have I2 := Lib.hid hi
    clear hi
    try dsimp only
    refine hK.out _ _ ?_ (fun hH2 => ?_)
    · exact hH.trans (below_of_one hg (Nat.le_refl _) hH.size)
    clear hK K
    have hO := hH
    clear hH
    have hH := hH2
    clear hH2
    try simp only [Act.put, List.setIfInBounds_toArray, List.set_cons_zero, List.set_cons_succ]
    refine wpAnyH_take (i := 5) (v := ?_) (by simp only [List.getElem?_toArray, List.getElem?_cons_succ, List.getElem?_cons_zero]; rfl) (by kernel_rfl) (by kernel_rfl) (by kernel_rfl) (by exact fun _ _ _ h => h) (Or.inl ⟨by rfl, ?_⟩) hH ?_
    rotate_left
    · (intro wS hS; clear hS; go_simp; try rfl)
    try simp only [Act.put, List.setIfInBounds_toArray, List.set_cons_zero, List.set_cons_succ]
    refine wpAnyH_done (by kernel_rfl) ?_ _
    have B2 := Lib.hid (stepB B1.out hH)
    have PR : Hid (Calls Try.prog 42 #[.slice (some ⟨w1.heap.size, 0, none⟩) n n] v1 fun e w' => e = .returned (.tuple #[.int .i64 (bndX n n xs).1, .bool (bndX n n xs).2]) ∧ v1 = w') := by
      have := iProd (some ⟨w1.heap.size, 0, none⟩) n _ v1 I2.out.rd (by rw [sumsTo_length]; omega)
      rw [sumsTo_length, ← HN.out, PX.out] at this
      exact this
    clear hH hO hg I2 p0 p1 p2
    go_wp2_with fail
    refine PR.out.mono ?_
    rintro e w3 ⟨rfl, rfl⟩
    go_wp2_with fail
    exact bodyPost_ret (v := .tuple #[.int .i64 (bndX n n xs).1, .bool (bndX n n xs).2]) (by simp [results, Try.results22, go_sem]) rfl ⟨rfl, B2.out⟩
  · have V := Lib.hid (bndX_sq hs)
    rw [hs] at SQ
    generalize xs.length = L at SQ B0 ⊢
    clear h hn K0 hs
    go_enter Try.func22, Try.ntmps22
    go_wp2_with fail
    refine (SQ.out _ B0.out).mono ?_
    rintro e w1 ⟨rfl, hb⟩
    have B1 := Lib.hid (B0.out.trans (hb.mono (by simp)))
    go_wp2_with fail
    rw [V.out]
    exact bodyPost_ret (v := .tuple #[.int .i64 0, .bool false]) (by simp [results, Try.results22, go_sem]) rfl ⟨rfl, B1.out⟩
end Go.Proofs.Ytgemkfcapkfdbaa
end
