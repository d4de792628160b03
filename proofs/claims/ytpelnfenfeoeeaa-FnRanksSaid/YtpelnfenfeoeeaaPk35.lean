/-
  Texts of this seat, joined: ZBMatI · ZBRI1 · ZBRI2 · ZBRdCells · ZBShelf · ZBCloneI · ZBCopyI · ZBRowMath · ZBRow2 · ZBRow3 · ZBRow2n · ZBMatDone · ZBRow4 · ZBRowRaw · ZBDoneI · ZBRI3
-/
import Derived.BigQuiet
import Derived.Deep.QuietTactic
import Derived.Handy
import Derived.Ground.Names2Prog
import Derived.Shelf.Slices.Clone
import Derived.Test.YtpelnfenfeoeeaaProg
import Derived.Deep.RegionHeld3
import Derived.Deep.DeepCutAuto
import Derived.Test.YtpelnfenfeoeeaaPk34

section
/-
  Chapter 3, in the program: IsMatrix.
-/
namespace Go.Proofs.Ytpelnfenfeoeeaa
open Go.RowKit
theorem iSize_t (n : Int) (w : World) (h1 : 0 ≤ n) (h2 : n ≤ 24) :
    Calls Try.prog 112 #[.int .i64 n] w fun e w' => e = .returned (.bool true) ∧ w = w' := by
  go_enter Try.func112, Try.ntmps112
  go_wp2
  go_ret
  exact ⟨rfl, rfl⟩
theorem iSize_f (n : Int) (w : World) (h : n < 0 ∨ 24 < n) :
    Calls Try.prog 112 #[.int .i64 n] w fun e w' => e = .returned (.bool false) ∧ w = w' := by
  by_cases h1 : 0 ≤ n
  · have h2 : decide (n ≤ 24) = false := by simp; omega
    go_enter Try.func112, Try.ntmps112
    go_wp2
    go_ret
    exact ⟨rfl, rfl⟩
  · go_enter Try.func112, Try.ntmps112
    go_wp2
    go_ret
    exact ⟨rfl, rfl⟩
theorem iIsNum (n : Int) (w : World) :
    Calls Try.prog 114 #[.int .i64 n] w fun e w' => e = .returned (.bool (decide (NumP n))) ∧ w = w' := by
  by_cases h : NumP n
  · rw [decide_eq_true h]; exact iIsNum_t n w h.1 h.2
  · rw [decide_eq_false h]; exact iIsNum_f n w (by unfold NumP at h; omega)
theorem iStep (b : Bool) (i j z : Int) (w : World) :
    Calls Try.prog 113 #[.bool b, .int .i64 i, .int .i64 j, .int .i64 z] w fun e w' => e = .returned (.bool (b && decide (NumP z))) ∧ w = w' := by
  cases b
  · go_enter Try.func113, Try.ntmps113
    go_wp2_with fail
    go_ret
    exact ⟨rfl, rfl⟩
  · go_enter Try.func113, Try.ntmps113
    go_wp2_with fail
    refine (iIsNum z _).mono ?_
    rintro e w' ⟨rfl, rfl⟩
    go_wp2_with fail
    go_ret
    exact ⟨rfl, rfl⟩
theorem take_nums (zs : List Int) (k : Nat) (hk : k < zs.length) : nums (zs.take (k + 1)) = (nums (zs.take k) && decide (NumP (zs.getD k 0))) := by
  unfold nums
  rw [List.take_succ_eq_append_getElem hk, List.all_append]
  simp only [List.all_cons, List.all_nil, Bool.and_true, List.getD, List.getElem?_eq_getElem hk, Option.getD_some]
set_option maxHeartbeats 400000 in
theorem iFoldB (r c : Int) (a : Option Addr) (cap : Nat) (zs : List Int) (w : World) (h : Rd w a zs) (hn : zs.length ≤ 16777216) (hc : zs.length = 0 ∨ 0 < c) :
    Calls Try.prog 66 #[.agg #[.int .i64 r, .int .i64 c, .slice a zs.length cap], .bool true, .func (.func 113) #[] #[]] w (Gives (.bool (nums zs)) w) := by
  have B0 : ∀ o, Below w.heap.size w (w.alloc o) := fun o => (Below.refl _ _).alloc (Nat.le_refl _) o
  have BH := Lib.hid B0
  have H := Lib.hid h
  obtain ⟨n, hnn⟩ : ∃ n, zs.length = n := ⟨_, rfl⟩
  have HN := Lib.hid hnn
  rw [hnn] at hn hc ⊢
  clear h B0 hnn
  go_enter Try.func66, Try.ntmps66
  go_wp2_with fail
  go_loopw [7, 8, 9, 14] (fun b _ _ i wr => ∃ k : Nat, i = .int .i64 k ∧ k ≤ n ∧ b = .bool (nums (zs.take k)) ∧ ∃ q, wr = (w.alloc (.cells #[.int .i64 r, .int .i64 c, .slice a n cap] 26)).drewN q) (fun _ _ _ i _ => n - (intOf i).toNat)
  case atStart => exact ⟨0, rfl, by omega, rfl, 0, rfl⟩
  case round =>
    obtain ⟨k, rfl, hk, rfl, q, rfl⟩ := hrel
    by_cases hlt : k < n
    · have c0 : (c == 0) = false := by simp; omega
      obtain ⟨b, o, rfl, hcell⟩ := (H.out.below (BH.out (.cells #[.int .i64 r, .int .i64 c, .slice a n cap] 26))) k (by rw [HN.out]; exact hlt)
      obtain ⟨z, hz⟩ : ∃ z, zs.getD k 0 = z := ⟨_, rfl⟩
      obtain ⟨bb, hbb⟩ : ∃ bb, nums (zs.take k) = bb := ⟨_, rfl⟩
      rw [hz] at hcell
      have Z := Lib.hid hz
      have BB := Lib.hid hbb
      rw [hbb]
      clear hz hbb
      go_wp2_with fail
      go_quiet ((refine (iStep _ _ _ _ _).mono ?_; rintro e w' ⟨rfl, rfl⟩; exact ⟨rfl, _, rfl⟩))
      go_wp2_with fail
      go_roundw
      case rel => exact ⟨k + 1, by go_num, by omega, by rw [take_nums zs k (by rw [HN.out]; exact hlt), BB.out, Z.out], _, rfl⟩
      case measure => simp [intOf]; omega
    · have hkn : k = n := by omega
      subst hkn
      have E : Hid (nums (zs.take k) = nums zs) := by show nums (zs.take k) = nums zs; rw [← HN.out, List.take_length]
      go_wp2_with fail
      go_ret
      exact ⟨by rw [E.out]; rfl, below_drewN (BH.out _) q⟩
set_option maxHeartbeats 400000 in
theorem iIsMat (r c : Int) (a : Option Addr) (cap : Nat) (zs : List Int) (w : World) (h : Rd w a zs) (hn : zs.length ≤ 16777216) :
    Calls Try.prog 58 #[.agg #[.int .i64 r, .int .i64 c, .slice a zs.length cap]] w (Gives (.bool (isMat r c zs)) w) := by
  have B0 : ∀ o, Below w.heap.size w (w.alloc o) := fun o => (Below.refl _ _).alloc (Nat.le_refl _) o
  have BH := Lib.hid B0
  have H := Lib.hid h
  clear h B0
  obtain ⟨n, hnn⟩ : ∃ n, zs.length = n := ⟨_, rfl⟩
  have HN := Lib.hid hnn
  have ED : isMat r c zs = (decide (SizeP r) && decide (SizeP c) && decide ((n : Int) = r * c) && nums zs) := by unfold isMat; rw [hnn]
  have E := Lib.hid ED
  rw [hnn] at hn ⊢
  clear hnn ED
  by_cases hr : 0 ≤ r ∧ r ≤ 24
  · by_cases hc : 0 ≤ c ∧ c ≤ 24
    · obtain ⟨m1, m2⟩ := mul_size r c hr hc
      by_cases hl : (n : Int) = r * c
      · have l1 : ((n : Int) != r * c) = false := by simpa using hl
        have l2 : ((n : Int) == r * c) = true := by simpa using hl
        have E2 : Hid (isMat r c zs = nums zs) := by
          show isMat r c zs = nums zs
          rw [E.out, show decide (SizeP r) = true from decide_eq_true hr, show decide (SizeP c) = true from decide_eq_true hc, show decide ((n : Int) = r * c) = true from decide_eq_true hl]; rfl
        have hz : zs.length = 0 ∨ 0 < c := by
          rw [HN.out]
          rcases Nat.eq_zero_or_pos n with e | e
          · exact .inl e
          · right
            rcases Int.lt_or_lt_of_ne (a := c) (b := 0) (fun e0 => by rw [e0, Int.mul_zero] at hl; omega) with h | h <;> omega
        have HZ := Lib.hid hz
        clear hl hz
        obtain ⟨r1, r2⟩ := hr
        obtain ⟨c1, c2⟩ := hc
        go_enter Try.func58, Try.ntmps58
        go_wp2_with (go_at_call 112; refine (iSize_t _ _ (by omega) (by omega)).mono ?_; rintro e w' ⟨rfl, rfl⟩)
        have ST := iFoldB r c a cap zs _ (H.out.below (BH.out (.cells #[.int .i64 r, .int .i64 c, .slice a n cap] 26))) (by rw [HN.out]; exact hn) HZ.out
        rw [HN.out] at ST
        refine ST.mono ?_
        clear ST
        rintro e w' ⟨rfl, hb⟩
        have HB := Lib.hid ((BH.out _).trans (hb.mono (BH.out (.cells #[.int .i64 r, .int .i64 c, .slice a n cap] 26)).size))
        clear hb
        go_wp2_with fail
        go_ret
        exact ⟨by rw [E2.out]; rfl, HB.out⟩
      · have l1 : ((n : Int) != r * c) = true := by simpa using hl
        have l2 : ((n : Int) == r * c) = false := by simpa using hl
        have E2 : Hid (isMat r c zs = false) := by
          show isMat r c zs = false
          rw [E.out, show decide ((n : Int) = r * c) = false from decide_eq_false hl]; simp
        clear hl
        obtain ⟨r1, r2⟩ := hr
        obtain ⟨c1, c2⟩ := hc
        go_enter Try.func58, Try.ntmps58
        go_wp2_with (go_at_call 112; refine (iSize_t _ _ (by omega) (by omega)).mono ?_; rintro e w' ⟨rfl, rfl⟩)
        go_ret
        exact ⟨by rw [E2.out]; rfl, BH.out _⟩
    · have E2 : Hid (isMat r c zs = false) := by
        show isMat r c zs = false
        rw [E.out, show decide (SizeP c) = false from decide_eq_false hc]; simp
      have hc' : c < 0 ∨ 24 < c := by omega
      clear hc
      go_enter Try.func58, Try.ntmps58
      go_wp2_with fail
      refine (iSize_t r _ hr.1 hr.2).mono ?_
      rintro e w' ⟨rfl, rfl⟩
      go_wp2_with fail
      refine (iSize_f c _ hc').mono ?_
      rintro e w' ⟨rfl, rfl⟩
      go_wp2_with fail
      go_ret
      exact ⟨by rw [E2.out]; rfl, BH.out _⟩
  · have E2 : Hid (isMat r c zs = false) := by
      show isMat r c zs = false
      rw [E.out, show decide (SizeP r) = false from decide_eq_false hr]; simp
    have hr' : r < 0 ∨ 24 < r := by omega
    clear hr
    go_enter Try.func58, Try.ntmps58
    go_wp2_with fail
    refine (iSize_f r _ hr').mono ?_
    rintro e w' ⟨rfl, rfl⟩
    go_wp2_with fail
    go_ret
    exact ⟨by rw [E2.out]; rfl, BH.out _⟩
end Go.Proofs.Ytpelnfenfeoeeaa
end

section
/-
  Chapter 5, in the program: the kinds of operations.
-/
namespace Go.Proofs.Ytpelnfenfeoeeaa
open Go.RowKit
abbrev aggO (k i j t : Int) : Value := .agg #[.int .i64 k, .int .i64 i, .int .i64 j, .int .i64 t]
theorem below1 (w : World) (o : Obj) : Below w.heap.size w (w.alloc o) := (Below.refl _ _).alloc (Nat.le_refl _) o
theorem iOpOf0 (i j t : Int) (w : World) : Calls Try.prog 167 #[aggO 0 i j t] w (Gives (.iface 146 (aggO 0 i j t)) w) := by
  go_enter Try.func167, Try.ntmps167
  go_wp2_with fail
  go_ret
  exact ⟨rfl, below1 _ _⟩
theorem iOpOf1 (i j t : Int) (w : World) : Calls Try.prog 167 #[aggO 1 i j t] w (Gives (.iface 147 (aggO 1 i j t)) w) := by
  go_enter Try.func167, Try.ntmps167
  go_wp2_with fail
  go_ret
  exact ⟨rfl, below1 _ _⟩
theorem iOpOf2 (i j t : Int) (w : World) : Calls Try.prog 167 #[aggO 2 i j t] w (Gives (.iface 148 (aggO 2 i j t)) w) := by
  go_enter Try.func167, Try.ntmps167
  go_wp2_with fail
  go_ret
  exact ⟨rfl, below1 _ _⟩
theorem iOpOfN (k i j t : Int) (w : World) (h : k < 0 ∨ 2 < k) : Calls Try.prog 167 #[aggO k i j t] w (Gives .nilIface w) := by
  have f0 : (k == 0) = false := by simp; omega
  have f1 : (k == 1) = false := by simp; omega
  have f2 : (k == 2) = false := by simp; omega
  clear h
  go_enter Try.func167, Try.ntmps167
  go_wp2_with fail
  go_ret
  exact ⟨rfl, below1 _ _⟩
theorem iFit0 (i j t : Int) (w : World) : Calls Try.prog 185 #[aggO 0 i j t] w (Gives (.bool (decide (j ≠ i ∧ t = 0))) w) := by
  by_cases e1 : j = i
  · subst e1
    rw [show decide (j ≠ j ∧ t = 0) = false by simp]
    go_enter Try.func185, Try.ntmps185
    go_wp2_with fail
    go_ret
    exact ⟨rfl, below1 _ _⟩
  · have g1 : (i != j) = true := by simp; omega
    have g2 : (i == j) = false := by simp; omega
    by_cases e2 : t = 0
    · subst e2
      rw [show decide (j ≠ i ∧ (0 : Int) = 0) = true by simp [e1]]
      clear e1
      go_enter Try.func185, Try.ntmps185
      go_wp2_with fail
      go_ret
      exact ⟨rfl, below1 _ _⟩
    · have g3 : (t == 0) = false := by simp; omega
      rw [show decide (j ≠ i ∧ t = 0) = false by simp [e2]]
      clear e1 e2
      go_enter Try.func185, Try.ntmps185
      go_wp2_with fail
      go_ret
      exact ⟨rfl, below1 _ _⟩
theorem iFit1 (i j t : Int) (w : World) : Calls Try.prog 187 #[aggO 1 i j t] w (Gives (.bool (decide (j = i ∧ t = 0))) w) := by
  by_cases e1 : j = i
  · subst e1
    by_cases e2 : t = 0
    · subst e2
      rw [show decide (j = j ∧ (0 : Int) = 0) = true by simp]
      go_enter Try.func187, Try.ntmps187
      go_wp2_with fail
      go_ret
      exact ⟨rfl, below1 _ _⟩
    · have g3 : (t == 0) = false := by simp; omega
      rw [show decide (j = j ∧ t = 0) = false by simp [e2]]
      clear e2
      go_enter Try.func187, Try.ntmps187
      go_wp2_with fail
      go_ret
      exact ⟨rfl, below1 _ _⟩
  · have g1 : (i != j) = true := by simp; omega
    have g2 : (i == j) = false := by simp; omega
    rw [show decide (j = i ∧ t = 0) = false by simp [e1]]
    clear e1
    go_enter Try.func187, Try.ntmps187
    go_wp2_with fail
    go_ret
    exact ⟨rfl, below1 _ _⟩
theorem iFit2 (i j t : Int) (w : World) : Calls Try.prog 189 #[aggO 2 i j t] w (Gives (.bool (decide (j ≠ i))) w) := by
  by_cases e1 : j = i
  · subst e1
    rw [show decide (j ≠ j) = false by simp]
    go_enter Try.func189, Try.ntmps189
    go_wp2_with fail
    go_ret
    exact ⟨rfl, below1 _ _⟩
  · have g1 : (i != j) = true := by simp; omega
    have g2 : (i == j) = false := by simp; omega
    rw [show decide (j ≠ i) = true by simp [e1]]
    clear e1
    go_enter Try.func189, Try.ntmps189
    go_wp2_with fail
    go_ret
    exact ⟨rfl, below1 _ _⟩
theorem iDo0 (x y i j t : Int) (w : World) : Calls Try.prog 184 #[aggO 0 i j t, .int .i64 x, .int .i64 y] w (Gives (.tuple #[.int .i64 y, .int .i64 x, .bool true]) w) := by
  go_enter Try.func184, Try.ntmps184
  go_wp2_with fail
  exact bodyPost_ret (v := .tuple #[.int .i64 y, .int .i64 x, .bool true]) (by simp [results, Try.results184, go_sem]) rfl ⟨rfl, below1 _ _⟩
theorem iDo1 (x y i j t : Int) (w : World) (hx : NumP x) : Calls Try.prog 186 #[aggO 1 i j t, .int .i64 x, .int .i64 y] w (Gives (.tuple #[.int .i64 (-x), .int .i64 (-x), .bool true]) w) := by
  obtain ⟨x1, x2⟩ := hx
  have v : IntKind.i64.wrap (-x) = -x := IntWalk.i64_in _ (by omega)
  clear x1 x2
  go_enter Try.func186, Try.ntmps186
  go_wp2_with fail
  exact bodyPost_ret (v := .tuple #[.int .i64 (-x), .int .i64 (-x), .bool true]) (by simp [results, Try.results186, go_sem]) rfl ⟨rfl, below1 _ _⟩
theorem iDo2 (x y i j t : Int) (w : World) (hx : NumP x) (hy : NumP y) (ht : NumP t) : Calls Try.prog 188 #[aggO 2 i j t, .int .i64 x, .int .i64 y] w (Gives (.tuple #[.int .i64 (x + y * t), .int .i64 y, .bool (decide (NumP (y * t)))]) w) := by
  obtain ⟨m1, m2⟩ := mul_num y t hy ht
  obtain ⟨x1, x2⟩ := hx
  have v1 : IntKind.i64.wrap (y * t) = y * t := IntWalk.i64_in _ (by omega)
  have v2 : IntKind.i64.wrap (x + y * t) = x + y * t := IntWalk.i64_in _ (by omega)
  clear m1 m2 x1 x2 hy ht
  go_enter Try.func188, Try.ntmps188
  go_wp2_with fail
  go_quiet ((refine (iIsNum _ _).mono ?_; rintro e w' ⟨rfl, rfl⟩; exact ⟨rfl, _, rfl⟩))
  go_wp2_with fail
  exact bodyPost_ret (v := .tuple #[.int .i64 (x + y * t), .int .i64 y, .bool (decide (NumP (y * t)))]) (by simp [results, Try.results188, go_sem]) rfl ⟨rfl, below_drewN (below1 _ _) nq⟩
theorem iRow (n rows : Int) (pb : Nat) (w : World) (hc : w.cell? ⟨pb, 0, none⟩ = some (.int .i64 rows)) : Calls Try.prog 168 #[.int .i64 n, .pointer (some ⟨pb, 0, none⟩)] w fun e w' => e = .returned (.bool (decide (0 ≤ n ∧ n < rows))) ∧ w = w' := by
  by_cases h0 : 0 ≤ n
  · by_cases h1 : n < rows
    · rw [show decide (0 ≤ n ∧ n < rows) = true by simp [h0, h1]]
      go_enter Try.func168, Try.ntmps168
      go_wp2_with fail
      go_ret
      exact ⟨rfl, rfl⟩
    · rw [show decide (0 ≤ n ∧ n < rows) = false by simp [h1]]
      have h2 : decide (n < rows) = false := by simpa using h1
      go_enter Try.func168, Try.ntmps168
      go_wp2_with fail
      go_ret
      exact ⟨rfl, rfl⟩
  · rw [show decide (0 ≤ n ∧ n < rows) = false by simp [h0]]
    have h2 : decide (0 ≤ n) = false := by simpa using h0
    go_enter Try.func168, Try.ntmps168
    go_wp2_with fail
    go_ret
    exact ⟨rfl, rfl⟩
end Go.Proofs.Ytpelnfenfeoeeaa
end

section
/-
  Chapter 5, in the program: IsRowOp.
-/
namespace Go.Proofs.Ytpelnfenfeoeeaa
open Go.RowKit
theorem cell_new (w : World) (v : Value) (t : TypeId) (pb : Nat) (h : pb = w.heap.size) : (w.alloc (.cells #[v] t)).cell? ⟨pb, 0, none⟩ = some v := by
  subst h
  have e : (w.alloc (.cells #[v] t)).heap[w.heap.size]? = some (.cells #[v] t (0, 0)) := by show (w.heap.push _)[w.heap.size]? = _; rw [Array.getElem?_push, if_pos rfl]
  generalize w.alloc (.cells #[v] t) = w' at e
  simp [World.cell?, e]
theorem iRow_t (n rows : Int) (pb : Nat) (w : World) (hc : w.cell? ⟨pb, 0, none⟩ = some (.int .i64 rows)) (h : 0 ≤ n ∧ n < rows) : Calls Try.prog 168 #[.int .i64 n, .pointer (some ⟨pb, 0, none⟩)] w fun e w' => e = .returned (.bool true) ∧ w = w' := by
  have := iRow n rows pb w hc; rwa [decide_eq_true h] at this
theorem iRow_f (n rows : Int) (pb : Nat) (w : World) (hc : w.cell? ⟨pb, 0, none⟩ = some (.int .i64 rows)) (h : n < 0 ∨ rows ≤ n) : Calls Try.prog 168 #[.int .i64 n, .pointer (some ⟨pb, 0, none⟩)] w fun e w' => e = .returned (.bool false) ∧ w = w' := by
  have := iRow n rows pb w hc; rwa [decide_eq_false (by omega)] at this
theorem step2 {w a c : World} (h : Below w.heap.size w a) (hb : Below a.heap.size a c) : Below w.heap.size w c := h.trans (hb.mono h.size)
set_option maxHeartbeats 1000000 in
theorem iIsOp (k i j t rows : Int) (w : World) : Calls Try.prog 166 #[.agg #[.int .i64 k, .int .i64 i, .int .i64 j, .int .i64 t], .int .i64 rows] w (Gives (.bool (isOp k i j t rows)) w) := by
  have BH : Hid (∀ o o2, Below w.heap.size w ((w.alloc o).alloc o2)) := fun o o2 => ((Below.refl _ _).alloc (Nat.le_refl _) o).alloc (by simp) o2
  have CN : Hid (∀ o, ((w.alloc o).alloc (.cells #[.int .i64 rows] 3)).cell? ⟨w.heap.size + 1, 0, none⟩ = some (.int .i64 rows)) := fun o => cell_new _ _ _ _ (by simp)
  by_cases h2 : 0 ≤ rows ∧ rows ≤ 24
  · by_cases h3 : 0 ≤ i ∧ i < rows
    · by_cases h4 : 0 ≤ j ∧ j < rows
      · by_cases h5 : NumP t
        · have RG : Hid (rangeOp k i j t rows = (decide (0 ≤ k ∧ k ≤ 2))) := by show rangeOp k i j t rows = _; unfold rangeOp; rw [decide_eq_true h2, decide_eq_true (show 0 ≤ i ∧ i ≤ rows - 1 by omega), decide_eq_true (show 0 ≤ j ∧ j ≤ rows - 1 by omega), decide_eq_true h5]; simp only [Bool.and_true]
          by_cases k0 : k = 0
          · subst k0
            have V : Hid (isOp 0 i j t rows = decide (j ≠ i ∧ t = 0)) := by show isOp 0 i j t rows = _; unfold isOp; rw [RG.out]; rfl
            obtain ⟨b, hbb⟩ : ∃ b, decide (j ≠ i ∧ t = 0) = b := ⟨_, rfl⟩
            have FT := Lib.hid (iFit0 i j t)
            rw [hbb] at V
            have FT : Hid (∀ w, Calls Try.prog 185 #[aggO 0 i j t] w (Gives (.bool b) w)) := fun w => by rw [← hbb]; exact FT.out w
            clear hbb
            go_enter Try.func166, Try.ntmps166
            go_wp2_with fail
            refine (iSize_t rows _ h2.1 h2.2).mono ?_
            rintro e w' ⟨rfl, rfl⟩
            go_wp2_with fail
            refine (iRow_t i rows _ _ (CN.out _) h3).mono ?_
            rintro e w' ⟨rfl, rfl⟩
            go_wp2_with fail
            refine (iRow_t j rows _ _ (CN.out _) h4).mono ?_
            rintro e w' ⟨rfl, rfl⟩
            go_wp2_with fail
            refine (iIsNum_t t _ h5.1 h5.2).mono ?_
            rintro e w' ⟨rfl, rfl⟩
            go_wp2_with fail
            refine (iOpOf0 i j t _).mono ?_
            rintro e w1 ⟨rfl, hb⟩
            have B : Hid (Below w.heap.size w w1) := step2 (BH.out _ _) hb
            clear hb
            go_wp2_with fail
            refine (FT.out _).mono ?_
            rintro e w2 ⟨rfl, hb⟩
            have B2 : Hid (Below w.heap.size w w2) := step2 B.out hb
            clear hb
            go_wp2_with fail
            go_ret
            exact ⟨by rw [V.out]; rfl, B2.out⟩
          by_cases k1 : k = 1
          · subst k1
            have V : Hid (isOp 1 i j t rows = decide (j = i ∧ t = 0)) := by show isOp 1 i j t rows = _; unfold isOp; rw [RG.out]; rfl
            obtain ⟨b, hbb⟩ : ∃ b, decide (j = i ∧ t = 0) = b := ⟨_, rfl⟩
            have FT := Lib.hid (iFit1 i j t)
            rw [hbb] at V
            have FT : Hid (∀ w, Calls Try.prog 187 #[aggO 1 i j t] w (Gives (.bool b) w)) := fun w => by rw [← hbb]; exact FT.out w
            clear hbb
            go_enter Try.func166, Try.ntmps166
            go_wp2_with fail
            refine (iSize_t rows _ h2.1 h2.2).mono ?_
            rintro e w' ⟨rfl, rfl⟩
            go_wp2_with fail
            refine (iRow_t i rows _ _ (CN.out _) h3).mono ?_
            rintro e w' ⟨rfl, rfl⟩
            go_wp2_with fail
            refine (iRow_t j rows _ _ (CN.out _) h4).mono ?_
            rintro e w' ⟨rfl, rfl⟩
            go_wp2_with fail
            refine (iIsNum_t t _ h5.1 h5.2).mono ?_
            rintro e w' ⟨rfl, rfl⟩
            go_wp2_with fail
            refine (iOpOf1 i j t _).mono ?_
            rintro e w1 ⟨rfl, hb⟩
            have B : Hid (Below w.heap.size w w1) := step2 (BH.out _ _) hb
            clear hb
            go_wp2_with fail
            refine (FT.out _).mono ?_
            rintro e w2 ⟨rfl, hb⟩
            have B2 : Hid (Below w.heap.size w w2) := step2 B.out hb
            clear hb
            go_wp2_with fail
            go_ret
            exact ⟨by rw [V.out]; rfl, B2.out⟩
          by_cases k2 : k = 2
          · subst k2
            have V : Hid (isOp 2 i j t rows = decide (j ≠ i)) := by show isOp 2 i j t rows = _; unfold isOp; rw [RG.out]; rfl
            obtain ⟨b, hbb⟩ : ∃ b, decide (j ≠ i) = b := ⟨_, rfl⟩
            have FT := Lib.hid (iFit2 i j t)
            rw [hbb] at V
            have FT : Hid (∀ w, Calls Try.prog 189 #[aggO 2 i j t] w (Gives (.bool b) w)) := fun w => by rw [← hbb]; exact FT.out w
            clear hbb
            go_enter Try.func166, Try.ntmps166
            go_wp2_with fail
            refine (iSize_t rows _ h2.1 h2.2).mono ?_
            rintro e w' ⟨rfl, rfl⟩
            go_wp2_with fail
            refine (iRow_t i rows _ _ (CN.out _) h3).mono ?_
            rintro e w' ⟨rfl, rfl⟩
            go_wp2_with fail
            refine (iRow_t j rows _ _ (CN.out _) h4).mono ?_
            rintro e w' ⟨rfl, rfl⟩
            go_wp2_with fail
            refine (iIsNum_t t _ h5.1 h5.2).mono ?_
            rintro e w' ⟨rfl, rfl⟩
            go_wp2_with fail
            refine (iOpOf2 i j t _).mono ?_
            rintro e w1 ⟨rfl, hb⟩
            have B : Hid (Below w.heap.size w w1) := step2 (BH.out _ _) hb
            clear hb
            go_wp2_with fail
            refine (FT.out _).mono ?_
            rintro e w2 ⟨rfl, hb⟩
            have B2 : Hid (Below w.heap.size w w2) := step2 B.out hb
            clear hb
            go_wp2_with fail
            go_ret
            exact ⟨by rw [V.out]; rfl, B2.out⟩
          have V : Hid (isOp k i j t rows = false) := by show isOp k i j t rows = false; unfold isOp; rw [RG.out, decide_eq_false (by omega)]; rfl
          have hk : k < 0 ∨ 2 < k := by omega
          clear k0 k1 k2
          go_enter Try.func166, Try.ntmps166
          go_wp2_with fail
          refine (iSize_t rows _ h2.1 h2.2).mono ?_
          rintro e w' ⟨rfl, rfl⟩
          go_wp2_with fail
          refine (iRow_t i rows _ _ (CN.out _) h3).mono ?_
          rintro e w' ⟨rfl, rfl⟩
          go_wp2_with fail
          refine (iRow_t j rows _ _ (CN.out _) h4).mono ?_
          rintro e w' ⟨rfl, rfl⟩
          go_wp2_with fail
          refine (iIsNum_t t _ h5.1 h5.2).mono ?_
          rintro e w' ⟨rfl, rfl⟩
          go_wp2_with fail
          refine (iOpOfN k i j t _ hk).mono ?_
          rintro e w1 ⟨rfl, hb⟩
          have B : Hid (Below w.heap.size w w1) := step2 (BH.out _ _) hb
          clear hb
          go_wp2_with fail
          go_ret
          exact ⟨by rw [V.out]; rfl, B.out⟩
        · have V : Hid (isOp k i j t rows = false) := by show isOp k i j t rows = false; unfold isOp rangeOp; rw [decide_eq_false h5]; simp
          have hx : t < -400000000 ∨ 400000000 < t := by unfold NumP at h5; omega
          clear h5
          go_enter Try.func166, Try.ntmps166
          go_wp2_with fail
          refine (iSize_t rows _ h2.1 h2.2).mono ?_
          rintro e w' ⟨rfl, rfl⟩
          go_wp2_with fail
          refine (iRow_t i rows _ _ (CN.out _) h3).mono ?_
          rintro e w' ⟨rfl, rfl⟩
          go_wp2_with fail
          refine (iRow_t j rows _ _ (CN.out _) h4).mono ?_
          rintro e w' ⟨rfl, rfl⟩
          go_wp2_with fail
          refine (iIsNum_f t _ hx).mono ?_
          rintro e w' ⟨rfl, rfl⟩
          go_wp2_with fail
          go_ret
          exact ⟨by rw [V.out]; rfl, BH.out _ _⟩
      · have V : Hid (isOp k i j t rows = false) := by show isOp k i j t rows = false; unfold isOp rangeOp; rw [decide_eq_false (show ¬ (0 ≤ j ∧ j ≤ rows - 1) by omega)]; simp
        have hx : j < 0 ∨ rows ≤ j := by omega
        clear h4
        go_enter Try.func166, Try.ntmps166
        go_wp2_with fail
        refine (iSize_t rows _ h2.1 h2.2).mono ?_
        rintro e w' ⟨rfl, rfl⟩
        go_wp2_with fail
        refine (iRow_t i rows _ _ (CN.out _) h3).mono ?_
        rintro e w' ⟨rfl, rfl⟩
        go_wp2_with fail
        refine (iRow_f j rows _ _ (CN.out _) hx).mono ?_
        rintro e w' ⟨rfl, rfl⟩
        go_wp2_with fail
        go_ret
        exact ⟨by rw [V.out]; rfl, BH.out _ _⟩
    · have V : Hid (isOp k i j t rows = false) := by show isOp k i j t rows = false; unfold isOp rangeOp; rw [decide_eq_false (show ¬ (0 ≤ i ∧ i ≤ rows - 1) by omega)]; simp
      have hx : i < 0 ∨ rows ≤ i := by omega
      clear h3
      go_enter Try.func166, Try.ntmps166
      go_wp2_with fail
      refine (iSize_t rows _ h2.1 h2.2).mono ?_
      rintro e w' ⟨rfl, rfl⟩
      go_wp2_with fail
      refine (iRow_f i rows _ _ (CN.out _) hx).mono ?_
      rintro e w' ⟨rfl, rfl⟩
      go_wp2_with fail
      go_ret
      exact ⟨by rw [V.out]; rfl, BH.out _ _⟩
  · have V : Hid (isOp k i j t rows = false) := by show isOp k i j t rows = false; unfold isOp rangeOp; rw [decide_eq_false h2]; simp
    have hx : rows < 0 ∨ 24 < rows := by omega
    clear h2
    go_enter Try.func166, Try.ntmps166
    go_wp2_with fail
    refine (iSize_f rows _ hx).mono ?_
    rintro e w' ⟨rfl, rfl⟩
    go_wp2_with fail
    go_ret
    exact ⟨by rw [V.out]; rfl, BH.out _ _⟩
end Go.Proofs.Ytpelnfenfeoeeaa
end

section
/-
  A block of ints, cell by cell.
-/
namespace Go.Proofs.Ytpelnfenfeoeeaa
open Go.RowKit
theorem Rd.cells {w : World} {b o : Nat} {zs : List Int} (h : Rd w (some ⟨b, o, none⟩) zs) (j : Nat) (hj : j < zs.length) : w.cell? ⟨b, o + j, none⟩ = some (.int .i64 (zs.getD j 0)) := by
  obtain ⟨b', o', e, hc⟩ := h j hj
  injection e with e
  injection e with e1 e2
  subst e1 e2
  exact hc
theorem Rd.addr {w : World} {a : Option Addr} {zs : List Int} (h : Rd w a zs) (hz : 0 < zs.length) : ∃ b o : Nat, a = some ⟨b, o, none⟩ := by
  obtain ⟨b, o, e, -⟩ := h 0 hz
  exact ⟨b, o, e⟩
end Go.Proofs.Ytpelnfenfeoeeaa
end

section
/-
  Contracts of Go's library at this translation, each one application of a theorem of the guide's library: slices_Clone_int, slices_Clone_int_zero, slices_Clone_int_nil.
-/
namespace Go.Proofs
open Go.Shelf
def Try.laysNm215_ren : Go.Shelf.Ren := ⟨fun | 15 => 115 | n => n, fun | 22 => 22 | 3 => 3 | 4 => 4 | n => n, fun | n => n⟩
theorem Try.laysNm215 : Go.Proofs.Lays2.n15 Try.prog Try.laysNm215_ren := {
  mixed := by kernel_rfl
  f15 := Try.func115.trans (congrArg some (by kernel_rfl))
  t3 := Try.underlying3
  a3 := Try.isAgg3
  z3 := Try.sizeOf3
  v3 := Try.zeroValue3
  t4 := Try.underlying4
  a4 := Try.isAgg4
  z4 := Try.sizeOf4
  v4 := Try.zeroValue4
  t22 := Try.underlying22
  a22 := Try.isAgg22
  z22 := Try.sizeOf22
  v22 := Try.zeroValue22
  i3 := by kernel_rfl }
open Go.RowKit Go.Lib in
theorem Try.slices_Clone_int (b off n c : Nat) (zs : List Int) (w : World) (hz : n ≤ zs.length) (hbig : n * 8 ≤ 140737488355328) (hc : ∀ j, j < zs.length → w.cell? ⟨b, off + j, none⟩ = some (.int .i64 (zs.getD j 0))) :
    Calls Try.prog 115 #[.slice (some ⟨b, off, none⟩) n c] w fun e w' => ∃ v', e = .returned v' ∧ w'.ownsRow w.heap.size 3 1 v' n ((zs.take n).map (Value.int .i64)) ∧ v' ≠ .slice none 0 0 ∧ Below w.heap.size w w' := Any.slices_Clone_int Try.laysNm215 b off n c zs w hz hbig hc
open Go.RowKit Go.Lib in
theorem Try.slices_Clone_int_nil (n c : Nat) (w : World) :
    Calls Try.prog 115 #[.slice none n c] w fun e w' => e = .returned (.slice none 0 0) ∧ w' = w := Any.slices_Clone_int_nil Try.laysNm215 n c w
open Go.RowKit Go.Lib in
theorem Try.slices_Clone_int_zero (a : Addr) (c : Nat) (w : World) :
    Calls Try.prog 115 #[.slice (some a) 0 c] w fun e w' => ∃ v', e = .returned v' ∧ w'.ownsRow w.heap.size 3 1 v' 0 [] ∧ v' ≠ .slice none 0 0 ∧ Below w.heap.size w w' := Any.slices_Clone_int_zero Try.laysNm215 a c w
end Go.Proofs
end

section
/-
  Chapter 3, in the program: slices.Clone over slices of ints.
-/
namespace Go.Proofs.Ytpelnfenfeoeeaa
open Go.RowKit
def Copy (zs : List Int) (w : World) (e : Ending) (w' : World) : Prop := ∃ v, e = .returned v ∧ Own w.heap.size w' v zs ∧ Below w.heap.size w w'
theorem iClone (a : Option Addr) (cap : Nat) (zs : List Int) (w : World) (h : Rd w a zs) (hn : zs.length ≤ 16777216) :
    Calls Try.prog 115 #[.slice a zs.length cap] w (Copy zs w) := by
  rcases Nat.eq_zero_or_pos zs.length with e | hz
  · obtain rfl : zs = [] := List.eq_nil_of_length_eq_zero e
    cases a with
    | none => exact (Try.slices_Clone_int_nil 0 cap w).mono fun e w' ⟨h1, h2⟩ => ⟨_, h1, .inl ⟨rfl, rfl⟩, by rw [h2]; exact Below.refl _ _⟩
    | some x => exact (Try.slices_Clone_int_zero x cap w).mono fun e w' ⟨v, h1, h2, _, h3⟩ => ⟨v, h1, Own.of_row h2 (by simp), h3⟩
  · obtain ⟨b, o, rfl⟩ := h.addr hz
    refine (Try.slices_Clone_int b o zs.length cap zs w (Nat.le_refl _) (by omega) h.cells).mono fun e w' ⟨v, h1, h2, _, h3⟩ => ⟨v, h1, Own.of_row ?_ hn, h3⟩
    rw [List.take_length] at h2
    exact h2
theorem In.cases {B T : Nat} {w : World} {v : Value} {zs : List Int} (h : In B T w v zs) : (v = .slice none 0 0 ∧ zs = []) ∨ ∃ (g cap : Nat), v = .slice (some ⟨g, 0, none⟩) zs.length cap ∧ B ≤ g ∧ g < T ∧ Ints w g zs ∧ zs.length ≤ cap := by
  rcases h with h | ⟨g, cap, hv, hB, hT, hi, hl, _⟩
  · exact .inl h
  · exact .inr ⟨g, cap, hv, hB, hT, hi, hl⟩
def CopyN (n : Nat) (zs : List Int) (w : World) (e : Ending) (w' : World) : Prop := ∃ q qc, e = .returned (.slice q n qc) ∧ Own w.heap.size w' (.slice q n qc) zs ∧ Below w.heap.size w w'
theorem iCloneN (a : Option Addr) (cap n : Nat) (zs : List Int) (hz : zs.length = n) (w : World) (h : Rd w a zs) (hn : n ≤ 16777216) :
    Calls Try.prog 115 #[.slice a n cap] w (CopyN n zs w) := by
  subst hz
  refine (iClone a cap zs w h hn).mono ?_
  rintro e w' ⟨v, rfl, own, hb⟩
  obtain ⟨q, qc, rfl, -, -⟩ := own.form
  exact ⟨q, qc, rfl, own, hb⟩
theorem seven {W w' : World} {b : Nat} {t : TypeId} {p q r : Value} (h0 : Blk3 W b t p q r) (hb : Below W.heap.size W w') :
    w'.cell? ⟨b, 0, none⟩ = some p ∧ w'.cell? ⟨b, 1, none⟩ = some q ∧ w'.cell? ⟨b, 2, none⟩ = some r :=
  ⟨(h0.keep hb h0.lt).cell0, (h0.keep hb h0.lt).cell1, (h0.keep hb h0.lt).cell2⟩
end Go.Proofs.Ytpelnfenfeoeeaa
end

section
/-
  Chapter 3, in the program: a matrix copied.
-/
namespace Go.Proofs.Ytpelnfenfeoeeaa
set_option maxRecDepth 100000
open Go.RowKit
def CopyM (r c : Int) (n : Nat) (zs : List Int) (w : World) (e : Ending) (w' : World) : Prop := ∃ q qc, e = .returned (.agg #[.int .i64 r, .int .i64 c, .slice q n qc]) ∧ Own w.heap.size w' (.slice q n qc) zs ∧ Below w.heap.size w w'
set_option maxHeartbeats 400000 in
theorem iCopyOf (r c : Int) (a : Option Addr) (cap n : Nat) (zs : List Int) (hz : zs.length = n) (w : World) (h : Rd w a zs) (hn : n ≤ 16777216) :
    Calls Try.prog 60 #[.agg #[.int .i64 r, .int .i64 c, .slice a n cap]] w (CopyM r c n zs w) := by
  have H := Lib.hid h
  have HZ := Lib.hid hz
  have K0 : Hid (Blk3 ((w.alloc (.cells #[.int .i64 r, .int .i64 c, .slice a n cap] 26)).alloc (.cells #[.int .i64 0, .int .i64 0, .slice none 0 0] 26)) w.heap.size 26 (.int .i64 r) (.int .i64 c) (.slice a n cap)) := (Blk3.at_ _ _ _ _ rfl).old _
  have K1 : Hid (Blk3 ((w.alloc (.cells #[.int .i64 r, .int .i64 c, .slice a n cap] 26)).alloc (.cells #[.int .i64 0, .int .i64 0, .slice none 0 0] 26)) (w.heap.size + 1) 26 (.int .i64 0) (.int .i64 0) (.slice none 0 0)) := Blk3.at_ _ _ _ _ (by simp)
  have B : Hid (Below w.heap.size w ((w.alloc (.cells #[.int .i64 r, .int .i64 c, .slice a n cap] 26)).alloc (.cells #[.int .i64 0, .int .i64 0, .slice none 0 0] 26))) := ((Below.refl _ _).alloc (Nat.le_refl _) _).alloc (by simp) _
  clear h hz
  go_enter Try.func60, Try.ntmps60
  go_wp2_with fail
  refine wp_region_held_drew (S := fun w' => Blk3 w' w.heap.size 26 (.int .i64 r) (.int .i64 c) (.slice a n cap) ∧ (∃ p q r, Blk3 w' (w.heap.size + 1) 26 p q r) ∧ Below w.heap.size w w') (by kernel_rfl) ⟨K0.out.drew, ⟨_, _, _, K1.out.drew⟩, B.out.drew⟩ (fun hH => ?_)
  refine wpAnyH_take (i := 0) (v := ?_) (by simp only [List.getElem?_toArray, List.getElem?_cons_zero]; rfl) (by kernel_rfl) (by kernel_rfl) (by kernel_rfl) (by exact fun _ _ _ h => h) (Or.inl ⟨by rfl, ?_⟩) hH ?_
  rotate_left
  · (intro wS hS; (try dsimp only at hS); obtain ⟨hS, -, -⟩ := hS; obtain ⟨k1, k2, k3, -, -, -⟩ := hS.all; go_simp; try rfl)
  try simp only [Act.put, List.setIfInBounds_toArray, List.set_cons_zero, List.set_cons_succ]
  refine wpAnyH_take (i := 1) (v := ?_) (by simp only [List.getElem?_toArray, List.getElem?_cons_succ, List.getElem?_cons_zero]; rfl) (by kernel_rfl) (by kernel_rfl) (by kernel_rfl) (by exact fun _ _ _ h => h) (Or.inl ⟨by rfl, ?_⟩) hH ?_
  rotate_left
  · (intro wS hS; (try dsimp only at hS); obtain ⟨hS, -, -⟩ := hS; obtain ⟨k1, k2, k3, -, -, -⟩ := hS.all; go_simp; try rfl)
  try simp only [Act.put, List.setIfInBounds_toArray, List.set_cons_zero, List.set_cons_succ]
  refine wpAnyH_take (i := 2) (v := ?_) (by simp only [List.getElem?_toArray, List.getElem?_cons_succ, List.getElem?_cons_zero]; rfl) (by kernel_rfl) (by kernel_rfl) (by kernel_rfl) (by exact fun _ _ _ h => h) (Or.inl ⟨by rfl, ?_⟩) hH ?_
  rotate_left
  · (intro wS hS; (try dsimp only at hS); obtain ⟨hS, -, -⟩ := hS; obtain ⟨k1, k2, k3, -, -, -⟩ := hS.all; go_simp; try rfl)
  try simp only [Act.put, List.setIfInBounds_toArray, List.set_cons_zero, List.set_cons_succ]
  refine wpAnyH_take (i := 3) (v := ?_) (by simp only [List.getElem?_toArray, List.getElem?_cons_succ, List.getElem?_cons_zero]; rfl) (by kernel_rfl) (by kernel_rfl) (by kernel_rfl) (by exact fun _ _ _ h => h) (Or.inl ⟨by rfl, ?_⟩) hH ?_
  rotate_left
  · (intro wS hS; (try dsimp only at hS); obtain ⟨hS, -, -⟩ := hS; obtain ⟨k1, k2, k3, -, -, -⟩ := hS.all; go_simp; try rfl)
  try simp only [Act.put, List.setIfInBounds_toArray, List.set_cons_zero, List.set_cons_succ]
  refine wpAnyH_take (i := 4) (v := ?_) (by simp only [List.getElem?_toArray, List.getElem?_cons_succ, List.getElem?_cons_zero]; rfl) (by kernel_rfl) (by kernel_rfl) (by kernel_rfl) (by exact fun _ _ _ h => h) (Or.inl ⟨by rfl, ?_⟩) hH ?_
  rotate_left
  · (intro wS hS; (try dsimp only at hS); obtain ⟨hS, -, -⟩ := hS; obtain ⟨k1, k2, k3, -, -, -⟩ := hS.all; go_simp; try rfl)
  try simp only [Act.put, List.setIfInBounds_toArray, List.set_cons_zero, List.set_cons_succ]
  refine wpAnyH_take (i := 5) (v := ?_) (by simp only [List.getElem?_toArray, List.getElem?_cons_succ, List.getElem?_cons_zero]; rfl) (by kernel_rfl) (by kernel_rfl) (by kernel_rfl) (by exact fun _ _ _ h => h) (Or.inl ⟨by rfl, ?_⟩) hH ?_
  rotate_left
  · (intro wS hS; (try dsimp only at hS); obtain ⟨hS, -, -⟩ := hS; obtain ⟨k1, k2, k3, -, -, -⟩ := hS.all; go_simp; try rfl)
  try simp only [Act.put, List.setIfInBounds_toArray, List.set_cons_zero, List.set_cons_succ]
  refine wpAnyH_ready (rs := [6]) (by kernel_rfl) (by simp) ?_
  refine AllReadyH.cons (by simp only [List.getElem?_toArray, List.getElem?_cons_succ, List.getElem?_cons_zero]; rfl) (fun K hK => ?_) AllReadyH.nil
  go_simp
  obtain ⟨hH0, ⟨p, q, s, hH1⟩, hH2⟩ := hH
  have l1 := hH1.lt
  (with_reducible refine (iCloneN a cap n zs HZ.out _ (H.out.below hH2) (by omega)).mono ?_)
  rintro e v1 ⟨q0, qc, rfl, own, hb1⟩
  try dsimp only
  have J0 := Lib.hid (hH0.step hb1)
  have J1 := Lib.hid (hH1.step hb1)
  have JB := Lib.hid (stepB hH2 hb1)
  have O := Lib.hid own
  have l2 : w.heap.size + 1 < _ := l1
  refine hK.out _ _ ⟨J0.out, ⟨_, _, _, J1.out⟩, JB.out⟩ (fun hH => ?_)
  clear hK K own
  try simp only [Act.put, List.setIfInBounds_toArray, List.set_cons_zero, List.set_cons_succ]
  refine wpAnyH_take (i := 7) (v := ?_) (by simp only [List.getElem?_toArray, List.getElem?_cons_succ, List.getElem?_cons_zero]; rfl) (by kernel_rfl) (by kernel_rfl) (by kernel_rfl) (by exact fun _ _ _ h => h) (Or.inl ⟨by rfl, ?_⟩) hH ?_
  rotate_left
  · (intro wS hS; clear hS; go_simp; try rfl)
  try simp only [Act.put, List.setIfInBounds_toArray, List.set_cons_zero, List.set_cons_succ]
  refine wpAnyH_ready (rs := [8]) (by kernel_rfl) (by simp) ?_
  refine AllReadyH.cons (by simp only [List.getElem?_toArray, List.getElem?_cons_succ, List.getElem?_cons_zero]; rfl) (fun K hK => ?_) AllReadyH.nil
  obtain ⟨y0, y1, y2, y3, y4, y5⟩ := J1.out.all
  clear hH
  go_simp
  have Z0 := Lib.hid (((J0.out.far (a := ⟨w.heap.size + 1, 0, none⟩) (by simp) (.int .i64 r)).far (a := ⟨w.heap.size + 1, 1, none⟩) (by simp) (.int .i64 c)).far (a := ⟨w.heap.size + 1, 2, none⟩) (by simp) (.slice q0 n qc))
  have Z1 := Lib.hid (((J1.out.set0 (.int .i64 r)).set1 (.int .i64 c)).set2 (.slice q0 n qc))
  have OO := Lib.hid (((O.out.far (a := ⟨w.heap.size + 1, 0, none⟩) l2 (.int .i64 r)).far (a := ⟨w.heap.size + 1, 1, none⟩) l2 (.int .i64 c)).far (a := ⟨w.heap.size + 1, 2, none⟩) l2 (.slice q0 n qc))
  refine hK.out _ _ ⟨Z0.out, ⟨_, _, _, Z1.out⟩, ((JB.out.setCell (Nat.le_succ _) _).setCell (Nat.le_succ _) _).setCell (Nat.le_succ _) _⟩ (fun hH => ?_)
  have ZB := Lib.hid hH.2.2
  clear hK K hH
  refine wpAnyH_done (by kernel_rfl) ?_ _
  go_wp2_with fail
  obtain ⟨E0, E1, E2, -, -, -⟩ := Z1.out.all
  exact bodyPost_ret (v := .agg #[.int .i64 r, .int .i64 c, .slice q0 n qc]) (by simp [results, Try.results60, go_sem, E0, E1, E2]) rfl ⟨q0, qc, rfl, OO.out.le (by omega), ZB.out⟩
end Go.Proofs.Ytpelnfenfeoeeaa
end

section
/-
  Plain mathematics of chapter 5: an operation on rows, cell by cell. Nothing of a program is used.
-/
namespace Go.Proofs.Ytpelnfenfeoeeaa
def opAt (k : Int) (I J : Nat) (t : Int) (C : Nat) (xs : List Int) (p : Nat) : Int :=
  if k = 0 then (if p / C = I then xs.getD (J * C + p % C) 0 else if p / C = J then xs.getD (I * C + p % C) 0 else xs.getD p 0)
  else if k = 1 then (if p / C = I then mulB (xs.getD p 0) (-1) else xs.getD p 0)
  else (if p / C = I then addB (xs.getD p 0) (mulB (xs.getD (J * C + p % C) 0) t) else xs.getD p 0)
def opTo (k : Int) (I J : Nat) (t : Int) (C : Nat) (xs : List Int) (q : Nat) : List Int := (List.range xs.length).map fun p => if p % C < q then opAt k I J t C xs p else xs.getD p 0
def opL (k : Int) (I J : Nat) (t : Int) (C : Nat) (xs : List Int) : List Int := (List.range xs.length).map (opAt k I J t C xs)
theorem opTo_length (k : Int) (I J : Nat) (t : Int) (C : Nat) (xs : List Int) (q : Nat) : (opTo k I J t C xs q).length = xs.length := by simp [opTo]
theorem opL_length (k : Int) (I J : Nat) (t : Int) (C : Nat) (xs : List Int) : (opL k I J t C xs).length = xs.length := by simp [opL]
theorem opTo_getD (k : Int) (I J : Nat) (t : Int) (C : Nat) (xs : List Int) (q p : Nat) (hp : p < xs.length) : (opTo k I J t C xs q).getD p 0 = if p % C < q then opAt k I J t C xs p else xs.getD p 0 := by
  simp [opTo, List.getD, hp]
theorem opTo_zero (k : Int) (I J : Nat) (t : Int) (C : Nat) (xs : List Int) : opTo k I J t C xs 0 = xs := by
  refine list_getD (opTo_length _ _ _ _ _ _ _) fun p hp => ?_
  rw [opTo_length] at hp
  rw [opTo_getD _ _ _ _ _ _ _ _ hp, if_neg (by omega)]
theorem opTo_all (k : Int) (I J : Nat) (t : Int) (C : Nat) (xs : List Int) (h : xs.length = 0 ∨ 0 < C) : opTo k I J t C xs C = opL k I J t C xs := by
  unfold opTo opL
  refine List.map_congr_left fun p hp => ?_
  have hp := List.mem_range.mp hp
  rw [if_pos (Nat.mod_lt p (by omega))]
theorem opTo_at (k : Int) (I J : Nat) (t : Int) (C : Nat) (xs : List Int) (q i : Nat) (hq : q < C) (hp : i * C + q < xs.length) : (opTo k I J t C xs q).getD (i * C + q) 0 = xs.getD (i * C + q) 0 := by
  rw [opTo_getD _ _ _ _ _ _ _ _ hp, idx_mod hq, if_neg (by omega)]
theorem opTo_next {k : Int} {I J : Nat} {t : Int} {C : Nat} {xs L : List Int} {q : Nat} (hl : L.length = xs.length) (h : ∀ p : Nat, p < xs.length → L.getD p 0 = if p % C = q then opAt k I J t C xs p else (opTo k I J t C xs q).getD p 0) : L = opTo k I J t C xs (q + 1) := by
  refine list_getD (by rw [hl, opTo_length]) fun p hp => ?_
  rw [hl] at hp
  rw [h p hp, opTo_getD _ _ _ _ _ _ _ _ hp, opTo_getD _ _ _ _ _ _ _ _ hp]
  by_cases e : p % C = q
  · rw [if_pos e, if_pos (by omega)]
  · rw [if_neg e]
    by_cases e2 : p % C < q
    · rw [if_pos e2, if_pos (by omega)]
    · rw [if_neg e2, if_neg (by omega)]
theorem split_idx {C p q : Nat} (h : p % C = q) : p = p / C * C + q := by
  have := Nat.div_add_mod p C
  rw [Nat.mul_comm] at this
  omega
theorem op_swap (I J : Nat) (t : Int) (C R : Nat) (xs : List Int) (q : Nat) (hl : xs.length = R * C) (hI : I < R) (hJ : J < R) (hq : q < C) :
    ((opTo 0 I J t C xs q).set (I * C + q) (xs.getD (J * C + q) 0)).set (J * C + q) (xs.getD (I * C + q) 0) = opTo 0 I J t C xs (q + 1) ∨ I = J := by
  by_cases hIJ : I = J
  · exact .inr hIJ
  refine .inl (opTo_next (by rw [List.length_set, List.length_set, opTo_length]) fun p hp => ?_)
  have a1 : I * C + q < xs.length := by rw [hl]; exact idx_lt hI hq
  have a2 : J * C + q < xs.length := by rw [hl]; exact idx_lt hJ hq
  rw [getD_set _ _ _ _ (by rw [List.length_set, opTo_length]; exact a2), getD_set _ _ _ _ (by rw [opTo_length]; exact a1)]
  by_cases e : p % C = q
  · rw [if_pos e]
    have sp := split_idx e
    unfold opAt
    rw [if_pos rfl, e]
    by_cases e1 : p / C = I
    · have : p = I * C + q := by rw [← e1]; exact sp
      rw [if_pos e1, if_neg (fun h => hIJ (by rw [← e1, h, idx_div hq])), if_pos this]
    · rw [if_neg e1]
      by_cases e2 : p / C = J
      · have : p = J * C + q := by rw [← e2]; exact sp
        rw [if_pos e2, if_pos this]
      · rw [if_neg e2, if_neg (fun h => e2 (by rw [h, idx_div hq])), if_neg (fun h => e1 (by rw [h, idx_div hq])), opTo_getD _ _ _ _ _ _ _ _ hp, if_neg (by omega)]
  · rw [if_neg e, if_neg (fun h => e (by rw [h, idx_mod hq])), if_neg (fun h => e (by rw [h, idx_mod hq]))]
theorem op_one (k : Int) (I J : Nat) (t : Int) (C R : Nat) (xs : List Int) (q : Nat) (z : Int) (hl : xs.length = R * C) (hI : I < R) (hq : q < C) (hk : k = 1 ∨ k = 2) (hz : z = opAt k I J t C xs (I * C + q)) :
    (opTo k I J t C xs q).set (I * C + q) z = opTo k I J t C xs (q + 1) := by
  refine opTo_next (by rw [List.length_set, opTo_length]) fun p hp => ?_
  have a1 : I * C + q < xs.length := by rw [hl]; exact idx_lt hI hq
  rw [getD_set _ _ _ _ (by rw [opTo_length]; exact a1)]
  by_cases e : p % C = q
  · rw [if_pos e]
    have sp := split_idx e
    by_cases e1 : p / C = I
    · have : p = I * C + q := by rw [← e1]; exact sp
      rw [if_pos this, hz, this]
    · rw [if_neg (fun h => e1 (by rw [h, idx_div hq])), opTo_getD _ _ _ _ _ _ _ _ hp, if_neg (by omega)]
      unfold opAt
      rcases hk with rfl | rfl
      · rw [if_neg (by decide), if_pos rfl, if_neg e1]
      · rw [if_neg (by decide), if_neg (by decide), if_neg e1]
  · rw [if_neg e, if_neg (fun h => e (by rw [h, idx_mod hq]))]
theorem opAt_one (I J : Nat) (t : Int) (C : Nat) (xs : List Int) {q : Nat} (hq : q < C) : opAt 1 I J t C xs (I * C + q) = mulB (xs.getD (I * C + q) 0) (-1) := by
  unfold opAt
  rw [if_neg (by decide), if_pos rfl, idx_div hq, if_pos rfl]
theorem opAt_two (I J : Nat) (t : Int) (C : Nat) (xs : List Int) {q : Nat} (hq : q < C) : opAt 2 I J t C xs (I * C + q) = addB (xs.getD (I * C + q) 0) (mulB (xs.getD (J * C + q) 0) t) := by
  unfold opAt
  rw [if_neg (by decide), if_neg (by decide), idx_div hq, if_pos rfl, idx_mod hq]
end Go.Proofs.Ytpelnfenfeoeeaa
end

section
/-
  Chapter 5, in the model: a copy of a matrix; an operation on rows, in place.
-/
namespace Go.Proofs.Ytpelnfenfeoeeaa
set_option maxRecDepth 100000
open Go.RowKit
set_option maxHeartbeats 1000000 in
theorem sCopy (r c : Int) (ga oa m n : Nat) (xs : List Int) (w : World) (h : Rd w (some ⟨ga, oa, none⟩) xs) (hx : xs.length = n) (hn : n ≤ 1048576) :
    Calls Try.prog 54 #[.agg #[.int .i64 r, .int .i64 c, .slice (some ⟨ga, oa, none⟩) n m]] w (fun e w' => ∃ g cap : Nat, e = .returned (.agg #[.int .i64 r, .int .i64 c, .slice (some ⟨g, 0, none⟩) n cap]) ∧ w.heap.size ≤ g ∧ IntsC w' g cap xs ∧ Below w.heap.size w w') := by
  have H := Lib.hid h
  have HX := Lib.hid hx
  clear h hx
  have BH : Hid (Below w.heap.size w ((w.alloc (.cells #[.int .i64 r, .int .i64 c, .slice (some ⟨ga, oa, none⟩) n m] 26)).alloc (.cells #[.int .i64 0, .int .i64 0, .slice none 0 0] 26))) := ((Below.refl _ _).alloc (Nat.le_refl _) _).alloc (by simp) _
  have K0 : Hid (Blk3 ((w.alloc (.cells #[.int .i64 r, .int .i64 c, .slice (some ⟨ga, oa, none⟩) n m] 26)).alloc (.cells #[.int .i64 0, .int .i64 0, .slice none 0 0] 26)) w.heap.size 26 (.int .i64 r) (.int .i64 c) (.slice (some ⟨ga, oa, none⟩) n m)) := (Blk3.at_ _ _ _ _ rfl).old _
  have K2 : Hid (Blk3 ((w.alloc (.cells #[.int .i64 r, .int .i64 c, .slice (some ⟨ga, oa, none⟩) n m] 26)).alloc (.cells #[.int .i64 0, .int .i64 0, .slice none 0 0] 26)) (w.heap.size + 1) 26 (.int .i64 0) (.int .i64 0) (.slice none 0 0)) := Blk3.at_ _ _ _ _ (by simp)
  obtain ⟨w2, hw2⟩ : ∃ w2, (w.alloc (.cells #[.int .i64 r, .int .i64 c, .slice (some ⟨ga, oa, none⟩) n m] 26)).alloc (.cells #[.int .i64 0, .int .i64 0, .slice none 0 0] 26) = w2 := ⟨_, rfl⟩
  rw [hw2] at BH K0 K2
  go_enter Try.func54, Try.ntmps54
  go_wp2_with fail
  clear hw2
  refine wp_region_held_drew (S := fun w' => FrS (fun k => k = w.heap.size + 1) w2 w') (by kernel_rfl) (FrS.refl _ _).drew (fun hH => ?_)
  refine wpAnyH_take (i := 0) (v := ?_) (by simp only [List.getElem?_toArray, List.getElem?_cons_zero]; rfl) (by kernel_rfl) (by kernel_rfl) (by kernel_rfl) (by exact fun _ _ _ h => h) (Or.inl ⟨by rfl, ?_⟩) hH ?_
  rotate_left
  · (intro wS hS; clear hS; go_simp; try rfl)
  try simp only [Act.put, List.setIfInBounds_toArray, List.set_cons_zero, List.set_cons_succ]
  refine wpAnyH_take (i := 1) (v := ?_) (by simp only [List.getElem?_toArray, List.getElem?_cons_succ, List.getElem?_cons_zero]; rfl) (by kernel_rfl) (by kernel_rfl) (by kernel_rfl) (by exact fun _ _ _ h => h) (Or.inl ⟨by rfl, ?_⟩) hH ?_
  rotate_left
  · (intro wS hS; (try dsimp only at hS); obtain ⟨k1, k2, k3⟩ := sevenF K0.out hS (by omega); go_simp; try rfl)
  try simp only [Act.put, List.setIfInBounds_toArray, List.set_cons_zero, List.set_cons_succ]
  refine wpAnyH_take (i := 2) (v := ?_) (by simp only [List.getElem?_toArray, List.getElem?_cons_succ, List.getElem?_cons_zero]; rfl) (by kernel_rfl) (by kernel_rfl) (by kernel_rfl) (by exact fun _ _ _ h => h) (Or.inl ⟨by rfl, ?_⟩) hH ?_
  rotate_left
  · (intro wS hS; clear hS; go_simp; try rfl)
  try simp only [Act.put, List.setIfInBounds_toArray, List.set_cons_zero, List.set_cons_succ]
  refine wpAnyH_take (i := 3) (v := ?_) (by simp only [List.getElem?_toArray, List.getElem?_cons_succ, List.getElem?_cons_zero]; rfl) (by kernel_rfl) (by kernel_rfl) (by kernel_rfl) (by exact fun _ _ _ h => h) (Or.inl ⟨by rfl, ?_⟩) hH ?_
  rotate_left
  · (intro wS hS; (try dsimp only at hS); obtain ⟨k1, k2, k3⟩ := sevenF K0.out hS (by omega); go_simp; try rfl)
  try simp only [Act.put, List.setIfInBounds_toArray, List.set_cons_zero, List.set_cons_succ]
  refine wpAnyH_take (i := 5) (v := ?_) (by simp only [List.getElem?_toArray, List.getElem?_cons_succ, List.getElem?_cons_zero]; rfl) (by kernel_rfl) (by kernel_rfl) (by kernel_rfl) (by exact fun _ _ _ h => h) (Or.inl ⟨by rfl, ?_⟩) hH ?_
  rotate_left
  · (intro wS hS; clear hS; go_simp; try rfl)
  try simp only [Act.put, List.setIfInBounds_toArray, List.set_cons_zero, List.set_cons_succ]
  refine wpAnyH_take (i := 6) (v := ?_) (by simp only [List.getElem?_toArray, List.getElem?_cons_succ, List.getElem?_cons_zero]; rfl) (by kernel_rfl) (by kernel_rfl) (by kernel_rfl) (by exact fun _ _ _ h => h) (Or.inl ⟨by rfl, ?_⟩) hH ?_
  rotate_left
  · (intro wS hS; (try dsimp only at hS); obtain ⟨k1, k2, k3⟩ := sevenF K0.out hS (by omega); go_simp; try rfl)
  try simp only [Act.put, List.setIfInBounds_toArray, List.set_cons_zero, List.set_cons_succ]
  refine wpAnyH_ready (rs := [4]) (by kernel_rfl) (by simp) ?_
  refine AllReadyH.cons (by simp only [List.getElem?_toArray, List.getElem?_cons_succ, List.getElem?_cons_zero]; rfl) (fun KK hKK => ?_) AllReadyH.nil
  go_simp
  try dsimp only
  refine hKK.out _ _ ?_ (fun hH2 => ?_)
  · exact (((FrS.refl _ w2).alloc _).drew)
  clear hKK KK
  have hO := hH
  clear hH
  have hH := hH2
  clear hH2
  try simp only [Act.put, List.setIfInBounds_toArray, List.set_cons_zero, List.set_cons_succ]
  have own0 : ((w2.alloc (.cells #[] 3)).drew).ownsRow w2.heap.size 3 1 (.slice (some ⟨w2.heap.size, 0, none⟩) 0 0) 0 (([] : List Int).map (Value.int .i64)) := ⟨rfl, .inr ⟨w2.heap.size, 0, #[], rfl, Nat.le_refl _, heap_alloc_new w2 _, Nat.le_refl _, by decide, rfl, rfl⟩⟩
  have BA : Hid (Below w2.heap.size w2 ((w2.alloc (.cells #[] 3)).drew)) := ((Below.refl _ _).alloc (Nat.le_refl _) _).drew
  obtain ⟨v1, wa, hr1, ho1, hg1, nn1⟩ := appendInts2 _ w2.heap.size 0 n m _ [] xs ga oa own0 (H.out.below (BH.out.trans (BA.out.mono BH.out.size))) HX.out (by omega) BA.out.size
  refine wpAnyH_ready (rs := [7]) (by kernel_rfl) (by simp) ?_
  refine AllReadyH.cons (by simp only [List.getElem?_toArray, List.getElem?_cons_succ, List.getElem?_cons_zero]; rfl) (fun KK hKK => ?_) AllReadyH.nil
  refine step_append rfl _ _ 22 rfl _ _ rfl rfl _ _ hr1 ?_
  have BA1 : Hid (Below w2.heap.size w2 wa) := BA.out.grown hg1 BA.out.size (fun k hk => ownBlock_ge own0 hk)
  try dsimp only
  refine hKK.out _ _ ?_ (fun hH2 => ?_)
  · exact FrS.of_below BA1.out
  clear hKK KK
  have hO := hH
  clear hH
  have hH := hH2
  clear hH2
  try simp only [Act.put, List.setIfInBounds_toArray, List.set_cons_zero, List.set_cons_succ]
  have O2 : Hid (OwnC w2.heap.size wa v1 xs) := OwnC.of_row (by rw [HX.out, ← Nat.zero_add n]; exact ho1)
  have O3 := O2.out
  rcases O3 with ⟨h, -⟩ | ⟨g, qc2, rfl, gB, gI⟩
  · exact absurd (nn1.mp h).1 (by simp)
  rw [HX.out] at O2 ⊢
  have GB := Lib.hid gB
  have GI := Lib.hid gI
  clear gB gI nn1
  refine wpAnyH_take (i := 8) (v := ?_) (by simp only [List.getElem?_toArray, List.getElem?_cons_succ, List.getElem?_cons_zero]; rfl) (by kernel_rfl) (by kernel_rfl) (by kernel_rfl) (by exact fun _ _ _ h => h) (Or.inl ⟨by rfl, ?_⟩) hH ?_
  rotate_left
  · (intro wS hS; clear hS; go_simp; try rfl)
  try simp only [Act.put, List.setIfInBounds_toArray, List.set_cons_zero, List.set_cons_succ]
  have K2 := Lib.hid (K2.out.step BA1.out)
  obtain ⟨s0, s1, s2, f0, f1, f2⟩ := K2.out.all
  have gs : ∀ x y z, FrS (fun k => k = w.heap.size + 1) w2 (((wa.setCell ⟨w.heap.size + 1, 0, none⟩ x).setCell ⟨w.heap.size + 1, 1, none⟩ y).setCell ⟨w.heap.size + 1, 2, none⟩ z) := fun x y z => (FrS.of_below (p := fun k => k = w.heap.size + 1) BA1.out).set3 (b := w.heap.size + 1) (.inl rfl) x y z
  have GS := Lib.hid gs
  clear gs
  refine wpAnyH_ready (rs := [9]) (by kernel_rfl) (by simp) ?_
  refine AllReadyH.cons (by simp only [List.getElem?_toArray, List.getElem?_cons_succ, List.getElem?_cons_zero]; rfl) (fun KK hKK => ?_) AllReadyH.nil
  go_simp
  try dsimp only
  refine hKK.out _ _ ?_ (fun hH2 => ?_)
  · exact GS.out _ _ _
  clear hKK KK
  have hO := hH
  clear hH
  have hH := hH2
  clear hH2
  try simp only [Act.put, List.setIfInBounds_toArray, List.set_cons_zero, List.set_cons_succ]
  refine wpAnyH_done (by kernel_rfl) ?_ _
  go_wp2_with fail
  obtain ⟨E0, E1, E2, -, -, -⟩ := (K2.out.set3 (.int .i64 r) (.int .i64 c) (.slice (some ⟨g, 0, none⟩) n qc2)).all
  have B2 := BH.out.trans (BA1.out.mono BH.out.size)
  refine bodyPost_ret (v := .agg #[.int .i64 r, .int .i64 c, .slice (some ⟨g, 0, none⟩) n qc2]) (by simp [results, Try.results54, go_sem, E0, E1, E2]) rfl ⟨g, qc2, rfl, Nat.le_trans BH.out.size GB.out, ((GI.out.far (GI.out.ints.ne_blk K2.out) _).far (GI.out.ints.ne_blk K2.out) _).far (GI.out.ints.ne_blk K2.out) _, ?_⟩
  exact (((B2.setCell (by show w.heap.size ≤ w.heap.size + 1; omega) _).setCell (by show w.heap.size ≤ w.heap.size + 1; omega) _).setCell (by show w.heap.size ≤ w.heap.size + 1; omega) _)
end Go.Proofs.Ytpelnfenfeoeeaa
end

section
/-
  Chapter 5, in the model: an operation on rows, in place.
-/
namespace Go.Proofs.Ytpelnfenfeoeeaa
set_option maxRecDepth 100000
open Go.RowKit
def Void (e : Ending) : Prop := e = .returned (.tuple #[])
theorem tenF {W w' : World} {b b' : Nat} {t t' : TypeId} {p q r x y z u : Value} {pr : Nat → Prop} (h0 : Blk3 W b t p q r) (h1 : Blk4 W b' t' x y z u) (hg : FrS pr W w') (hb : ¬ pr b) (hb' : ¬ pr b') :
    w'.cell? ⟨b, 0, none⟩ = some p ∧ w'.cell? ⟨b, 1, none⟩ = some q ∧ w'.cell? ⟨b, 2, none⟩ = some r ∧ w'.cell? ⟨b', 0, none⟩ = some x ∧ w'.cell? ⟨b', 1, none⟩ = some y ∧ w'.cell? ⟨b', 2, none⟩ = some z ∧ w'.cell? ⟨b', 3, none⟩ = some u := by
  have k1 : Blk4 w' b' t' x y z u := (hg.block b' h1.lt hb').trans h1
  exact ⟨(h0.frs hg hb).cell0, (h0.frs hg hb).cell1, (h0.frs hg hb).cell2, k1.cell0, k1.cell1, k1.cell2, k1.cell3⟩
def IntsZ (S : Nat) (w : World) (g : Nat) (zs : List Int) : Prop := Ints w g zs ∧ ∃ (cur : Array Value) (t : TypeId) (f : Nat × Nat), w.heap[g]? = some (.cells cur t f) ∧ cur.size = S
theorem IntsZ.of {w : World} {g : Nat} {zs : List Int} (h : Ints w g zs) : ∃ S, IntsZ S w g zs := by
  obtain ⟨rest, e⟩ := id h
  exact ⟨_, h, _, _, _, e, rfl⟩
theorem IntsZ.move {S : Nat} {w w' : World} {g : Nat} {zs : List Int} (h : IntsZ S w g zs) (e : w'.heap[g]? = w.heap[g]?) : IntsZ S w' g zs := by
  obtain ⟨h1, cur, t, f, h2, h3⟩ := h
  exact ⟨h1.move e, cur, t, f, e.trans h2, h3⟩
theorem IntsZ.lt {S : Nat} {w : World} {g : Nat} {zs : List Int} (h : IntsZ S w g zs) : g < w.heap.size := h.1.lt
theorem IntsZ.cell {S : Nat} {w : World} {g : Nat} {zs : List Int} (h : IntsZ S w g zs) {i : Nat} (hi : i < zs.length) : w.cell? ⟨g, i, none⟩ = some (.int .i64 (zs.getD i 0)) := h.1.cell hi
theorem IntsZ.free {S : Nat} {w : World} {g : Nat} {zs : List Int} (h : IntsZ S w g zs) (i : Nat) : w.frozen? ⟨g, i, none⟩ = false := h.1.free i
theorem IntsZ.drew {S : Nat} {w : World} {g : Nat} {zs : List Int} (h : IntsZ S w g zs) : IntsZ S w.drew g zs := h
theorem IntsZ.old {S : Nat} {w : World} {g : Nat} {zs : List Int} (h : IntsZ S w g zs) (o : Obj) : IntsZ S (w.alloc o) g zs := h.move (Below.heap_alloc w o g h.lt)
theorem IntsZ.set {S : Nat} {w : World} {g : Nat} {zs : List Int} (h : IntsZ S w g zs) (i : Nat) (z : Int) : IntsZ S (w.setCell ⟨g, i, none⟩ (.int .i64 z)) g (zs.set i z) := by
  obtain ⟨h1, cur, t, f, h2, h3⟩ := h
  refine ⟨h1.set i z, cur.setIfInBounds i (.int .i64 z), t, f, ?_, by simp [h3]⟩
  obtain ⟨hlt, hget⟩ := Array.getElem?_eq_some_iff.mp h2
  simp [World.setCell, hlt, Array.getElem_modify, hget]
set_option maxRecDepth 100000 in
set_option maxHeartbeats 4000000 in
theorem sDoZ (S R C Iq J g n cap : Nat) (k t : Int) (xs : List Int) (w : World) (hi : IntsZ S w g xs) (hx : xs.length = n) (hn : n = R * C) (hR : R ≤ 24) (hC : C ≤ 24) (hI : Iq < R) (hJ : J < R) (hk : k = 0 ∨ k = 1 ∨ k = 2) (hIJ : k = 0 → Iq ≠ J) :
    Calls Try.prog 144 #[.agg #[.int .i64 R, .int .i64 C, .slice (some ⟨g, 0, none⟩) n cap], .agg #[.int .i64 k, .int .i64 Iq, .int .i64 J, .int .i64 t]] w (fun e w' => Void e ∧ IntsZ S w' g (opL k Iq J t C xs) ∧ w.grownBy w' (some g)) := by
  have hle : R * C ≤ 24 * 24 := Nat.mul_le_mul hR hC
  have I0 := Lib.hid hi
  have HX := Lib.hid hx
  have HN := Lib.hid hn
  have HIJ := Lib.hid hIJ
  have gl := hi.lt
  rw [← hn] at hle
  have K0 : Hid (Blk3 ((w.alloc (.cells #[.int .i64 R, .int .i64 C, .slice (some ⟨g, 0, none⟩) n cap] 26)).alloc (.cells #[.int .i64 k, .int .i64 Iq, .int .i64 J, .int .i64 t] 97)) w.heap.size 26 (.int .i64 R) (.int .i64 C) (.slice (some ⟨g, 0, none⟩) n cap)) := (Blk3.at_ _ _ _ _ rfl).old _
  have K1 : Hid (Blk4 ((w.alloc (.cells #[.int .i64 R, .int .i64 C, .slice (some ⟨g, 0, none⟩) n cap] 26)).alloc (.cells #[.int .i64 k, .int .i64 Iq, .int .i64 J, .int .i64 t] 97)) (w.heap.size + 1) 97 (.int .i64 k) (.int .i64 Iq) (.int .i64 J) (.int .i64 t)) := Blk4.at_ _ _ _ _ _ (by simp)
  have I1 : Hid (IntsZ S ((w.alloc (.cells #[.int .i64 R, .int .i64 C, .slice (some ⟨g, 0, none⟩) n cap] 26)).alloc (.cells #[.int .i64 k, .int .i64 Iq, .int .i64 J, .int .i64 t] 97)) g xs) := (hi.old _).old _
  have G0 : Hid (w.grownBy ((w.alloc (.cells #[.int .i64 R, .int .i64 C, .slice (some ⟨g, 0, none⟩) n cap] 26)).alloc (.cells #[.int .i64 k, .int .i64 Iq, .int .i64 J, .int .i64 t] 97)) (some g)) := (World.grownBy_alloc w _ _).trans (World.grownBy_alloc _ _ _)
  clear hi hx hn hIJ
  go_enter Try.func144, Try.ntmps144
  go_wp2_with fail
  go_loopw [4, 5, 6] (fun i _ _ wr => ∃ q : Nat, i = .int .i64 q ∧ q ≤ C ∧ IntsZ S wr g (opTo k Iq J t C xs q) ∧ ((w.alloc (.cells #[.int .i64 R, .int .i64 C, .slice (some ⟨g, 0, none⟩) n cap] 26)).alloc (.cells #[.int .i64 k, .int .i64 Iq, .int .i64 J, .int .i64 t] 97)).grownBy wr (some g)) (fun i _ _ _ => C - (intOf i).toNat)
  case atStart => exact ⟨0, rfl, by omega, by rw [opTo_zero]; exact I1.out, World.grownBy.refl _ _⟩
  case round =>
    obtain ⟨q, rfl, hq, hi, hgr⟩ := hrel
    have I := Lib.hid hi
    have G := Lib.hid hgr
    have GW := Lib.hid (G0.out.trans hgr)
    clear hi hgr
    have R0 := Lib.hid (K0.out.keepOne G.out (by omega))
    have R1 := Lib.hid (K1.out.keepOne G.out (by omega))
    obtain ⟨r0, r1, r2, -, -, -⟩ := R0.out.all
    obtain ⟨o0, o1, o2, o3⟩ := R1.out.all
    by_cases hlt : q < C
    · have a1 : Iq * C + q < n := by rw [HN.out]; exact idx_lt hI hlt
      have a2 : J * C + q < n := by rw [HN.out]; exact idx_lt hJ hlt
      have c1 : (Iq : Int) * (C : Int) = ((Iq * C : Nat) : Int) := (Int.natCast_mul _ _).symm
      have c2 : (J : Int) * (C : Int) = ((J * C : Nat) : Int) := (Int.natCast_mul _ _).symm
      have d1 : 0 ≤ (Iq : Int) * (C : Int) ∧ (Iq : Int) * (C : Int) ≤ 600 := by rw [c1]; omega
      have d2 : 0 ≤ (J : Int) * (C : Int) ∧ (J : Int) * (C : Int) ≤ 600 := by rw [c2]; omega
      have e1 : 0 ≤ (Iq : Int) * (C : Int) + (q : Int) := by omega
      have e2 : (Iq : Int) * (C : Int) + (q : Int) < (n : Int) := by rw [c1]; omega
      have e3 : ((Iq : Int) * (C : Int) + (q : Int)).toNat = Iq * C + q := by rw [c1]; omega
      have f1 : 0 ≤ (J : Int) * (C : Int) + (q : Int) := by omega
      have f2 : (J : Int) * (C : Int) + (q : Int) < (n : Int) := by rw [c2]; omega
      have f3 : ((J : Int) * (C : Int) + (q : Int)).toNat = J * C + q := by rw [c2]; omega
      obtain ⟨d11, d12⟩ := d1
      obtain ⟨d21, d22⟩ := d2
      have v1 : IntKind.i64.wrap ((Iq : Int) * (C : Int)) = (Iq : Int) * (C : Int) := IntWalk.i64_in _ (by omega)
      have v2 : IntKind.i64.wrap ((Iq : Int) * (C : Int) + (q : Int)) = (Iq : Int) * (C : Int) + (q : Int) := IntWalk.i64_in _ (by omega)
      have v3 : IntKind.i64.wrap ((J : Int) * (C : Int)) = (J : Int) * (C : Int) := IntWalk.i64_in _ (by omega)
      have v4 : IntKind.i64.wrap ((J : Int) * (C : Int) + (q : Int)) = (J : Int) * (C : Int) + (q : Int) := IntWalk.i64_in _ (by omega)
      have h1 := I.out.cell (i := Iq * C + q) (by rw [opTo_length, HX.out]; exact a1)
      have h2 := I.out.cell (i := J * C + q) (by rw [opTo_length, HX.out]; exact a2)
      rw [opTo_at _ _ _ _ _ _ _ _ hlt (by rw [HX.out]; exact a1)] at h1
      rw [opTo_at _ _ _ _ _ _ _ _ hlt (by rw [HX.out]; exact a2)] at h2
      have fr1 := I.out.free (Iq * C + q)
      have fr2 := I.out.free (J * C + q)
      have hlen : xs.length = R * C := by rw [HX.out, HN.out]
      obtain ⟨x, hxx⟩ : ∃ x, xs.getD (Iq * C + q) 0 = x := ⟨_, rfl⟩
      obtain ⟨y, hyy⟩ : ∃ y, xs.getD (J * C + q) 0 = y := ⟨_, rfl⟩
      have s0 := op_swap Iq J t C R xs q hlen hI hJ hlt
      have s1 := op_one 1 Iq J t C R xs q (mulB x (-1)) hlen hI hlt (.inl rfl) (by rw [opAt_one _ _ _ _ _ hlt, hxx])
      have s2 := op_one 2 Iq J t C R xs q (addB x (mulB y t)) hlen hI hlt (.inr rfl) (by rw [opAt_two _ _ _ _ _ hlt, hxx, hyy])
      rw [hxx, hyy] at s0
      rw [hxx] at h1
      rw [hyy] at h2
      have S0 := Lib.hid s0
      have S1 := Lib.hid s1
      have S2 := Lib.hid s2
      have A1 := Lib.hid a1
      have A2 := Lib.hid a2
      clear c1 c2 hxx hyy s0 s1 s2 hlen a1 a2
      rcases hk with e0 | e0 | e0
      · have n0 : (k == 0) = true := by simpa using e0
        have n1 : (k == 1) = false := by rw [e0]; rfl
        have KE := Lib.hid e0
        clear e0
        have IS := I.out.set (Iq * C + q) y
        have fr2 := IS.free (J * C + q)
        have hold := IS.cell (i := J * C + q) (by rw [List.length_set, opTo_length, HX.out]; exact A2.out)
        have rr0 : Blk3 (wr.setCell ⟨g, Iq * C + q, none⟩ (.int .i64 y)) w.heap.size 26 (.int .i64 R) (.int .i64 C) (.slice (some ⟨g, 0, none⟩) n cap) := R0.out.far (by simp; omega) _
        have rr1 : Blk4 (wr.setCell ⟨g, Iq * C + q, none⟩ (.int .i64 y)) (w.heap.size + 1) 97 (.int .i64 k) (.int .i64 Iq) (.int .i64 J) (.int .i64 t) := (Below.heap_setCell wr ⟨g, Iq * C + q, none⟩ (.int .i64 y) (w.heap.size + 1) (by simp; omega)).trans R1.out
        obtain ⟨z0, z1, z2, -, -, -⟩ := rr0.all
        obtain ⟨y0, y1, y2, y3⟩ := rr1.all
        have IS2 := Lib.hid (IS.set (J * C + q) x)
        clear IS rr0 rr1
        go_wp2_with fail
        go_roundw
        case rel =>
          refine ⟨q + 1, by go_num, by omega, ?_, ?_⟩
          · have := S0.out
            rcases this with h | h
            · have z := IS2.out; rw [KE.out] at z ⊢; rw [← h]; exact z
            · exact absurd h (HIJ.out KE.out)
          · exact grown_set_one (a := ⟨g, J * C + q, none⟩) (grown_set_one (a := ⟨g, Iq * C + q, none⟩) G.out rfl _) rfl _
        case measure => simp [intOf]; omega
      · have n0 : (k == 0) = false := by rw [e0]; rfl
        have n1 : (k == 1) = true := by simpa using e0
        have KE := Lib.hid e0
        clear e0
        go_upto_region 12 with fail
        refine wp_region_held_drew (S := fun w' => FrS (fun k => k = g) wr w') (by kernel_rfl) (FrS.refl _ _).drew (fun hH => ?_)
        refine wpAnyH_take (i := 0) (v := ?_) (by simp only [List.getElem?_toArray, List.getElem?_cons_zero]; rfl) (by kernel_rfl) (by kernel_rfl) (by kernel_rfl) (by exact fun _ _ _ h => h) (Or.inl ⟨by rfl, ?_⟩) hH ?_
        rotate_left
        · (intro wS hS; clear hS; go_simp; try rfl)
        try simp only [Act.put, List.setIfInBounds_toArray, List.set_cons_zero, List.set_cons_succ]
        refine wpAnyH_take (i := 1) (v := ?_) (by simp only [List.getElem?_toArray, List.getElem?_cons_succ, List.getElem?_cons_zero]; rfl) (by kernel_rfl) (by kernel_rfl) (by kernel_rfl) (by exact fun _ _ _ h => h) (Or.inl ⟨by rfl, ?_⟩) hH ?_
        rotate_left
        · (intro wS hS; (try dsimp only at hS); obtain ⟨k1, k2, k3, k4, k5, k6, k7⟩ := tenF R0.out R1.out hS (by omega) (by omega); go_simp; try rfl)
        try simp only [Act.put, List.setIfInBounds_toArray, List.set_cons_zero, List.set_cons_succ]
        refine wpAnyH_take (i := 2) (v := ?_) (by simp only [List.getElem?_toArray, List.getElem?_cons_succ, List.getElem?_cons_zero]; rfl) (by kernel_rfl) (by kernel_rfl) (by kernel_rfl) (by exact fun _ _ _ h => h) (Or.inl ⟨by rfl, ?_⟩) hH ?_
        rotate_left
        · (intro wS hS; clear hS; go_simp; try rfl)
        try simp only [Act.put, List.setIfInBounds_toArray, List.set_cons_zero, List.set_cons_succ]
        refine wpAnyH_take (i := 3) (v := ?_) (by simp only [List.getElem?_toArray, List.getElem?_cons_succ, List.getElem?_cons_zero]; rfl) (by kernel_rfl) (by kernel_rfl) (by kernel_rfl) (by exact fun _ _ _ h => h) (Or.inl ⟨by rfl, ?_⟩) hH ?_
        rotate_left
        · (intro wS hS; (try dsimp only at hS); obtain ⟨k1, k2, k3, k4, k5, k6, k7⟩ := tenF R0.out R1.out hS (by omega) (by omega); go_simp; try rfl)
        try simp only [Act.put, List.setIfInBounds_toArray, List.set_cons_zero, List.set_cons_succ]
        refine wpAnyH_take (i := 4) (v := ?_) (by simp only [List.getElem?_toArray, List.getElem?_cons_succ, List.getElem?_cons_zero]; rfl) (by kernel_rfl) (by kernel_rfl) (by kernel_rfl) (by exact fun _ _ _ h => h) (Or.inl ⟨by rfl, ?_⟩) hH ?_
        rotate_left
        · (intro wS hS; clear hS; go_simp; try rfl)
        try simp only [Act.put, List.setIfInBounds_toArray, List.set_cons_zero, List.set_cons_succ]
        refine wpAnyH_take (i := 5) (v := ?_) (by simp only [List.getElem?_toArray, List.getElem?_cons_succ, List.getElem?_cons_zero]; rfl) (by kernel_rfl) (by kernel_rfl) (by kernel_rfl) (by exact fun _ _ _ h => h) (Or.inl ⟨by rfl, ?_⟩) hH ?_
        rotate_left
        · (intro wS hS; (try dsimp only at hS); obtain ⟨k1, k2, k3, k4, k5, k6, k7⟩ := tenF R0.out R1.out hS (by omega) (by omega); go_simp; try rfl)
        try simp only [Act.put, List.setIfInBounds_toArray, List.set_cons_zero, List.set_cons_succ]
        refine wpAnyH_take (i := 6) (v := ?_) (by simp only [List.getElem?_toArray, List.getElem?_cons_succ, List.getElem?_cons_zero]; rfl) (by kernel_rfl) (by kernel_rfl) (by kernel_rfl) (by exact fun _ _ _ h => h) (Or.inl ⟨by rfl, ?_⟩) hH ?_
        rotate_left
        · (intro wS hS; clear hS; go_simp; try rfl)
        try simp only [Act.put, List.setIfInBounds_toArray, List.set_cons_zero, List.set_cons_succ]
        refine wpAnyH_take (i := 7) (v := ?_) (by simp only [List.getElem?_toArray, List.getElem?_cons_succ, List.getElem?_cons_zero]; rfl) (by kernel_rfl) (by kernel_rfl) (by kernel_rfl) (by exact fun _ _ _ h => h) (Or.inl ⟨by rfl, ?_⟩) hH ?_
        rotate_left
        · (intro wS hS; clear hS; go_simp; try rfl)
        try simp only [Act.put, List.setIfInBounds_toArray, List.set_cons_zero, List.set_cons_succ]
        refine wpAnyH_take (i := 8) (v := ?_) (by simp only [List.getElem?_toArray, List.getElem?_cons_succ, List.getElem?_cons_zero]; rfl) (by kernel_rfl) (by kernel_rfl) (by kernel_rfl) (by exact fun _ _ _ h => h) (Or.inl ⟨by rfl, ?_⟩) hH ?_
        rotate_left
        · (intro wS hS; clear hS; go_simp; try rfl)
        try simp only [Act.put, List.setIfInBounds_toArray, List.set_cons_zero, List.set_cons_succ]
        refine wpAnyH_take (i := 9) (v := ?_) (by simp only [List.getElem?_toArray, List.getElem?_cons_succ, List.getElem?_cons_zero]; rfl) (by kernel_rfl) (by kernel_rfl) (by kernel_rfl) (by exact fun _ _ _ h => h) (Or.inl ⟨by rfl, ?_⟩) hH ?_
        rotate_left
        · (intro wS hS; clear hS; go_simp; try rfl)
        try simp only [Act.put, List.setIfInBounds_toArray, List.set_cons_zero, List.set_cons_succ]
        refine wpAnyH_ready (rs := [10]) (by kernel_rfl) (by simp) ?_
        refine AllReadyH.cons (by simp only [List.getElem?_toArray, List.getElem?_cons_succ, List.getElem?_cons_zero]; rfl) (fun KK hKK => ?_) AllReadyH.nil
        go_simp
        refine (sMulB x (-1) _).mono ?_
        rintro e w' ⟨rfl, rfl⟩
        try dsimp only
        refine hKK.out _ _ ?_ (fun hH2 => ?_)
        · exact (FrS.refl _ wr).drew
        clear hKK KK
        have hO := hH
        clear hH
        have hH := hH2
        clear hH2
        try simp only [Act.put, List.setIfInBounds_toArray, List.set_cons_zero, List.set_cons_succ]
        refine wpAnyH_take (i := 11) (v := ?_) (by simp only [List.getElem?_toArray, List.getElem?_cons_succ, List.getElem?_cons_zero]; rfl) (by kernel_rfl) (by kernel_rfl) (by kernel_rfl) (by exact fun _ _ _ h => h) (Or.inl ⟨by rfl, ?_⟩) hH ?_
        rotate_left
        · (intro wS hS; clear hS; go_simp; try rfl)
        try simp only [Act.put, List.setIfInBounds_toArray, List.set_cons_zero, List.set_cons_succ]
        have IX := Lib.hid (I.out.set (Iq * C + q) (mulB x (-1))).drew
        refine wpAnyH_ready (rs := [12]) (by kernel_rfl) (by simp) ?_
        refine AllReadyH.cons (by simp only [List.getElem?_toArray, List.getElem?_cons_succ, List.getElem?_cons_zero]; rfl) (fun KK hKK => ?_) AllReadyH.nil
        go_simp
        try dsimp only
        refine hKK.out _ _ ?_ (fun hH2 => ?_)
        · exact ((FrS.refl (fun k => k = g) wr).set (a := ⟨g, Iq * C + q, none⟩) (.inl rfl) _).drew
        clear hKK KK
        have hO := hH
        clear hH
        have hH := hH2
        clear hH2
        try simp only [Act.put, List.setIfInBounds_toArray, List.set_cons_zero, List.set_cons_succ]
        refine wpAnyH_done (by kernel_rfl) ?_ _
        go_wp2_with fail
        go_roundw
        case rel => exact ⟨q + 1, by go_num, by omega, by have z := IX.out; rw [KE.out] at z ⊢; rw [← S1.out]; exact z, grown_drew_one (grown_set_one (a := ⟨g, Iq * C + q, none⟩) G.out rfl _)⟩
        case measure => simp [intOf]; omega
      · have n0 : (k == 0) = false := by rw [e0]; rfl
        have n1 : (k == 1) = false := by rw [e0]; rfl
        have KE := Lib.hid e0
        clear e0
        go_upto_region 7 with fail
        refine wp_region_held_drew (S := fun w' => FrS (fun k => k = g) wr w') (by kernel_rfl) (FrS.refl _ _).drew (fun hH => ?_)
        refine wpAnyH_take (i := 0) (v := ?_) (by simp only [List.getElem?_toArray, List.getElem?_cons_zero]; rfl) (by kernel_rfl) (by kernel_rfl) (by kernel_rfl) (by exact fun _ _ _ h => h) (Or.inl ⟨by rfl, ?_⟩) hH ?_
        rotate_left
        · (intro wS hS; clear hS; go_simp; try rfl)
        try simp only [Act.put, List.setIfInBounds_toArray, List.set_cons_zero, List.set_cons_succ]
        refine wpAnyH_take (i := 1) (v := ?_) (by simp only [List.getElem?_toArray, List.getElem?_cons_succ, List.getElem?_cons_zero]; rfl) (by kernel_rfl) (by kernel_rfl) (by kernel_rfl) (by exact fun _ _ _ h => h) (Or.inl ⟨by rfl, ?_⟩) hH ?_
        rotate_left
        · (intro wS hS; (try dsimp only at hS); obtain ⟨k1, k2, k3, k4, k5, k6, k7⟩ := tenF R0.out R1.out hS (by omega) (by omega); go_simp; try rfl)
        try simp only [Act.put, List.setIfInBounds_toArray, List.set_cons_zero, List.set_cons_succ]
        refine wpAnyH_take (i := 2) (v := ?_) (by simp only [List.getElem?_toArray, List.getElem?_cons_succ, List.getElem?_cons_zero]; rfl) (by kernel_rfl) (by kernel_rfl) (by kernel_rfl) (by exact fun _ _ _ h => h) (Or.inl ⟨by rfl, ?_⟩) hH ?_
        rotate_left
        · (intro wS hS; clear hS; go_simp; try rfl)
        try simp only [Act.put, List.setIfInBounds_toArray, List.set_cons_zero, List.set_cons_succ]
        refine wpAnyH_take (i := 3) (v := ?_) (by simp only [List.getElem?_toArray, List.getElem?_cons_succ, List.getElem?_cons_zero]; rfl) (by kernel_rfl) (by kernel_rfl) (by kernel_rfl) (by exact fun _ _ _ h => h) (Or.inl ⟨by rfl, ?_⟩) hH ?_
        rotate_left
        · (intro wS hS; (try dsimp only at hS); obtain ⟨k1, k2, k3, k4, k5, k6, k7⟩ := tenF R0.out R1.out hS (by omega) (by omega); go_simp; try rfl)
        try simp only [Act.put, List.setIfInBounds_toArray, List.set_cons_zero, List.set_cons_succ]
        refine wpAnyH_take (i := 4) (v := ?_) (by simp only [List.getElem?_toArray, List.getElem?_cons_succ, List.getElem?_cons_zero]; rfl) (by kernel_rfl) (by kernel_rfl) (by kernel_rfl) (by exact fun _ _ _ h => h) (Or.inl ⟨by rfl, ?_⟩) hH ?_
        rotate_left
        · (intro wS hS; clear hS; go_simp; try rfl)
        try simp only [Act.put, List.setIfInBounds_toArray, List.set_cons_zero, List.set_cons_succ]
        refine wpAnyH_take (i := 5) (v := ?_) (by simp only [List.getElem?_toArray, List.getElem?_cons_succ, List.getElem?_cons_zero]; rfl) (by kernel_rfl) (by kernel_rfl) (by kernel_rfl) (by exact fun _ _ _ h => h) (Or.inl ⟨by rfl, ?_⟩) hH ?_
        rotate_left
        · (intro wS hS; (try dsimp only at hS); obtain ⟨k1, k2, k3, k4, k5, k6, k7⟩ := tenF R0.out R1.out hS (by omega) (by omega); go_simp; try rfl)
        try simp only [Act.put, List.setIfInBounds_toArray, List.set_cons_zero, List.set_cons_succ]
        refine wpAnyH_take (i := 6) (v := ?_) (by simp only [List.getElem?_toArray, List.getElem?_cons_succ, List.getElem?_cons_zero]; rfl) (by kernel_rfl) (by kernel_rfl) (by kernel_rfl) (by exact fun _ _ _ h => h) (Or.inl ⟨by rfl, ?_⟩) hH ?_
        rotate_left
        · (intro wS hS; clear hS; go_simp; try rfl)
        try simp only [Act.put, List.setIfInBounds_toArray, List.set_cons_zero, List.set_cons_succ]
        refine wpAnyH_take (i := 7) (v := ?_) (by simp only [List.getElem?_toArray, List.getElem?_cons_succ, List.getElem?_cons_zero]; rfl) (by kernel_rfl) (by kernel_rfl) (by kernel_rfl) (by exact fun _ _ _ h => h) (Or.inl ⟨by rfl, ?_⟩) hH ?_
        rotate_left
        · (intro wS hS; clear hS; go_simp; try rfl)
        try simp only [Act.put, List.setIfInBounds_toArray, List.set_cons_zero, List.set_cons_succ]
        refine wpAnyH_take (i := 8) (v := ?_) (by simp only [List.getElem?_toArray, List.getElem?_cons_succ, List.getElem?_cons_zero]; rfl) (by kernel_rfl) (by kernel_rfl) (by kernel_rfl) (by exact fun _ _ _ h => h) (Or.inl ⟨by rfl, ?_⟩) hH ?_
        rotate_left
        · (intro wS hS; clear hS; go_simp; try rfl)
        try simp only [Act.put, List.setIfInBounds_toArray, List.set_cons_zero, List.set_cons_succ]
        refine wpAnyH_take (i := 9) (v := ?_) (by simp only [List.getElem?_toArray, List.getElem?_cons_succ, List.getElem?_cons_zero]; rfl) (by kernel_rfl) (by kernel_rfl) (by kernel_rfl) (by exact fun _ _ _ h => h) (Or.inl ⟨by rfl, ?_⟩) hH ?_
        rotate_left
        · (intro wS hS; clear hS; go_simp; try rfl)
        try simp only [Act.put, List.setIfInBounds_toArray, List.set_cons_zero, List.set_cons_succ]
        refine wpAnyH_take (i := 10) (v := ?_) (by simp only [List.getElem?_toArray, List.getElem?_cons_succ, List.getElem?_cons_zero]; rfl) (by kernel_rfl) (by kernel_rfl) (by kernel_rfl) (by exact fun _ _ _ h => h) (Or.inl ⟨by rfl, ?_⟩) hH ?_
        rotate_left
        · (intro wS hS; clear hS; go_simp; try rfl)
        try simp only [Act.put, List.setIfInBounds_toArray, List.set_cons_zero, List.set_cons_succ]
        refine wpAnyH_take (i := 11) (v := ?_) (by simp only [List.getElem?_toArray, List.getElem?_cons_succ, List.getElem?_cons_zero]; rfl) (by kernel_rfl) (by kernel_rfl) (by kernel_rfl) (by exact fun _ _ _ h => h) (Or.inl ⟨by rfl, ?_⟩) hH ?_
        rotate_left
        · (intro wS hS; clear hS; go_simp; try rfl)
        try simp only [Act.put, List.setIfInBounds_toArray, List.set_cons_zero, List.set_cons_succ]
        refine wpAnyH_take (i := 12) (v := ?_) (by simp only [List.getElem?_toArray, List.getElem?_cons_succ, List.getElem?_cons_zero]; rfl) (by kernel_rfl) (by kernel_rfl) (by kernel_rfl) (by exact fun _ _ _ h => h) (Or.inl ⟨by rfl, ?_⟩) hH ?_
        rotate_left
        · (intro wS hS; (try dsimp only at hS); obtain ⟨k1, k2, k3, k4, k5, k6, k7⟩ := tenF R0.out R1.out hS (by omega) (by omega); go_simp; try rfl)
        try simp only [Act.put, List.setIfInBounds_toArray, List.set_cons_zero, List.set_cons_succ]
        refine wpAnyH_ready (rs := [13]) (by kernel_rfl) (by simp) ?_
        refine AllReadyH.cons (by simp only [List.getElem?_toArray, List.getElem?_cons_succ, List.getElem?_cons_zero]; rfl) (fun KK hKK => ?_) AllReadyH.nil
        go_simp
        refine (sMulB y t _).mono ?_
        rintro e w' ⟨rfl, rfl⟩
        try dsimp only
        refine hKK.out _ _ ?_ (fun hH2 => ?_)
        · exact (FrS.refl _ wr).drew
        clear hKK KK
        have hO := hH
        clear hH
        have hH := hH2
        clear hH2
        try simp only [Act.put, List.setIfInBounds_toArray, List.set_cons_zero, List.set_cons_succ]
        refine wpAnyH_ready (rs := [14]) (by kernel_rfl) (by simp) ?_
        refine AllReadyH.cons (by simp only [List.getElem?_toArray, List.getElem?_cons_succ, List.getElem?_cons_zero]; rfl) (fun KK hKK => ?_) AllReadyH.nil
        go_simp
        refine (sAddB x _ _).mono ?_
        rintro e w' ⟨rfl, rfl⟩
        try dsimp only
        refine hKK.out _ _ ?_ (fun hH2 => ?_)
        · exact (FrS.refl _ wr).drew
        clear hKK KK
        have hO := hH
        clear hH
        have hH := hH2
        clear hH2
        try simp only [Act.put, List.setIfInBounds_toArray, List.set_cons_zero, List.set_cons_succ]
        refine wpAnyH_take (i := 15) (v := ?_) (by simp only [List.getElem?_toArray, List.getElem?_cons_succ, List.getElem?_cons_zero]; rfl) (by kernel_rfl) (by kernel_rfl) (by kernel_rfl) (by exact fun _ _ _ h => h) (Or.inl ⟨by rfl, ?_⟩) hH ?_
        rotate_left
        · (intro wS hS; clear hS; go_simp; try rfl)
        try simp only [Act.put, List.setIfInBounds_toArray, List.set_cons_zero, List.set_cons_succ]
        have IX := Lib.hid (I.out.set (Iq * C + q) (addB x (mulB y t))).drew
        refine wpAnyH_ready (rs := [16]) (by kernel_rfl) (by simp) ?_
        refine AllReadyH.cons (by simp only [List.getElem?_toArray, List.getElem?_cons_succ, List.getElem?_cons_zero]; rfl) (fun KK hKK => ?_) AllReadyH.nil
        go_simp
        try dsimp only
        refine hKK.out _ _ ?_ (fun hH2 => ?_)
        · exact ((FrS.refl (fun k => k = g) wr).set (a := ⟨g, Iq * C + q, none⟩) (.inl rfl) _).drew
        clear hKK KK
        have hO := hH
        clear hH
        have hH := hH2
        clear hH2
        try simp only [Act.put, List.setIfInBounds_toArray, List.set_cons_zero, List.set_cons_succ]
        refine wpAnyH_done (by kernel_rfl) ?_ _
        go_wp2_with fail
        go_roundw
        case rel => exact ⟨q + 1, by go_num, by omega, by have z := IX.out; rw [KE.out] at z ⊢; rw [← S2.out]; exact z, grown_drew_one (grown_set_one (a := ⟨g, Iq * C + q, none⟩) G.out rfl _)⟩
        case measure => simp [intOf]; omega
    · have hq2 : decide (q < C) = false := by simpa using hlt
      have hqC : q = C := by omega
      have EQ : Hid (opTo k Iq J t C xs q = opL k Iq J t C xs) := by
        show opTo k Iq J t C xs q = opL k Iq J t C xs
        rw [hqC]
        refine opTo_all _ _ _ _ _ _ ?_
        rcases Nat.eq_zero_or_pos C with e | e
        · left; rw [HX.out, HN.out, e, Nat.mul_zero]
        · exact .inr e
      clear hqC
      go_wp2_with fail
      have II : IntsZ S wr g (opL k Iq J t C xs) := by rw [← EQ.out]; exact I.out
      go_end0
      exact ⟨rfl, II, GW.out⟩
theorem sDo (R C Iq J g n cap : Nat) (k t : Int) (xs : List Int) (w : World) (hi : Ints w g xs) (hx : xs.length = n) (hn : n = R * C) (hR : R ≤ 24) (hC : C ≤ 24) (hI : Iq < R) (hJ : J < R) (hk : k = 0 ∨ k = 1 ∨ k = 2) (hIJ : k = 0 → Iq ≠ J) :
    Calls Try.prog 144 #[.agg #[.int .i64 R, .int .i64 C, .slice (some ⟨g, 0, none⟩) n cap], .agg #[.int .i64 k, .int .i64 Iq, .int .i64 J, .int .i64 t]] w (fun e w' => Void e ∧ Ints w' g (opL k Iq J t C xs) ∧ w.grownBy w' (some g)) := by
  obtain ⟨S, h⟩ := IntsZ.of hi
  exact (sDoZ S R C Iq J g n cap k t xs w h hx hn hR hC hI hJ hk hIJ).mono fun _ _ ⟨h1, h2, h3⟩ => ⟨h1, h2.1, h3⟩
end Go.Proofs.Ytpelnfenfeoeeaa
end

section
/-
  Chapter 5, in the model: a copy of a matrix without cells.
-/
namespace Go.Proofs.Ytpelnfenfeoeeaa
set_option maxRecDepth 100000
open Go.RowKit
theorem appendNil (w : World) (g c : Nat) : (Builtin.append_ #[22, 22] 22 #[.slice (some ⟨g, 0, none⟩) 0 0, .slice none 0 c]).run Try.prog w = .ok (.slice (some ⟨g, 0, none⟩) 0 0) w := by
  obtain ⟨fi, hfi, hz0, hz1, hz2⟩ := facts_int
  simp [Builtin.append_, go_sem, Builtin.lenOf, Builtin.firstCells, storeCells]
set_option maxHeartbeats 1000000 in
theorem sCopyN (r c : Int) (m : Nat) (w : World) :
    Calls Try.prog 54 #[.agg #[.int .i64 r, .int .i64 c, .slice none 0 m]] w (fun e w' => ∃ g cap : Nat, e = .returned (.agg #[.int .i64 r, .int .i64 c, .slice (some ⟨g, 0, none⟩) 0 cap]) ∧ w.heap.size ≤ g ∧ IntsC w' g cap [] ∧ Below w.heap.size w w') := by
  have BH : Hid (Below w.heap.size w ((w.alloc (.cells #[.int .i64 r, .int .i64 c, .slice none 0 m] 26)).alloc (.cells #[.int .i64 0, .int .i64 0, .slice none 0 0] 26))) := ((Below.refl _ _).alloc (Nat.le_refl _) _).alloc (by simp) _
  have K0 : Hid (Blk3 ((w.alloc (.cells #[.int .i64 r, .int .i64 c, .slice none 0 m] 26)).alloc (.cells #[.int .i64 0, .int .i64 0, .slice none 0 0] 26)) w.heap.size 26 (.int .i64 r) (.int .i64 c) (.slice none 0 m)) := (Blk3.at_ _ _ _ _ rfl).old _
  have K2 : Hid (Blk3 ((w.alloc (.cells #[.int .i64 r, .int .i64 c, .slice none 0 m] 26)).alloc (.cells #[.int .i64 0, .int .i64 0, .slice none 0 0] 26)) (w.heap.size + 1) 26 (.int .i64 0) (.int .i64 0) (.slice none 0 0)) := Blk3.at_ _ _ _ _ (by simp)
  obtain ⟨w2, hw2⟩ : ∃ w2, (w.alloc (.cells #[.int .i64 r, .int .i64 c, .slice none 0 m] 26)).alloc (.cells #[.int .i64 0, .int .i64 0, .slice none 0 0] 26) = w2 := ⟨_, rfl⟩
  rw [hw2] at BH K0 K2
  go_enter Try.func54, Try.ntmps54
  go_wp2_with fail
  clear hw2
  refine wp_region_held_drew (S := fun w' => FrS (fun k => k = w.heap.size + 1) w2 w') (by kernel_rfl) (FrS.refl _ _).drew (fun hH => ?_)
  refine wpAnyH_take (i := 0) (v := ?_) (by simp only [List.getElem?_toArray, List.getElem?_cons_zero]; rfl) (by kernel_rfl) (by kernel_rfl) (by kernel_rfl) (by exact fun _ _ _ h => h) (Or.inl ⟨by rfl, ?_⟩) hH ?_
  rotate_left
  · (intro wS hS; clear hS; go_simp; try rfl)
  try simp only [Act.put, List.setIfInBounds_toArray, List.set_cons_zero, List.set_cons_succ]
  refine wpAnyH_take (i := 1) (v := ?_) (by simp only [List.getElem?_toArray, List.getElem?_cons_succ, List.getElem?_cons_zero]; rfl) (by kernel_rfl) (by kernel_rfl) (by kernel_rfl) (by exact fun _ _ _ h => h) (Or.inl ⟨by rfl, ?_⟩) hH ?_
  rotate_left
  · (intro wS hS; (try dsimp only at hS); obtain ⟨k1, k2, k3⟩ := sevenF K0.out hS (by omega); go_simp; try rfl)
  try simp only [Act.put, List.setIfInBounds_toArray, List.set_cons_zero, List.set_cons_succ]
  refine wpAnyH_take (i := 2) (v := ?_) (by simp only [List.getElem?_toArray, List.getElem?_cons_succ, List.getElem?_cons_zero]; rfl) (by kernel_rfl) (by kernel_rfl) (by kernel_rfl) (by exact fun _ _ _ h => h) (Or.inl ⟨by rfl, ?_⟩) hH ?_
  rotate_left
  · (intro wS hS; clear hS; go_simp; try rfl)
  try simp only [Act.put, List.setIfInBounds_toArray, List.set_cons_zero, List.set_cons_succ]
  refine wpAnyH_take (i := 3) (v := ?_) (by simp only [List.getElem?_toArray, List.getElem?_cons_succ, List.getElem?_cons_zero]; rfl) (by kernel_rfl) (by kernel_rfl) (by kernel_rfl) (by exact fun _ _ _ h => h) (Or.inl ⟨by rfl, ?_⟩) hH ?_
  rotate_left
  · (intro wS hS; (try dsimp only at hS); obtain ⟨k1, k2, k3⟩ := sevenF K0.out hS (by omega); go_simp; try rfl)
  try simp only [Act.put, List.setIfInBounds_toArray, List.set_cons_zero, List.set_cons_succ]
  refine wpAnyH_take (i := 5) (v := ?_) (by simp only [List.getElem?_toArray, List.getElem?_cons_succ, List.getElem?_cons_zero]; rfl) (by kernel_rfl) (by kernel_rfl) (by kernel_rfl) (by exact fun _ _ _ h => h) (Or.inl ⟨by rfl, ?_⟩) hH ?_
  rotate_left
  · (intro wS hS; clear hS; go_simp; try rfl)
  try simp only [Act.put, List.setIfInBounds_toArray, List.set_cons_zero, List.set_cons_succ]
  refine wpAnyH_take (i := 6) (v := ?_) (by simp only [List.getElem?_toArray, List.getElem?_cons_succ, List.getElem?_cons_zero]; rfl) (by kernel_rfl) (by kernel_rfl) (by kernel_rfl) (by exact fun _ _ _ h => h) (Or.inl ⟨by rfl, ?_⟩) hH ?_
  rotate_left
  · (intro wS hS; (try dsimp only at hS); obtain ⟨k1, k2, k3⟩ := sevenF K0.out hS (by omega); go_simp; try rfl)
  try simp only [Act.put, List.setIfInBounds_toArray, List.set_cons_zero, List.set_cons_succ]
  refine wpAnyH_ready (rs := [4]) (by kernel_rfl) (by simp) ?_
  refine AllReadyH.cons (by simp only [List.getElem?_toArray, List.getElem?_cons_succ, List.getElem?_cons_zero]; rfl) (fun KK hKK => ?_) AllReadyH.nil
  go_simp
  try dsimp only
  refine hKK.out _ _ ?_ (fun hH2 => ?_)
  · exact (((FrS.refl _ w2).alloc _).drew)
  clear hKK KK
  have hO := hH
  clear hH
  have hH := hH2
  clear hH2
  try simp only [Act.put, List.setIfInBounds_toArray, List.set_cons_zero, List.set_cons_succ]
  have own0 : ((w2.alloc (.cells #[] 3)).drew).ownsRow w2.heap.size 3 1 (.slice (some ⟨w2.heap.size, 0, none⟩) 0 0) 0 (([] : List Int).map (Value.int .i64)) := ⟨rfl, .inr ⟨w2.heap.size, 0, #[], rfl, Nat.le_refl _, heap_alloc_new w2 _, Nat.le_refl _, by decide, rfl, rfl⟩⟩
  have BA : Hid (Below w2.heap.size w2 ((w2.alloc (.cells #[] 3)).drew)) := ((Below.refl _ _).alloc (Nat.le_refl _) _).drew
  have hr1 := appendNil ((w2.alloc (.cells #[] 3)).drew) w2.heap.size m
  refine wpAnyH_ready (rs := [7]) (by kernel_rfl) (by simp) ?_
  refine AllReadyH.cons (by simp only [List.getElem?_toArray, List.getElem?_cons_succ, List.getElem?_cons_zero]; rfl) (fun KK hKK => ?_) AllReadyH.nil
  refine step_append rfl _ _ 22 rfl _ _ rfl rfl _ _ hr1 ?_
  have BA1 := BA
  try dsimp only
  refine hKK.out _ _ ?_ (fun hH2 => ?_)
  · exact FrS.of_below BA1.out
  clear hKK KK
  have hO := hH
  clear hH
  have hH := hH2
  clear hH2
  try simp only [Act.put, List.setIfInBounds_toArray, List.set_cons_zero, List.set_cons_succ]
  have O2 : Hid (OwnC w2.heap.size ((w2.alloc (.cells #[] 3)).drew) (.slice (some ⟨w2.heap.size, 0, none⟩) 0 0) []) := OwnC.of_row own0
  have O3 := O2.out
  rcases O3 with ⟨h, -⟩ | ⟨g, qc2, hv, gB, gI⟩
  · exact absurd h (by simp)
  have GB := Lib.hid gB
  have GI := Lib.hid gI
  simp only [Value.slice.injEq, Option.some.injEq, Addr.mk.injEq] at hv
  obtain ⟨⟨rfl, -, -⟩, -, rfl⟩ := hv
  clear gB gI
  obtain ⟨wa, hwa⟩ : ∃ wa, (w2.alloc (.cells #[] 3)).drew = wa := ⟨_, rfl⟩
  rw [hwa] at GI O2 BA1 own0 hr1 hH ⊢
  refine wpAnyH_take (i := 8) (v := ?_) (by simp only [List.getElem?_toArray, List.getElem?_cons_succ, List.getElem?_cons_zero]; rfl) (by kernel_rfl) (by kernel_rfl) (by kernel_rfl) (by exact fun _ _ _ h => h) (Or.inl ⟨by rfl, ?_⟩) hH ?_
  rotate_left
  · (intro wS hS; clear hS; go_simp; try rfl)
  try simp only [Act.put, List.setIfInBounds_toArray, List.set_cons_zero, List.set_cons_succ]
  have K2 := Lib.hid (K2.out.step BA1.out)
  obtain ⟨s0, s1, s2, f0, f1, f2⟩ := K2.out.all
  have gs : ∀ x y z, FrS (fun k => k = w.heap.size + 1) w2 (((wa.setCell ⟨w.heap.size + 1, 0, none⟩ x).setCell ⟨w.heap.size + 1, 1, none⟩ y).setCell ⟨w.heap.size + 1, 2, none⟩ z) := fun x y z => (FrS.of_below (p := fun k => k = w.heap.size + 1) BA1.out).set3 (b := w.heap.size + 1) (.inl rfl) x y z
  have GS := Lib.hid gs
  clear gs
  refine wpAnyH_ready (rs := [9]) (by kernel_rfl) (by simp) ?_
  refine AllReadyH.cons (by simp only [List.getElem?_toArray, List.getElem?_cons_succ, List.getElem?_cons_zero]; rfl) (fun KK hKK => ?_) AllReadyH.nil
  go_simp
  try dsimp only
  refine hKK.out _ _ ?_ (fun hH2 => ?_)
  · exact GS.out _ _ _
  clear hKK KK
  have hO := hH
  clear hH
  have hH := hH2
  clear hH2
  try simp only [Act.put, List.setIfInBounds_toArray, List.set_cons_zero, List.set_cons_succ]
  refine wpAnyH_done (by kernel_rfl) ?_ _
  go_wp2_with fail
  obtain ⟨E0, E1, E2, -, -, -⟩ := (K2.out.set3 (.int .i64 r) (.int .i64 c) (.slice (some ⟨w2.heap.size, 0, none⟩) 0 0)).all
  have B2 := BH.out.trans (BA1.out.mono BH.out.size)
  refine bodyPost_ret (v := .agg #[.int .i64 r, .int .i64 c, .slice (some ⟨w2.heap.size, 0, none⟩) 0 0]) (by simp [results, Try.results54, go_sem, E0, E1, E2]) rfl ⟨w2.heap.size, 0, rfl, Nat.le_trans BH.out.size GB.out, ((GI.out.far (GI.out.ints.ne_blk K2.out) _).far (GI.out.ints.ne_blk K2.out) _).far (GI.out.ints.ne_blk K2.out) _, ?_⟩
  exact (((B2.setCell (by show w.heap.size ≤ w.heap.size + 1; omega) _).setCell (by show w.heap.size ≤ w.heap.size + 1; omega) _).setCell (by show w.heap.size ≤ w.heap.size + 1; omega) _)
def Spot (a : Option Addr) : Prop := a = none ∨ ∃ g o : Nat, a = some ⟨g, o, none⟩
theorem Spot.of (g o : Nat) : Spot (some ⟨g, o, none⟩) := .inr ⟨g, o, rfl⟩
theorem sCopyA (r c : Int) (a : Option Addr) (m n : Nat) (xs : List Int) (w : World) (h : Rd w a xs) (ha : Spot a) (hx : xs.length = n) (hn : n ≤ 1048576) :
    Calls Try.prog 54 #[.agg #[.int .i64 r, .int .i64 c, .slice a n m]] w (fun e w' => ∃ g cap : Nat, e = .returned (.agg #[.int .i64 r, .int .i64 c, .slice (some ⟨g, 0, none⟩) n cap]) ∧ w.heap.size ≤ g ∧ IntsC w' g cap xs ∧ Below w.heap.size w w') := by
  rcases ha with rfl | ⟨g, o, rfl⟩
  · have e : xs = [] := by
      cases xs with
      | nil => rfl
      | cons x xs => obtain ⟨b, o, h1, -⟩ := h 0 (by simp); exact absurd h1 (by simp)
    subst e
    subst hx
    exact sCopyN r c m w
  · exact sCopy r c g o m n xs w h hx hn
end Go.Proofs.Ytpelnfenfeoeeaa
end

section
/-
  Chapter 3, in the model: a matrix that is done.
-/
namespace Go.Proofs.Ytpelnfenfeoeeaa
open Go.RowKit
def DoneRes (r c : Int) (v : Value) (ok : Bool) : Value := if ok = true then .tuple #[.agg #[.int .i64 r, .int .i64 c, v], .bool true] else .tuple #[.agg #[.int .i64 0, .int .i64 0, .slice none 0 0], .bool false]
end Go.Proofs.Ytpelnfenfeoeeaa
end

section
/-
  Chapter 5, in the model: DoRowOp.
-/
namespace Go.Proofs.Ytpelnfenfeoeeaa
set_option maxRecDepth 100000
open Go.RowKit
def opM (k i j t r c : Int) (xs : List Int) : MR := if (isMat r c xs && isOp k i j t r) = true then MR.done r c (opL k i.toNat j.toNat t c.toNat xs) else MR.no
theorem isOp_says {k i j t r : Int} (h : isOp k i j t r = true) : (k = 0 ∨ k = 1 ∨ k = 2) ∧ (0 ≤ r ∧ r ≤ 24) ∧ (0 ≤ i ∧ i < r) ∧ (0 ≤ j ∧ j < r) ∧ NumP t ∧ (k = 0 → i ≠ j) := by
  unfold isOp rangeOp at h
  simp only [Bool.and_eq_true, decide_eq_true_eq] at h
  obtain ⟨⟨⟨⟨⟨h1, h2⟩, h3⟩, h4⟩, h5⟩, h6⟩ := h
  refine ⟨by omega, h2, by omega, by omega, h5, ?_⟩
  rintro rfl
  simp at h6
  exact fun e => h6.1 e.symm
end Go.Proofs.Ytpelnfenfeoeeaa
end

section
/-
  Plain mathematics of chapter 5: an operation on rows without marks. Nothing of a program is used.
-/
namespace Go.Proofs.Ytpelnfenfeoeeaa
open Go.RowKit
theorem isOp_rows0 {i j t r : Int} (h : isOp 0 i j t r = true) : i ≠ j := by
  unfold isOp at h; simp at h; exact fun e => h.2.1 e.symm
theorem isOp_rows1 {i j t r : Int} (h : isOp 1 i j t r = true) : i = j := by
  unfold isOp at h; simp at h; exact h.2.1.symm
theorem isOp_rows2 {i j t r : Int} (h : isOp 2 i j t r = true) : i ≠ j := by
  unfold isOp at h; simp at h; exact fun e => h.2 e.symm
def colTo (f : Nat → Int) (C : Nat) (xs : List Int) (q : Nat) : List Int := (List.range xs.length).map fun p => if p % C < q then f p else xs.getD p 0
theorem colTo_length (f : Nat → Int) (C : Nat) (xs : List Int) (q : Nat) : (colTo f C xs q).length = xs.length := by simp [colTo]
theorem colTo_getD (f : Nat → Int) (C : Nat) (xs : List Int) (q p : Nat) (hp : p < xs.length) : (colTo f C xs q).getD p 0 = if p % C < q then f p else xs.getD p 0 := by
  simp [colTo, List.getD, hp]
theorem colTo_zero (f : Nat → Int) (C : Nat) (xs : List Int) : colTo f C xs 0 = xs := by
  refine list_getD (colTo_length _ _ _ _) fun p hp => ?_
  rw [colTo_length] at hp
  rw [colTo_getD _ _ _ _ _ hp, if_neg (by omega)]
theorem colTo_all (f : Nat → Int) (C : Nat) (xs : List Int) (h : xs.length = 0 ∨ 0 < C) : colTo f C xs C = (List.range xs.length).map f := by
  unfold colTo
  refine List.map_congr_left fun p hp => ?_
  have hp := List.mem_range.mp hp
  rw [if_pos (Nat.mod_lt p (by omega))]
theorem colTo_two (f : Nat → Int) (I J C R : Nat) (xs : List Int) (q : Nat) (a b : Int) (hl : xs.length = R * C) (hI : I < R) (hJ : J < R) (hq : q < C)
    (hb : f (J * C + q) = b) (ha : I ≠ J → f (I * C + q) = a) (hr : ∀ p, p / C ≠ I → p / C ≠ J → f p = xs.getD p 0) :
    ((colTo f C xs q).set (I * C + q) a).set (J * C + q) b = colTo f C xs (q + 1) := by
  have a1 : I * C + q < xs.length := by rw [hl]; exact idx_lt hI hq
  have a2 : J * C + q < xs.length := by rw [hl]; exact idx_lt hJ hq
  refine list_getD (by rw [List.length_set, List.length_set, colTo_length, colTo_length]) fun p hp => ?_
  rw [List.length_set, List.length_set, colTo_length] at hp
  rw [getD_set _ _ _ _ (by rw [List.length_set, colTo_length]; exact a2), getD_set _ _ _ _ (by rw [colTo_length]; exact a1), colTo_getD _ _ _ _ _ hp, colTo_getD _ _ _ _ _ hp]
  by_cases e : p % C = q
  · have sp := split_idx e
    rw [if_pos (show p % C < q + 1 by omega), if_neg (show ¬ p % C < q by omega)]
    by_cases e2 : p / C = J
    · have : p = J * C + q := by rw [← e2]; exact sp
      rw [if_pos this, this, hb]
    · rw [if_neg (fun h => e2 (by rw [h, idx_div hq]))]
      by_cases e1 : p / C = I
      · have : p = I * C + q := by rw [← e1]; exact sp
        rw [if_pos this, this, ha (fun h => e2 (by rw [e1, h]))]
      · rw [if_neg (fun h => e1 (by rw [h, idx_div hq])), hr p e1 e2]
  · rw [if_neg (fun h => e (by rw [h, idx_mod hq])), if_neg (fun h => e (by rw [h, idx_mod hq]))]
    by_cases e2 : p % C < q
    · rw [if_pos e2, if_pos (by omega)]
    · rw [if_neg e2, if_neg (by omega)]
def rwAt (k : Int) (I J : Nat) (t : Int) (C : Nat) (xs : List Int) (p : Nat) : Int :=
  if k = 0 then (if p / C = I then xs.getD (J * C + p % C) 0 else if p / C = J then xs.getD (I * C + p % C) 0 else xs.getD p 0)
  else if k = 1 then (if p / C = I then - xs.getD p 0 else xs.getD p 0)
  else (if p / C = I then xs.getD p 0 + xs.getD (J * C + p % C) 0 * t else xs.getD p 0)
def prodTo (k : Int) (J : Nat) (t : Int) (C : Nat) (xs : List Int) (q : Nat) : Prop := k = 2 → ∀ s, s < q → NumP (xs.getD (J * C + s) 0 * t)
theorem prodTo_zero (k : Int) (J : Nat) (t : Int) (C : Nat) (xs : List Int) : prodTo k J t C xs 0 := fun _ s hs => absurd hs (by omega)
theorem prodTo_succ {k : Int} {J : Nat} {t : Int} {C : Nat} {xs : List Int} {q : Nat} (h : prodTo k J t C xs q) (h2 : k = 2 → NumP (xs.getD (J * C + q) 0 * t)) : prodTo k J t C xs (q + 1) := fun hk s hs => by
  rcases Nat.lt_or_ge s q with h3 | h3
  · exact h hk s h3
  · obtain rfl : s = q := by omega
    exact h2 hk
theorem rw_swap (I J : Nat) (t : Int) (C R : Nat) (xs : List Int) (q : Nat) (hl : xs.length = R * C) (hI : I < R) (hJ : J < R) (hq : q < C) (hIJ : I ≠ J) :
    ((colTo (rwAt 0 I J t C xs) C xs q).set (I * C + q) (xs.getD (J * C + q) 0)).set (J * C + q) (xs.getD (I * C + q) 0) = colTo (rwAt 0 I J t C xs) C xs (q + 1) := by
  refine colTo_two _ I J C R xs q _ _ hl hI hJ hq ?_ (fun _ => ?_) fun p h1 h2 => ?_
  · unfold rwAt; rw [if_pos rfl, idx_div hq, idx_mod hq, if_neg (fun h => hIJ h.symm), if_pos rfl]
  · unfold rwAt; rw [if_pos rfl, idx_div hq, idx_mod hq, if_pos rfl]
  · unfold rwAt; rw [if_pos rfl, if_neg h1, if_neg h2]
theorem rw_neg (I : Nat) (t : Int) (C R : Nat) (xs : List Int) (q : Nat) (hl : xs.length = R * C) (hI : I < R) (hq : q < C) :
    ((colTo (rwAt 1 I I t C xs) C xs q).set (I * C + q) (- xs.getD (I * C + q) 0)).set (I * C + q) (- xs.getD (I * C + q) 0) = colTo (rwAt 1 I I t C xs) C xs (q + 1) := by
  refine colTo_two _ I I C R xs q _ _ hl hI hI hq ?_ (fun h => absurd rfl h) fun p h1 h2 => ?_
  · unfold rwAt; rw [if_neg (by decide), if_pos rfl, idx_div hq, if_pos rfl]
  · unfold rwAt; rw [if_neg (by decide), if_pos rfl, if_neg h1]
theorem rw_add (I J : Nat) (t : Int) (C R : Nat) (xs : List Int) (q : Nat) (hl : xs.length = R * C) (hI : I < R) (hJ : J < R) (hq : q < C) (hIJ : I ≠ J) :
    ((colTo (rwAt 2 I J t C xs) C xs q).set (I * C + q) (xs.getD (I * C + q) 0 + xs.getD (J * C + q) 0 * t)).set (J * C + q) (xs.getD (J * C + q) 0) = colTo (rwAt 2 I J t C xs) C xs (q + 1) := by
  refine colTo_two _ I J C R xs q _ _ hl hI hJ hq ?_ (fun _ => ?_) fun p h1 h2 => ?_
  · unfold rwAt; rw [if_neg (by decide), if_neg (by decide), idx_div hq, if_neg (fun h => hIJ h.symm)]
  · unfold rwAt; rw [if_neg (by decide), if_neg (by decide), idx_div hq, idx_mod hq, if_pos rfl]
  · unfold rwAt; rw [if_neg (by decide), if_neg (by decide), if_neg h1]
theorem fitB_num {z : Int} (h : NumP z) : fitB z = z := by unfold fitB; rw [if_pos h]
theorem bad_ne {z : Int} (h : NumP z) : z ≠ badN := by unfold NumP at h; unfold badN; omega
theorem wrap_small {z : Int} (h : -1000000000000000000 ≤ z ∧ z ≤ 1000000000000000000) : wrap64 z = z := IntWalk.wrap64_in _ (by omega)
theorem mulB_num {a b : Int} (ha : NumP a) (hb : NumP b) : mulB a b = fitB (a * b) := by
  unfold mulB
  have := mul_num a b ha hb
  rw [if_neg (fun h => h.elim (bad_ne ha) (bad_ne hb)), wrap_small (by omega)]
theorem addB_num {a b : Int} (ha : NumP a) (hb : NumP b) : addB a b = fitB (a + b) := by
  unfold addB
  obtain ⟨a1, a2⟩ := ha
  obtain ⟨b1, b2⟩ := hb
  rw [if_neg (fun h => h.elim (bad_ne ⟨a1, a2⟩) (bad_ne ⟨b1, b2⟩)), wrap_small (by omega)]
theorem addB_bad (a : Int) : addB a badN = badN := by unfold addB; rw [if_pos (.inr rfl)]
theorem nums_def {xs : List Int} (h : nums xs = true) (p : Nat) : NumP (xs.getD p 0) := by
  rcases Nat.lt_or_ge p xs.length with h1 | h1
  · exact nums_at h h1
  · simp [List.getD, h1, NumP]
theorem opAt_raw (k : Int) (I J : Nat) (t : Int) (C : Nat) (xs : List Int) (p : Nat) (hk : k = 0 ∨ k = 1 ∨ k = 2) (hx : nums xs = true) (ht : NumP t) (hp : k = 2 → p / C = I → NumP (xs.getD (J * C + p % C) 0 * t)) :
    opAt k I J t C xs p = fitB (rwAt k I J t C xs p) := by
  unfold opAt rwAt
  rcases hk with rfl | rfl | rfl
  · rw [if_pos rfl, if_pos rfl, fitB_num]
    by_cases e1 : p / C = I
    · rw [if_pos e1]; exact nums_def hx _
    · rw [if_neg e1]
      by_cases e2 : p / C = J
      · rw [if_pos e2]; exact nums_def hx _
      · rw [if_neg e2]; exact nums_def hx _
  · simp only [show (1 : Int) ≠ 0 by decide, if_false, if_true]
    by_cases e1 : p / C = I
    · rw [if_pos e1, if_pos e1, mulB_num (nums_def hx _) (by decide), Int.mul_neg, Int.mul_one]
    · rw [if_neg e1, if_neg e1, fitB_num (nums_def hx _)]
  · simp only [show (2 : Int) ≠ 0 by decide, show (2 : Int) ≠ 1 by decide, if_false]
    by_cases e1 : p / C = I
    · rw [if_pos e1, if_pos e1, mulB_num (nums_def hx _) ht, fitB_num (hp rfl e1), addB_num (nums_def hx _) (hp rfl e1)]
    · rw [if_neg e1, if_neg e1, fitB_num (nums_def hx _)]
theorem fitB_bad {z : Int} (h : ¬ NumP z) : fitB z = badN := by unfold fitB; rw [if_neg h]
theorem bad_not : ¬ NumP badN := by decide
theorem done_fit (r c : Int) (f g : Nat → Int) (n : Nat) (h : ∀ p, p < n → f p = fitB (g p)) : MR.done r c ((List.range n).map f) = MR.done r c ((List.range n).map g) := by
  by_cases hn : nums ((List.range n).map g) = true
  · have : (List.range n).map f = (List.range n).map g := by
      refine List.map_congr_left fun p hp => ?_
      have hp := List.mem_range.mp hp
      have := nums_at hn (j := p) (by simpa using hp)
      rw [h p hp, fitB_num]
      simpa [List.getD, hp] using this
    rw [this]
  · have hf : nums ((List.range n).map f) = false := by
      rcases Bool.eq_false_or_eq_true (nums ((List.range n).map f)) with hf | hf
      · refine absurd (nums_true fun p hp => ?_) hn
        have hp' : p < n := by simpa using hp
        have := nums_at hf (j := p) (by simpa using hp')
        simp only [List.getD, List.getElem?_map, List.getElem?_range hp', Option.map_some, Option.getD_some] at this ⊢
        by_cases hg : NumP (g p)
        · exact hg
        · rw [h p hp', fitB_bad hg] at this
          exact absurd this bad_not
      · exact hf
    have hg : nums ((List.range n).map g) = false := by simpa using hn
    have e1 : isMat r c ((List.range n).map f) = false := by unfold isMat; rw [hf]; simp
    have e2 : isMat r c ((List.range n).map g) = false := by unfold isMat; rw [hg]; simp
    unfold MR.done
    rw [e1, e2]; rfl
theorem rw_done (k : Int) (I J : Nat) (t : Int) (R C : Nat) (xs : List Int) (hk : k = 0 ∨ k = 1 ∨ k = 2) (hl : xs.length = R * C) (hx : nums xs = true) (ht : NumP t) (hp : prodTo k J t C xs C) :
    MR.done R C (opL k I J t C xs) = MR.done R C (colTo (rwAt k I J t C xs) C xs C) := by
  have hC : xs.length = 0 ∨ 0 < C := by
    rcases Nat.eq_zero_or_pos C with h | h
    · left; rw [hl, h, Nat.mul_zero]
    · exact .inr h
  rw [colTo_all _ _ _ hC]
  unfold opL
  refine done_fit _ _ _ _ _ fun p hp' => opAt_raw k I J t C xs p hk hx ht fun h2 _ => hp h2 _ (Nat.mod_lt p ?_)
  omega
theorem rw_over (I J : Nat) (t : Int) (R C : Nat) (xs : List Int) (q : Nat) (hl : xs.length = R * C) (hI : I < R) (hq : q < C) (hx : nums xs = true) (ht : NumP t) (hb : ¬ NumP (xs.getD (J * C + q) 0 * t)) :
    MR.done R C (opL 2 I J t C xs) = MR.no := by
  have hi : I * C + q < xs.length := by rw [hl]; exact idx_lt hI hq
  have e : (opL 2 I J t C xs).getD (I * C + q) 0 = badN := by
    unfold opL
    simp only [List.getD, List.getElem?_map, List.getElem?_range hi, Option.map_some, Option.getD_some]
    rw [opAt_two _ _ _ _ _ hq, mulB_num (nums_def hx _) ht, fitB_bad hb, addB_bad]
  have e2 : nums (opL 2 I J t C xs) = false := nums_false (j := I * C + q) (by rw [opL_length]; exact hi) (by rw [e]; exact bad_not)
  unfold MR.done isMat
  rw [e2]; simp
end Go.Proofs.Ytpelnfenfeoeeaa
end

section
/-
  Chapter 3, in the program: a matrix that is handed on if it is valid.
-/
namespace Go.Proofs.Ytpelnfenfeoeeaa
open Go.RowKit
set_option maxHeartbeats 400000 in
theorem iDone (r c : Int) (a : Option Addr) (cap : Nat) (zs : List Int) (w : World) (h : Rd w a zs) (hn : zs.length ≤ 16777216) :
    Calls Try.prog 92 #[.agg #[.int .i64 r, .int .i64 c, .slice a zs.length cap]] w (Gives (DoneRes r c (.slice a zs.length cap) (isMat r c zs)) w) := by
  have H := Lib.hid h
  clear h
  go_enter Try.func92, Try.ntmps92
  go_wp2_with fail
  refine (iIsMat r c a cap zs _ (H.out.below (((Below.refl _ _).alloc (Nat.le_refl _) _).alloc (by simp) _)) hn).mono ?_
  rintro e w1 ⟨rfl, hb⟩
  have K0 : Hid (Blk3 w1 w.heap.size 26 (.int .i64 r) (.int .i64 c) (.slice a zs.length cap)) := ((Blk3.at_ _ _ _ _ rfl).old _).keep hb (by simp <;> omega)
  have K1 : Hid (Blk3 w1 (w.heap.size + 1) 26 (.int .i64 0) (.int .i64 0) (.slice none 0 0)) := (Blk3.at_ _ _ _ _ (by simp)).keep hb (by simp)
  have B : Hid (Below w.heap.size w w1) := (((Below.refl _ _).alloc (Nat.le_refl _) _).alloc (by simp) _).trans (hb.mono (by simp <;> omega))
  clear hb
  obtain ⟨c0, c1, c2, -, -, -⟩ := K0.out.all
  obtain ⟨d0, d1, d2, g0, g1, g2⟩ := K1.out.all
  have BB : ∀ x y z, Below w.heap.size w (((w1.setCell ⟨w.heap.size + 1, 0, none⟩ x).setCell ⟨w.heap.size + 1, 1, none⟩ y).setCell ⟨w.heap.size + 1, 2, none⟩ z) := fun x y z =>
    ((B.out.setCell (Nat.le_succ _) _).setCell (Nat.le_succ _) _).setCell (Nat.le_succ _) _
  have BH := Lib.hid BB
  clear BB
  rcases Bool.eq_false_or_eq_true (isMat r c zs) with hm | hm
  · rw [hm]
    have M := Lib.hid hm
    clear hm
    go_wp2_with fail
    obtain ⟨E0, E1, E2, -, -, -⟩ := (((K1.out.set0 (.int .i64 r)).set1 (.int .i64 c)).set2 (.slice a zs.length cap)).all
    exact bodyPost_ret (v := .tuple #[.agg #[.int .i64 r, .int .i64 c, .slice a zs.length cap], .bool true]) (by simp [results, Try.results92, go_sem, E0, E1, E2]) rfl ⟨by rw [M.out]; rfl, BH.out _ _ _⟩
  · rw [hm]
    have M := Lib.hid hm
    clear hm
    go_wp2_with fail
    obtain ⟨E0, E1, E2, -, -, -⟩ := (((K1.out.set0 (.int .i64 0)).set1 (.int .i64 0)).set2 (.slice none 0 0)).all
    exact bodyPost_ret (v := .tuple #[.agg #[.int .i64 0, .int .i64 0, .slice none 0 0], .bool false]) (by simp [results, Try.results92, go_sem, E0, E1, E2]) rfl ⟨by rw [M.out]; rfl, BH.out _ _ _⟩
end Go.Proofs.Ytpelnfenfeoeeaa
end

section
/-
  Chapter 5, in the program: DoRowOp.
-/
namespace Go.Proofs.Ytpelnfenfeoeeaa
set_option maxRecDepth 100000
open Go.RowKit
theorem sevB {W w' : World} {b b' : Nat} {t t' : TypeId} {p q r x y z u : Value} (h0 : Blk3 W b t p q r) (h1 : Blk4 W b' t' x y z u) (hb : Below W.heap.size W w') :
    w'.cell? ⟨b, 0, none⟩ = some p ∧ w'.cell? ⟨b, 1, none⟩ = some q ∧ w'.cell? ⟨b, 2, none⟩ = some r ∧ w'.cell? ⟨b', 0, none⟩ = some x ∧ w'.cell? ⟨b', 1, none⟩ = some y ∧ w'.cell? ⟨b', 2, none⟩ = some z ∧ w'.cell? ⟨b', 3, none⟩ = some u := by
  obtain ⟨a1, a2, a3, -, -, -⟩ := (h0.step hb).all
  obtain ⟨c1, c2, c3, c4⟩ := (h1.step hb).all
  exact ⟨a1, a2, a3, c1, c2, c3, c4⟩
theorem colCells {W w' : World} {b ba oa i j n : Nat} {t : TypeId} {p q r : Value} {xs : List Int} (h0 : Blk3 W b t p q r) (h : Rd W (some ⟨ba, oa, none⟩) xs) (hn : xs.length = n) (hi : i < n) (hj : j < n) (hb : Below W.heap.size W w') :
    w'.cell? ⟨b, 0, none⟩ = some p ∧ w'.cell? ⟨b, 1, none⟩ = some q ∧ w'.cell? ⟨b, 2, none⟩ = some r ∧ w'.cell? ⟨ba, oa + i, none⟩ = some (.int .i64 (xs.getD i 0)) ∧ w'.cell? ⟨ba, oa + j, none⟩ = some (.int .i64 (xs.getD j 0)) := by
  obtain ⟨a1, a2, a3, -, -, -⟩ := (h0.step hb).all
  exact ⟨a1, a2, a3, (h.below hb).cells i (by omega), (h.below hb).cells j (by omega)⟩
end Go.Proofs.Ytpelnfenfeoeeaa
end
