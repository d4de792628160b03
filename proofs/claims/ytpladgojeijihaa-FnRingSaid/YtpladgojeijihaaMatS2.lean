/-
  Chapter 3, in the model: a matrix of zeros, one that is done, CellOf, SameMatrix.
-/
import Derived.Test.YtpladgojeijihaaMatS
import Derived.Test.YtpladgojeijihaaLawMat
namespace Go.Proofs.Ytpladgojeijihaa
open Go.RowKit

theorem makeProd (R C : Nat) (h : R * C ≤ 16777216) (w : World) : (Instr.makeSlice 24 (.int .i64 ((R : Int) * (C : Int))) (.int .i64 ((R : Int) * (C : Int)))).run Try.prog w = .ok (.slice (some ⟨w.heap.size, 0, none⟩) (R * C) (R * C)) (w.alloc (.cells (madeCells #[.int .i64 0] (R * C)) 3)) := by
  rw [← Int.natCast_mul]; exact makeInts (R * C) h w

theorem sNew (R C : Nat) (w : World) (hR : R ≤ 4096) (hC : C ≤ 4096) :
    Calls Try.prog 70 #[.int .i64 R, .int .i64 C] w (NewMat R C (List.replicate (R * C) 0) w) := by
  have hm : R * C ≤ 4096 * 4096 := Nat.mul_le_mul hR hC
  have hmk := makeProd R C (by omega)
  have hp1 : (0 : Int) ≤ (R : Int) * (C : Int) := by rw [← Int.natCast_mul]; omega
  have hp2 : (R : Int) * (C : Int) ≤ 16777216 := by rw [← Int.natCast_mul]; omega
  go_enter Try.func70, Try.ntmps70
  go_wp2_with fail
  refine bodyPost_ret (v := .agg #[.int .i64 R, .int .i64 C, .slice (some ⟨w.heap.size + 1, 0, none⟩) (R * C) (R * C)]) (by simp [results, Try.results70, go_sem]) rfl ⟨w.heap.size + 1, by simp, by omega, ?_, ?_⟩
  · exact Ints.made _ (by simp)
  · exact ((Below.refl _ _).alloc (Nat.le_refl _) _).alloc (by simp) _

/-- A matrix that is handed on if it is valid. -/
def DoneRes (r c : Int) (v : Value) (ok : Bool) : Value := if ok = true then .tuple #[.agg #[.int .i64 r, .int .i64 c, v], .bool true] else .tuple #[.agg #[.int .i64 0, .int .i64 0, .slice none 0 0], .bool false]

set_option maxHeartbeats 400000 in
theorem sDone (r c : Int) (a : Option Addr) (cap : Nat) (zs : List Int) (w : World) (h : Rd w a zs) (hn : zs.length ≤ 16777216) :
    Calls Try.prog 60 #[.agg #[.int .i64 r, .int .i64 c, .slice a zs.length cap]] w (Gives (DoneRes r c (.slice a zs.length cap) (isMat r c zs)) w) := by
  have H := Lib.hid h
  clear h
  go_enter Try.func60, Try.ntmps60
  go_wp2_with fail
  refine (sIsMat r c a cap zs _ (H.out.below (((Below.refl _ _).alloc (Nat.le_refl _) _).alloc (by simp) _)) hn).mono ?_
  rintro e w1 ⟨rfl, hb⟩
  have K0 : Hid (Blk3 w1 w.heap.size 26 (.int .i64 r) (.int .i64 c) (.slice a zs.length cap)) := ((Blk3.at_ _ _ _ _ rfl).old _).keep hb (by simp <;> omega)
  have K1 : Hid (Blk3 w1 (w.heap.size + 1) 26 (.int .i64 0) (.int .i64 0) (.slice none 0 0)) := (Blk3.at_ _ _ _ _ (by simp)).keep hb (by simp)
  have B : Hid (Below w.heap.size w w1) := (((Below.refl _ _).alloc (Nat.le_refl _) _).alloc (by simp) _).trans (hb.mono (by simp <;> omega))
  clear hb
  obtain ⟨c0, c1, c2, -, -, -⟩ := K0.out.all
  obtain ⟨d0, d1, d2, g0, g1, g2⟩ := K1.out.all
  have BB : ∀ x y z, Below w.heap.size w (((w1.setCell ⟨w.heap.size + 1, 0, none⟩ x).setCell ⟨w.heap.size + 1, 1, none⟩ y).setCell ⟨w.heap.size + 1, 2, none⟩ z) := fun x y z =>
    ((B.out.setCell (Nat.le_succ _) _).setCell (Nat.le_succ _) _).setCell (Nat.le_succ _) _
  have BH := Lib.hid BB
  clear BB
  rcases Bool.eq_false_or_eq_true (isMat r c zs) with hm | hm
  · rw [hm]
    have M := Lib.hid hm
    clear hm
    go_wp2_with fail
    obtain ⟨E0, E1, E2, -, -, -⟩ := (((K1.out.set0 (.int .i64 r)).set1 (.int .i64 c)).set2 (.slice a zs.length cap)).all
    exact bodyPost_ret (v := .tuple #[.agg #[.int .i64 r, .int .i64 c, .slice a zs.length cap], .bool true]) (by simp [results, Try.results60, go_sem, E0, E1, E2]) rfl ⟨by rw [M.out]; rfl, BH.out _ _ _⟩
  · rw [hm]
    have M := Lib.hid hm
    clear hm
    go_wp2_with fail
    obtain ⟨E0, E1, E2, -, -, -⟩ := (((K1.out.set0 (.int .i64 0)).set1 (.int .i64 0)).set2 (.slice none 0 0)).all
    exact bodyPost_ret (v := .tuple #[.agg #[.int .i64 0, .int .i64 0, .slice none 0 0], .bool false]) (by simp [results, Try.results60, go_sem, E0, E1, E2]) rfl ⟨by rw [M.out]; rfl, BH.out _ _ _⟩

/-- CellOf. -/
def cellOf (r c : Int) (zs : List Int) (i j : Int) : Int := if (isMat r c zs && decide (0 ≤ i ∧ i ≤ r - 1) && decide (0 ≤ j ∧ j ≤ c - 1)) = true then zs.getD (i * c + j).toNat 0 else 0

set_option maxHeartbeats 400000 in
theorem sCellOf (r c : Int) (a : Option Addr) (cap : Nat) (zs : List Int) (i j : Int) (w : World) (h : Rd w a zs) (hn : zs.length ≤ 16777216) :
    Calls Try.prog 34 #[.agg #[.int .i64 r, .int .i64 c, .slice a zs.length cap], .int .i64 i, .int .i64 j] w (Gives (.int .i64 (cellOf r c zs i j)) w) := by
  have H := Lib.hid h
  clear h
  have start : Calls Try.prog 26 #[.agg #[.int .i64 r, .int .i64 c, .slice a zs.length cap]] (w.alloc (.cells #[.int .i64 r, .int .i64 c, .slice a zs.length cap] 26)) (Gives (.bool (isMat r c zs)) _) :=
    sIsMat r c a cap zs _ (H.out.below ((Below.refl _ _).alloc (Nat.le_refl _) _)) hn
  have ST := Lib.hid start
  clear start
  rcases Bool.eq_false_or_eq_true (isMat r c zs) with hm | hm
  · obtain ⟨hr, hc, hl, hnum⟩ := isMat_says hm
    by_cases hi : 0 ≤ i ∧ i ≤ r - 1
    · by_cases hj : 0 ≤ j ∧ j ≤ c - 1
      · -- the cell
        have p1 := mul_size i c (by omega) hc
        have p2 : i * c + j < r * c := by
          have : i * c + c ≤ r * c := by
            have := Int.mul_le_mul_of_nonneg_right (show i + 1 ≤ r by omega) (show 0 ≤ c by omega)
            rw [Int.add_mul, Int.one_mul] at this; exact this
          omega
        obtain ⟨k, hk⟩ := Int.eq_ofNat_of_zero_le (show 0 ≤ i * c + j by omega)
        have hkn : k < zs.length := by omega
        have E : Hid (cellOf r c zs i j = zs.getD k 0) := by
          show cellOf r c zs i j = _
          unfold cellOf
          rw [hm, decide_eq_true hi, decide_eq_true hj, hk]; rfl
        have HK := Lib.hid hk
        obtain ⟨p3, p4⟩ := p1
        obtain ⟨z, hz⟩ : ∃ z, zs.getD k 0 = z := ⟨_, rfl⟩
        have Z := Lib.hid hz
        have kn : (k : Int) < zs.length := by omega
        have p5 : 0 ≤ i * c + j := by omega
        have p6 : i * c + j ≤ 600 := by omega
        have M := Lib.hid hm
        have kt : (i * c + j).toNat = k := by omega
        have p7 : i * c + j < (zs.length : Int) := by omega
        clear hk hz hm hl hnum p2
        go_enter Try.func34, Try.ntmps34
        go_wp2_with fail
        refine (ST.out).mono ?_
        rintro e w1 ⟨rfl, hb⟩
        have K0 : Hid (Blk3 w1 w.heap.size 26 (.int .i64 r) (.int .i64 c) (.slice a zs.length cap)) := (Blk3.at_ _ _ _ _ rfl).keep hb (by simp)
        have B : Hid (Below w.heap.size w w1) := ((Below.refl _ _).alloc (Nat.le_refl _) _).trans (hb.mono (by simp))
        clear hb
        obtain ⟨c0, c1, c2, -, -, -⟩ := K0.out.all
        obtain ⟨b, o, rfl, hcell⟩ := (H.out.below B.out) k hkn
        rw [Z.out] at hcell
        rw [M.out]
        go_wp2_with (go_at_call 64; refine (sIn_t _ _ _ _ (by omega) (by omega)).mono ?_; rintro e w' ⟨rfl, rfl⟩)
        go_ret
        exact ⟨by rw [E.out, Z.out]; rfl, B.out⟩
      · have E : Hid (cellOf r c zs i j = 0) := by
          show cellOf r c zs i j = _
          unfold cellOf
          rw [hm, decide_eq_false hj]; simp
        have M := Lib.hid hm
        have hj' : j < 0 ∨ c - 1 < j := by omega
        clear hm hl hnum hj
        go_enter Try.func34, Try.ntmps34
        go_wp2_with fail
        refine (ST.out).mono ?_
        rintro e w1 ⟨rfl, hb⟩
        have K0 : Hid (Blk3 w1 w.heap.size 26 (.int .i64 r) (.int .i64 c) (.slice a zs.length cap)) := (Blk3.at_ _ _ _ _ rfl).keep hb (by simp)
        have B : Hid (Below w.heap.size w w1) := ((Below.refl _ _).alloc (Nat.le_refl _) _).trans (hb.mono (by simp))
        clear hb
        obtain ⟨c0, c1, c2, -, -, -⟩ := K0.out.all
        rw [M.out]
        go_wp2_with fail
        refine (sIn_t i 0 (r - 1) _ hi.1 hi.2).mono ?_
        rintro e w' ⟨rfl, rfl⟩
        go_wp2_with fail
        refine (sIn_f j 0 (c - 1) _ hj').mono ?_
        rintro e w' ⟨rfl, rfl⟩
        go_wp2_with fail
        go_ret
        exact ⟨by rw [E.out]; rfl, B.out⟩
    · have E : Hid (cellOf r c zs i j = 0) := by
        show cellOf r c zs i j = _
        unfold cellOf
        rw [hm, decide_eq_false hi]; simp
      have M := Lib.hid hm
      have hi' : i < 0 ∨ r - 1 < i := by omega
      clear hm hl hnum hi
      go_enter Try.func34, Try.ntmps34
      go_wp2_with fail
      refine (ST.out).mono ?_
      rintro e w1 ⟨rfl, hb⟩
      have K0 : Hid (Blk3 w1 w.heap.size 26 (.int .i64 r) (.int .i64 c) (.slice a zs.length cap)) := (Blk3.at_ _ _ _ _ rfl).keep hb (by simp)
      have B : Hid (Below w.heap.size w w1) := ((Below.refl _ _).alloc (Nat.le_refl _) _).trans (hb.mono (by simp))
      clear hb
      obtain ⟨c0, c1, c2, -, -, -⟩ := K0.out.all
      rw [M.out]
      go_wp2_with fail
      refine (sIn_f i 0 (r - 1) _ hi').mono ?_
      rintro e w' ⟨rfl, rfl⟩
      go_wp2_with fail
      go_ret
      exact ⟨by rw [E.out]; rfl, B.out⟩
  · have E : Hid (cellOf r c zs i j = 0) := by
      show cellOf r c zs i j = _
      unfold cellOf
      rw [hm]; simp
    have M := Lib.hid hm
    clear hm
    go_enter Try.func34, Try.ntmps34
    go_wp2_with fail
    refine (ST.out).mono ?_
    rintro e w1 ⟨rfl, hb⟩
    have K0 : Hid (Blk3 w1 w.heap.size 26 (.int .i64 r) (.int .i64 c) (.slice a zs.length cap)) := (Blk3.at_ _ _ _ _ rfl).keep hb (by simp)
    have B : Hid (Below w.heap.size w w1) := ((Below.refl _ _).alloc (Nat.le_refl _) _).trans (hb.mono (by simp))
    clear hb
    obtain ⟨c0, c1, c2, -, -, -⟩ := K0.out.all
    rw [M.out]
    go_wp2_with fail
    go_ret
    exact ⟨by rw [E.out]; rfl, B.out⟩

/-- SameMatrix. -/
def sameM (r c : Int) (xs : List Int) (r' c' : Int) (ys : List Int) : Bool := decide (r = r' ∧ c = c' ∧ xs = ys)
theorem list_ne {xs ys : List Int} {k : Nat} (h : xs.getD k 0 ≠ ys.getD k 0) : xs ≠ ys := fun e => h (by rw [e])
theorem list_eq {xs ys : List Int} {n : Nat} (hx : xs.length = n) (hy : ys.length = n) (h : ∀ j : Nat, j < n → xs.getD j 0 = ys.getD j 0) : xs = ys := by
  apply List.ext_getElem (by omega)
  intro i h1 h2
  have := h i (by omega)
  simpa [List.getD, h1, h2] using this

set_option maxHeartbeats 400000 in
theorem sSame (r c r' c' : Int) (a b : Option Addr) (m n : Nat) (xs ys : List Int) (w : World) (h : Rd w a xs) (h' : Rd w b ys) (hn : xs.length ≤ 16777216) :
    Calls Try.prog 22 #[.agg #[.int .i64 r, .int .i64 c, .slice a xs.length m], .agg #[.int .i64 r', .int .i64 c', .slice b ys.length n]] w (Gives (.bool (sameM r c xs r' c' ys)) w) := by
  have B0 : ∀ o1 o2, Below w.heap.size w ((w.alloc o1).alloc o2) := fun o1 o2 => ((Below.refl _ _).alloc (Nat.le_refl _) _).alloc (by simp) _
  have BH := Lib.hid B0
  clear B0
  have H := Lib.hid h
  have H' := Lib.hid h'
  clear h h'
  by_cases e1 : r = r'
  · by_cases e2 : c = c'
    · by_cases e3 : xs.length = ys.length
      · subst e1 e2
        obtain ⟨k0, hk0⟩ : ∃ k0, xs.length = k0 := ⟨_, rfl⟩
        have HX := Lib.hid hk0
        have HY : Hid (ys.length = k0) := e3.symm.trans hk0
        rw [← e3, hk0]
        rw [hk0] at hn
        clear e3 hk0
        go_enter Try.func22, Try.ntmps22
        go_wp2_with fail
        go_loopw [5] (fun i wr => ∃ k : Nat, i = .int .i64 k ∧ k ≤ k0 ∧ (∀ j : Nat, j < k → xs.getD j 0 = ys.getD j 0) ∧ ∃ q, wr = ((w.alloc (.cells #[.int .i64 r, .int .i64 c, .slice a k0 m] 26)).alloc (.cells #[.int .i64 r, .int .i64 c, .slice b k0 n] 26)).drewN q) (fun i _ => k0 - (intOf i).toNat)
        case atStart => exact ⟨0, rfl, by omega, fun j hj => absurd hj (by omega), 0, rfl⟩
        case round =>
          obtain ⟨k, rfl, hk, hall, q, rfl⟩ := hrel
          have HA := Lib.hid hall
          clear hall
          by_cases hlt : k < k0
          · obtain ⟨b1, o1, rfl, hc1⟩ := (H.out.below (BH.out (.cells #[.int .i64 r, .int .i64 c, .slice a k0 m] 26) (.cells #[.int .i64 r, .int .i64 c, .slice b k0 n] 26))) k (by rw [HX.out]; exact hlt)
            obtain ⟨b2, o2, rfl, hc2⟩ := (H'.out.below (BH.out (.cells #[.int .i64 r, .int .i64 c, .slice (some ⟨b1, o1, none⟩) k0 m] 26) (.cells #[.int .i64 r, .int .i64 c, .slice b k0 n] 26))) k (by rw [HY.out]; exact hlt)
            obtain ⟨x, hx⟩ : ∃ x, xs.getD k 0 = x := ⟨_, rfl⟩
            obtain ⟨y, hy⟩ : ∃ y, ys.getD k 0 = y := ⟨_, rfl⟩
            rw [hx] at hc1
            rw [hy] at hc2
            have X := Lib.hid hx
            have Y := Lib.hid hy
            clear hx hy
            by_cases hxy : x = y
            · subst hxy
              go_wp2_with fail
              go_quiet (fail)
              go_wp2_with fail
              go_roundw
              case rel =>
                refine ⟨k + 1, by go_num, by omega, fun j hj => ?_, _, rfl⟩
                rcases Nat.lt_or_ge j k with h1 | h1
                · exact HA.out j h1
                · obtain rfl : j = k := by omega
                  rw [X.out, Y.out]
              case measure => simp [intOf]; omega
            · have E : Hid (sameM r c xs r c ys = false) := decide_eq_false (fun t => hxy (by rw [← X.out, ← Y.out, t.2.2]))
              have n1 : (x != y) = true := by simpa using hxy
              have n2 : (x == y) = false := by simpa using hxy
              clear hxy
              go_wp2_with fail
              go_quiet (fail)
              go_wp2_with fail
              go_ret
              exact ⟨by rw [E.out]; rfl, below_drewN (below_drewN (BH.out _ _) _) _⟩
          · have hkn : k = k0 := by omega
            subst hkn
            have E : Hid (sameM r c xs r c ys = true) := decide_eq_true ⟨rfl, rfl, list_eq HX.out HY.out HA.out⟩
            go_wp2_with fail
            go_ret
            exact ⟨by rw [E.out]; rfl, below_drewN (BH.out _ _) _⟩
      · have E : Hid (sameM r c xs r' c' ys = false) := decide_eq_false (fun t => e3 (by rw [t.2.2]))
        subst e1 e2
        obtain ⟨k0, hk0⟩ : ∃ k0, xs.length = k0 := ⟨_, rfl⟩
        obtain ⟨k1, hk1⟩ : ∃ k1, ys.length = k1 := ⟨_, rfl⟩
        rw [hk0, hk1] at e3
        rw [hk0] at hn ⊢
        rw [hk1]
        have n1 : (k0 == k1) = false := by simpa using e3
        have n2 : (k0 != k1) = true := by simpa using e3
        have n3 : ((k0 : Int) == (k1 : Int)) = false := by simp; omega
        have n4 : ((k0 : Int) != (k1 : Int)) = true := by simp; omega
        clear e3 hk0 hk1
        go_enter Try.func22, Try.ntmps22
        go_wp2_with fail
        go_ret
        exact ⟨by rw [E.out]; rfl, BH.out _ _⟩
    · have E : Hid (sameM r c xs r' c' ys = false) := decide_eq_false (fun t => e2 t.2.1)
      subst e1
      have n1 : (c == c') = false := by simpa using e2
      have n2 : (c != c') = true := by simpa using e2
      clear e2
      go_enter Try.func22, Try.ntmps22
      go_wp2_with fail
      go_ret
      exact ⟨by rw [E.out]; rfl, BH.out _ _⟩
  · have E : Hid (sameM r c xs r' c' ys = false) := decide_eq_false (fun t => e1 t.1)
    have n1 : (r == r') = false := by simpa using e1
    have n2 : (r != r') = true := by simpa using e1
    clear e1
    go_enter Try.func22, Try.ntmps22
    go_wp2_with fail
    go_ret
    exact ⟨by rw [E.out]; rfl, BH.out _ _⟩
end Go.Proofs.Ytpladgojeijihaa
