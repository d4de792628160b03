/-
  Texts of this seat, joined: SvRi · SvRep · RqX · SqI
-/
import Derived.BigQuiet
import Derived.Deep.QuietTactic
import Derived.IntWalk
import Derived.Test.YtcapddcmnjeloaaPk1
import Derived.Test.YtcapddcmnjeloaaPk3
import Derived.Test.YtcapddcmnjeloaaPk4
import Derived.Test.YtcapddcmnjeloaaPk5
import Derived.Test.YtcapddcmnjeloaaPk8
import Derived.Test.YtcapddcmnjeloaaPk13

section
/-
  Chapter 11, in the model: what the functions that solve ask of their arguments.
-/
namespace Go.Proofs.Ytcapddcmnjeloaa
set_option maxRecDepth 100000
open Go.RowKit

set_option maxHeartbeats 2000000 in
theorem sRight (r c : Int) (a : Option Addr) (m : Nat) (xs : List Int) (ab : Option Addr) (mb : Nat) (bs : List Int) (w : World) (h : Rd w a xs) (hn : xs.length ≤ 16777216) (hb : Rd w ab bs) (hbn : bs.length ≤ 16777216) :
    Calls Try.prog 69 #[.agg #[.int .i64 r, .int .i64 c, .slice a xs.length m], .slice ab bs.length mb] w (Gives (.bool (sysB r c xs bs)) w) := by
  have SQ : Hid (∀ w', Below w.heap.size w w' → Calls Try.prog 101 #[.agg #[.int .i64 r, .int .i64 c, .slice a xs.length m]] w' (Gives (.bool (isSq r c xs)) w')) := fun w' hb => sIsSq r c a m xs w' (h.below hb) hn
  have K0 : Hid (Blk3 (w.alloc (.cells #[.int .i64 r, .int .i64 c, .slice a xs.length m] 26)) w.heap.size 26 (.int .i64 r) (.int .i64 c) (.slice a xs.length m)) := Blk3.at_ _ _ _ _ rfl
  have B0 : Hid (Below w.heap.size w (w.alloc (.cells #[.int .i64 r, .int .i64 c, .slice a xs.length m] 26))) := (Below.refl _ _).alloc (Nat.le_refl _) _
  have V1 : Hid (∀ j, j < bs.length → ¬ NumP (bs.getD j 0) → sysB r c xs bs = false) := fun j hj h => sysB_false (.inr (.inr (nums_bad hj h)))
  have V2 : Hid (isSq r c xs = false → sysB r c xs bs = false) := fun h => sysB_false (.inl h)
  have V3 : Hid ((bs.length : Int) ≠ r → sysB r c xs bs = false) := fun h => sysB_false (.inr (.inl h))
  have V4 : Hid (isSq r c xs = true → (bs.length : Int) = r → (∀ j, j < bs.length → NumP (bs.getD j 0)) → sysB r c xs bs = true) := fun h1 h2 h3 => sysB_true h1 h2 (nums_all h3)
  have RB : Hid (Rd w ab bs) := hb
  generalize sysB r c xs bs = bb at V1 V2 V3 V4 ⊢
  generalize xs.length = L at SQ K0 B0 hn ⊢
  obtain ⟨Lb, hLb⟩ : ∃ Lb, bs.length = Lb := ⟨_, rfl⟩
  rw [hLb] at V1 V3 V4 hbn ⊢
  have XB := Lib.hid hLb
  clear h hb hLb
  go_enter Try.func69, Try.ntmps69
  go_wp2_with fail
  have S0 := B0.out.size
  generalize w.alloc (.cells #[.int .i64 r, .int .i64 c, .slice a L m] 26) = W at K0 B0 S0 ⊢
  go_loopw [5] (fun v5 wr => ∃ j : Nat, v5 = .int .i64 j ∧ j ≤ Lb ∧ (∀ k, k < j → NumP (bs.getD k 0)) ∧ wr = W) (fun v5 _ => Lb - (intOf v5).toNat)
  case atStart => exact ⟨0, rfl, by omega, fun k hk => by omega, by first | rfl | trivial⟩
  case round =>
    obtain ⟨j, rfl, hj, hk, rfl⟩ := hrel
    have HK := Lib.hid hk
    clear hk
    by_cases hjl : j < Lb
    · obtain ⟨b1, o1, rfl, hc1⟩ := (RB.out.below B0.out) j (by rw [XB.out]; exact hjl)
      have VJ := Lib.hid (V1.out j hjl)
      obtain ⟨x, hx⟩ : ∃ x, bs.getD j 0 = x := ⟨_, rfl⟩
      have X := Lib.hid hx
      rw [hx] at hc1 VJ
      clear hx
      have jl1 : (j : Int) < (Lb : Int) := by omega
      by_cases hxn : NumP x
      · have HK2 : Hid (∀ k, k < j + 1 → NumP (bs.getD k 0)) := fun k hk => by
          rcases Nat.lt_or_ge k j with h3 | h3
          · exact HK.out k h3
          · obtain rfl : k = j := by omega
            rw [X.out]; exact hxn
        go_wp2_with fail
        refine (sIsNum_t x _ hxn.1 hxn.2).mono ?_
        rintro e w' ⟨rfl, rfl⟩
        go_wp2_with fail
        go_roundw
        case rel => exact ⟨j + 1, by go_num, by omega, HK2.out, by first | rfl | trivial⟩
        case measure => simp [intOf]; omega
      · have V := Lib.hid (VJ.out hxn)
        have hx' : x < -400000000 ∨ 400000000 < x := by unfold NumP at hxn; omega
        clear hxn
        go_wp2_with fail
        refine (sIsNum_f x _ hx').mono ?_
        rintro e w' ⟨rfl, rfl⟩
        go_wp2_with fail
        go_ret
        exact ⟨by rw [V.out]; rfl, B0.out⟩
    · obtain rfl : j = Lb := by omega
      obtain ⟨p0, p1, p2, -, -, -⟩ := K0.out.all
      go_wp2_with fail
      refine (SQ.out _ B0.out).mono ?_
      rintro e w2 ⟨rfl, hb2⟩
      have K2 := Lib.hid (K0.out.step hb2)
      have B2 := Lib.hid (B0.out.trans (hb2.mono B0.out.size))
      obtain ⟨q0, q1, q2, -, -, -⟩ := K2.out.all
      clear hb2
      generalize isSq r c xs = sq at V2 V4 ⊢
      cases sq with
      | false =>
        have V := Lib.hid (V2.out rfl)
        go_wp2_with fail
        go_ret
        exact ⟨by rw [V.out]; rfl, B2.out⟩
      | true =>
        by_cases e : (j : Int) = r
        · have V := Lib.hid (V4.out rfl e HK.out)
          have n1 : ((j : Int) == r) = true := by simpa using e
          go_wp2_with fail
          go_ret
          exact ⟨by rw [V.out]; rfl, B2.out⟩
        · have V := Lib.hid (V3.out e)
          have n1 : ((j : Int) == r) = false := by simpa using e
          go_wp2_with fail
          go_ret
          exact ⟨by rw [V.out]; rfl, B2.out⟩
end Go.Proofs.Ytcapddcmnjeloaa
end

section
/-
  Chapter 11, in the model: a column replaced.
-/
namespace Go.Proofs.Ytcapddcmnjeloaa
set_option maxRecDepth 100000
open Go.RowKit

/-- The first rows' cells of the column are replaced. -/
def rcTo (n : Nat) (xs bs : List Int) (j i : Nat) : List Int := tab n n fun p q => if q = j ∧ p < i then bs.getD p 0 else xs.getD (p * n + q) 0
theorem rcTo_length (n : Nat) (xs bs : List Int) (j i : Nat) : (rcTo n xs bs j i).length = n * n := tab_length _ _ _
theorem rcTo_zero {n : Nat} {xs : List Int} (hx : xs.length = n * n) (bs : List Int) (j : Nat) : rcTo n xs bs j 0 = xs := by
  refine (tab_ext hx fun p q _ _ => ?_).symm
  rw [if_neg (fun h => by omega)]
theorem rcTo_all (n : Nat) (xs bs : List Int) (j : Nat) : rcTo n xs bs j n = rcL n xs bs j := by
  unfold rcTo rcL
  refine tab_ext (tab_length _ _ _) fun p q hp hq => ?_
  rw [tab_at _ _ _ hp hq]
  by_cases h : q = j
  · rw [if_pos h, if_pos ⟨h, hp⟩]
  · rw [if_neg h, if_neg (fun e => h e.1)]
theorem rcTo_step {n i j : Nat} (xs bs : List Int) (hi : i < n) (hj : j < n) : (rcTo n xs bs j i).set (i * n + j) (bs.getD i 0) = rcTo n xs bs j (i + 1) := set_tab hi hj (by show (if j = j ∧ i < i + 1 then _ else _) = _; rw [if_pos ⟨rfl, by omega⟩]) fun p q _ _ h => by
  by_cases e : q = j ∧ p < i
  · rw [if_pos e, if_pos ⟨e.1, by omega⟩]
  · rw [if_neg e, if_neg fun h2 => by
      rcases Nat.lt_or_ge p i with h3 | h3
      · exact e ⟨h2.1, h3⟩
      · exact h ⟨by omega, h2.1⟩]
/-- The cells that one store's operands read. -/
theorem repF {W w' : World} {b g : Nat} {t t2 : TypeId} {p q r s1 s2 s3 v : Value} {x : Addr} (h0 : Blk3 W b t p q r) (h1 : Blk3 W g t2 s1 s2 s3) (hx : W.cell? x = some v) (hb : Below W.heap.size W w') :
    w'.cell? ⟨b, 0, none⟩ = some p ∧ w'.cell? ⟨b, 1, none⟩ = some q ∧ w'.cell? ⟨b, 2, none⟩ = some r ∧ w'.cell? ⟨g, 0, none⟩ = some s1 ∧ w'.cell? ⟨g, 1, none⟩ = some s2 ∧ w'.cell? ⟨g, 2, none⟩ = some s3 ∧ w'.cell? x = some v := by
  obtain ⟨a1, a2, a3, -, -, -⟩ := (h0.step hb).all
  obtain ⟨b1, b2, b3, -, -, -⟩ := (h1.step hb).all
  exact ⟨a1, a2, a3, b1, b2, b3, (hb.cell (World.block_lt_of_cell? W x hx)).trans hx⟩
set_option maxHeartbeats 4000000 in
theorem sRepl (n j : Nat) (a : Option Addr) (m : Nat) (xs : List Int) (ab : Option Addr) (mb : Nat) (bs : List Int) (w : World) (h : Rd w a xs) (ha : Spot a) (hx : xs.length = n * n) (hb : Rd w ab bs) (hbl : bs.length = n) (hj : j < n) (h6 : n ≤ 6) :
    Calls Try.prog 70 #[.agg #[.int .i64 n, .int .i64 n, .slice a (n * n) m], .int .i64 j, .slice ab n mb] w fun e w' => ∃ g cap : Nat, e = .returned (.agg #[.int .i64 n, .int .i64 n, .slice (some ⟨g, 0, none⟩) (n * n) cap]) ∧ w.heap.size ≤ g ∧ Ints w' g (rcL n xs bs j) ∧ Below w.heap.size w w' := by
  have N36 : n * n ≤ 36 := Nat.mul_le_mul h6 h6
  have CP : Hid (∀ w', Below w.heap.size w w' → Calls Try.prog 87 #[.agg #[.int .i64 n, .int .i64 n, .slice a (n * n) m]] w' (fun e w2 => ∃ g cap : Nat, e = .returned (.agg #[.int .i64 n, .int .i64 n, .slice (some ⟨g, 0, none⟩) (n * n) cap]) ∧ w'.heap.size ≤ g ∧ IntsC w2 g cap xs ∧ Below w'.heap.size w' w2)) := fun w' hb => sCopyA n n a m (n * n) xs w' (h.below hb) ha hx (by omega)
  have IY : Hid (∀ i, i < n → i * n + j < n * n ∧ IntKind.i64.wrap ((i : Int) * (n : Int)) = (i : Int) * (n : Int) ∧ IntKind.i64.wrap ((i : Int) * (n : Int) + (j : Int)) = ((i * n + j : Nat) : Int)) := fun i hi => by
    have h1 : i * n + j < n * n := idx_lt hi hj
    have c1 : (i : Int) * (n : Int) = ((i * n : Nat) : Int) := (Int.natCast_mul _ _).symm
    refine ⟨by omega, IntWalk.i64_in _ (by rw [c1]; omega), ?_⟩
    rw [show (i : Int) * (n : Int) + (j : Int) = ((i * n + j : Nat) : Int) by rw [c1]; omega]
    exact IntWalk.i64_in _ (by omega)
  have R0 : Hid (rcTo n xs bs j 0 = xs) := rcTo_zero hx bs j
  have RA := Lib.hid (rcTo_all n xs bs j)
  have RS : Hid (∀ i, i < n → (rcTo n xs bs j i).set (i * n + j) (bs.getD i 0) = rcTo n xs bs j (i + 1)) := fun i hi => rcTo_step xs bs hi hj
  have RL : Hid (∀ i, (rcTo n xs bs j i).length = n * n) := fun i => rcTo_length n xs bs j i
  have RB : Hid (Rd w ab bs) := hb
  have XB := Lib.hid hbl
  obtain ⟨N, hN⟩ : ∃ N, n * n = N := ⟨_, rfl⟩
  rw [hN] at CP IY RL N36 ⊢
  clear h hb hx hbl hN
  go_enter Try.func70, Try.ntmps70
  go_wp2_with fail
  have K3 : Hid (Blk3 ((w.alloc (.cells #[.int .i64 n, .int .i64 n, .slice a N m] 26)).alloc (.cells #[.int .i64 0, .int .i64 0, .slice none 0 0] 26)) w.heap.size 26 (.int .i64 n) (.int .i64 n) (.slice a N m)) := (Blk3.at_ _ _ _ _ rfl).old _
  have K6 : Hid (Blk3 ((w.alloc (.cells #[.int .i64 n, .int .i64 n, .slice a N m] 26)).alloc (.cells #[.int .i64 0, .int .i64 0, .slice none 0 0] 26)) (w.heap.size + 1) 26 (.int .i64 0) (.int .i64 0) (.slice none 0 0)) := Blk3.at_ _ _ _ _ (by simp)
  have B0 : Hid (Below w.heap.size w ((w.alloc (.cells #[.int .i64 n, .int .i64 n, .slice a N m] 26)).alloc (.cells #[.int .i64 0, .int .i64 0, .slice none 0 0] 26))) := ((Below.refl _ _).alloc (Nat.le_refl _) _).alloc (by simp) _
  generalize (w.alloc (.cells #[.int .i64 n, .int .i64 n, .slice a N m] 26)).alloc (.cells #[.int .i64 0, .int .i64 0, .slice none 0 0] 26) = W at K3 K6 B0 ⊢
  refine (CP.out _ B0.out).mono ?_
  rintro e w1 ⟨g, cap, rfl, hg, hi, hb1⟩
  have l3 := K3.out.lt
  have l6 := K6.out.lt
  have lg := hi.ints.lt
  have I1 : Hid (Ints (w1.alloc (.cells #[.int .i64 n, .int .i64 n, .slice (some ⟨g, 0, none⟩) N cap] 26)) g (rcTo n xs bs j 0)) := by refine Lib.hid ?_; rw [R0.out]; exact hi.ints.move (Below.heap_alloc _ _ _ lg)
  have K3 := Lib.hid ((K3.out.step hb1).old (.cells #[.int .i64 n, .int .i64 n, .slice (some ⟨g, 0, none⟩) N cap] 26))
  have K6 := Lib.hid ((K6.out.step hb1).old (.cells #[.int .i64 n, .int .i64 n, .slice (some ⟨g, 0, none⟩) N cap] 26))
  have K7 : Hid (Blk3 (w1.alloc (.cells #[.int .i64 n, .int .i64 n, .slice (some ⟨g, 0, none⟩) N cap] 26)) w1.heap.size 26 (.int .i64 n) (.int .i64 n) (.slice (some ⟨g, 0, none⟩) N cap)) := Blk3.at_ _ _ _ _ rfl
  have s1 := hb1.size
  have B1 := Lib.hid ((B0.out.trans (hb1.mono B0.out.size)).alloc (by have := B0.out.size; omega) (.cells #[.int .i64 n, .int .i64 n, .slice (some ⟨g, 0, none⟩) N cap] 26))
  have sW := B0.out.size
  clear hi hb1 B0
  obtain ⟨b7, hb7⟩ : ∃ b7, w1.heap.size = b7 := ⟨_, rfl⟩
  have n7 : b7 ≠ g := by omega
  have n3 : w.heap.size ≠ g := by omega
  have n6 : w.heap.size + 1 ≠ g := by omega
  go_wp2_with fail
  rw [hb7] at K7
  generalize w1.alloc (.cells #[.int .i64 n, .int .i64 n, .slice (some ⟨g, 0, none⟩) N cap] 26) = W1 at I1 K3 K6 K7 B1 ⊢
  clear hb7 l3 l6 s1
  go_loopw [8] (fun v8 wr => ∃ i : Nat, v8 = .int .i64 i ∧ i ≤ n ∧ Ints wr g (rcTo n xs bs j i) ∧ Blk3 wr w.heap.size 26 (.int .i64 n) (.int .i64 n) (.slice a N m) ∧ Blk3 wr (w.heap.size + 1) 26 (.int .i64 0) (.int .i64 0) (.slice none 0 0) ∧ Blk3 wr b7 26 (.int .i64 n) (.int .i64 n) (.slice (some ⟨g, 0, none⟩) N cap) ∧ Below w.heap.size w wr) (fun v8 _ => n - (intOf v8).toNat)
  case atStart => exact ⟨0, rfl, by omega, I1.out, K3.out, K6.out, K7.out, B1.out⟩
  case round =>
    clear I1 K3 K6 K7 B1
    obtain ⟨i, rfl, hi, hI, h3, h6', h7, hB⟩ := hrel
    have I := Lib.hid hI
    have K3 := Lib.hid h3
    have K6 := Lib.hid h6'
    have K7 := Lib.hid h7
    have BO := Lib.hid hB
    clear hI h3 h6' h7 hB
    obtain ⟨p0, p1, p2, -, -, -⟩ := K3.out.all
    by_cases hlt : i < n
    · obtain ⟨x1, x2, x3⟩ := IY.out i hlt
      obtain ⟨b2, o2, rfl, hc2⟩ := (RB.out.below BO.out) i (by rw [XB.out]; exact hlt)
      have SS := Lib.hid (RS.out i hlt)
      obtain ⟨x, hxx⟩ : ∃ x, bs.getD i 0 = x := ⟨_, rfl⟩
      obtain ⟨P, hP⟩ : ∃ P, i * n + j = P := ⟨_, rfl⟩
      rw [hxx] at hc2 SS
      rw [hP] at x1 x3 SS
      have X1 := Lib.hid hc2
      have P0 : (0 : Int) ≤ (P : Int) := by omega
      have P1 : (P : Int) < (N : Int) := by omega
      have i1 : (i : Int) < (n : Int) := by omega
      have j1 : (j : Int) < (n : Int) := by omega
      clear hc2 hxx hP
      go_wp2_with fail
      refine wp_region_T (S := fun w' => Below wr.heap.size wr w') (T := fun j => j == 13) (by kernel_rfl) (Below.refl _ _).drew (fun hH => ?_)
      refine wpAnyT_take (i := 0) (v := ?_) (by simp only [List.getElem?_toArray, List.getElem?_cons_zero]; rfl) (by kernel_rfl) (by kernel_rfl) (by kernel_rfl) (by kernel_rfl) (one_only 13 (by kernel_rfl)) (by exact fun _ _ _ h => h) (Or.inl ⟨by rfl, ?_⟩) hH ?_
      rotate_left
      · (intro wS hS; clear hS; go_simp; try rfl)
      try simp only [Act.put, List.setIfInBounds_toArray, List.set_cons_zero, List.set_cons_succ]
      refine wpAnyT_take (i := 1) (v := ?_) (by simp only [List.getElem?_toArray, List.getElem?_cons_succ, List.getElem?_cons_zero]; rfl) (by kernel_rfl) (by kernel_rfl) (by kernel_rfl) (by kernel_rfl) (one_only 13 (by kernel_rfl)) (by exact fun _ _ _ h => h) (Or.inl ⟨by rfl, ?_⟩) hH ?_
      rotate_left
      · (intro wS hS; (try dsimp only at hS); obtain ⟨k1, k2, k3, k4, k5, k6, k7⟩ := repF K3.out K7.out X1.out hS; go_simp; try rfl)
      try simp only [Act.put, List.setIfInBounds_toArray, List.set_cons_zero, List.set_cons_succ]
      refine wpAnyT_take (i := 2) (v := ?_) (by simp only [List.getElem?_toArray, List.getElem?_cons_succ, List.getElem?_cons_zero]; rfl) (by kernel_rfl) (by kernel_rfl) (by kernel_rfl) (by kernel_rfl) (one_only 13 (by kernel_rfl)) (by exact fun _ _ _ h => h) (Or.inl ⟨by rfl, ?_⟩) hH ?_
      rotate_left
      · (intro wS hS; clear hS; go_simp; try rfl)
      try simp only [Act.put, List.setIfInBounds_toArray, List.set_cons_zero, List.set_cons_succ]
      refine wpAnyT_take (i := 3) (v := ?_) (by simp only [List.getElem?_toArray, List.getElem?_cons_succ, List.getElem?_cons_zero]; rfl) (by kernel_rfl) (by kernel_rfl) (by kernel_rfl) (by kernel_rfl) (one_only 13 (by kernel_rfl)) (by exact fun _ _ _ h => h) (Or.inl ⟨by rfl, ?_⟩) hH ?_
      rotate_left
      · (intro wS hS; clear hS; go_simp; try rfl)
      try simp only [Act.put, List.setIfInBounds_toArray, List.set_cons_zero, List.set_cons_succ]
      refine wpAnyT_take (i := 4) (v := ?_) (by simp only [List.getElem?_toArray, List.getElem?_cons_succ, List.getElem?_cons_zero]; rfl) (by kernel_rfl) (by kernel_rfl) (by kernel_rfl) (by kernel_rfl) (one_only 13 (by kernel_rfl)) (by exact fun _ _ _ h => h) (Or.inl ⟨by rfl, ?_⟩) hH ?_
      rotate_left
      · (intro wS hS; (try dsimp only at hS); obtain ⟨k1, k2, k3, k4, k5, k6, k7⟩ := repF K3.out K7.out X1.out hS; go_simp; try rfl)
      try simp only [Act.put, List.setIfInBounds_toArray, List.set_cons_zero, List.set_cons_succ]
      refine wpAnyT_take (i := 5) (v := ?_) (by simp only [List.getElem?_toArray, List.getElem?_cons_succ, List.getElem?_cons_zero]; rfl) (by kernel_rfl) (by kernel_rfl) (by kernel_rfl) (by kernel_rfl) (one_only 13 (by kernel_rfl)) (by exact fun _ _ _ h => h) (Or.inl ⟨by rfl, ?_⟩) hH ?_
      rotate_left
      · (intro wS hS; clear hS; go_simp; try rfl)
      try simp only [Act.put, List.setIfInBounds_toArray, List.set_cons_zero, List.set_cons_succ]
      refine wpAnyT_take (i := 6) (v := ?_) (by simp only [List.getElem?_toArray, List.getElem?_cons_succ, List.getElem?_cons_zero]; rfl) (by kernel_rfl) (by kernel_rfl) (by kernel_rfl) (by kernel_rfl) (one_only 13 (by kernel_rfl)) (by exact fun _ _ _ h => h) (Or.inl ⟨by rfl, ?_⟩) hH ?_
      rotate_left
      · (intro wS hS; clear hS; go_simp; try rfl)
      try simp only [Act.put, List.setIfInBounds_toArray, List.set_cons_zero, List.set_cons_succ]
      refine wpAnyT_take (i := 7) (v := ?_) (by simp only [List.getElem?_toArray, List.getElem?_cons_succ, List.getElem?_cons_zero]; rfl) (by kernel_rfl) (by kernel_rfl) (by kernel_rfl) (by kernel_rfl) (one_only 13 (by kernel_rfl)) (by exact fun _ _ _ h => h) (Or.inl ⟨by rfl, ?_⟩) hH ?_
      rotate_left
      · (intro wS hS; clear hS; go_simp; try rfl)
      try simp only [Act.put, List.setIfInBounds_toArray, List.set_cons_zero, List.set_cons_succ]
      refine wpAnyT_take (i := 8) (v := ?_) (by simp only [List.getElem?_toArray, List.getElem?_cons_succ, List.getElem?_cons_zero]; rfl) (by kernel_rfl) (by kernel_rfl) (by kernel_rfl) (by kernel_rfl) (one_only 13 (by kernel_rfl)) (by exact fun _ _ _ h => h) (Or.inl ⟨by rfl, ?_⟩) hH ?_
      rotate_left
      · (intro wS hS; clear hS; go_simp; try rfl)
      try simp only [Act.put, List.setIfInBounds_toArray, List.set_cons_zero, List.set_cons_succ]
      refine wpAnyT_take (i := 9) (v := ?_) (by simp only [List.getElem?_toArray, List.getElem?_cons_succ, List.getElem?_cons_zero]; rfl) (by kernel_rfl) (by kernel_rfl) (by kernel_rfl) (by kernel_rfl) (one_only 13 (by kernel_rfl)) (by exact fun _ _ _ h => h) (Or.inl ⟨by rfl, ?_⟩) hH ?_
      rotate_left
      · (intro wS hS; clear hS; go_simp; try rfl)
      try simp only [Act.put, List.setIfInBounds_toArray, List.set_cons_zero, List.set_cons_succ]
      refine wpAnyT_take (i := 10) (v := ?_) (by simp only [List.getElem?_toArray, List.getElem?_cons_succ, List.getElem?_cons_zero]; rfl) (by kernel_rfl) (by kernel_rfl) (by kernel_rfl) (by kernel_rfl) (one_only 13 (by kernel_rfl)) (by exact fun _ _ _ h => h) (Or.inl ⟨by rfl, ?_⟩) hH ?_
      rotate_left
      · (intro wS hS; clear hS; go_simp; try rfl)
      try simp only [Act.put, List.setIfInBounds_toArray, List.set_cons_zero, List.set_cons_succ]
      refine wpAnyT_take (i := 11) (v := ?_) (by simp only [List.getElem?_toArray, List.getElem?_cons_succ, List.getElem?_cons_zero]; rfl) (by kernel_rfl) (by kernel_rfl) (by kernel_rfl) (by kernel_rfl) (one_only 13 (by kernel_rfl)) (by exact fun _ _ _ h => h) (Or.inl ⟨by rfl, ?_⟩) hH ?_
      rotate_left
      · (intro wS hS; (try dsimp only at hS); obtain ⟨k1, k2, k3, k4, k5, k6, k7⟩ := repF K3.out K7.out X1.out hS; go_simp; try rfl)
      try simp only [Act.put, List.setIfInBounds_toArray, List.set_cons_zero, List.set_cons_succ]
      refine wpAnyT_take (i := 12) (v := ?_) (by simp only [List.getElem?_toArray, List.getElem?_cons_succ, List.getElem?_cons_zero]; rfl) (by kernel_rfl) (by kernel_rfl) (by kernel_rfl) (by kernel_rfl) (one_only 13 (by kernel_rfl)) (by exact fun _ _ _ h => h) (Or.inl ⟨by rfl, ?_⟩) hH ?_
      rotate_left
      · (intro wS hS; clear hS; go_simp; try rfl)
      try simp only [Act.put, List.setIfInBounds_toArray, List.set_cons_zero, List.set_cons_succ]
      refine wpAnyT_ready (rs := [13]) (by kernel_rfl) (by simp) ?_
      refine AllReadyT.cons (by simp only [List.getElem?_toArray, List.getElem?_cons_succ, List.getElem?_cons_zero]; rfl) (fun K hK => ?_) AllReadyT.nil
      have GI := Lib.hid (I.out.keep hH I.out.lt)
      have gc := GI.out.cell (i := P) (by rw [RL.out]; omega)
      have gf := GI.out.free P
      go_simp
      try dsimp only
      refine hK.out _ _ (fun h => by cases h) ?_
      clear hK K
      try simp only [Act.put, List.setIfInBounds_toArray, List.set_cons_zero, List.set_cons_succ]
      refine wpAnyT_done (by kernel_rfl) ?_ _
      go_wp2_with fail
      go_roundw
      case rel =>
        refine ⟨i + 1, by go_num, by omega, ?_, K3.out.drewN 1 |>.far n3 _, K6.out.drewN 1 |>.far n6 _, K7.out.drewN 1 |>.far n7 _, ?_⟩
        · rw [← SS.out]
          exact (I.out.keep hH I.out.lt).set P x
        · exact (BO.out.trans (hH.mono BO.out.size)).setCell (by show w.heap.size ≤ g; omega) _
      case measure => simp [intOf]; omega
    · obtain rfl : i = n := by omega
      obtain ⟨q0, q1, q2, q3, q4, q5⟩ := K6.out.all
      obtain ⟨y0, y1, y2, -, -, -⟩ := K7.out.all
      go_wp2_with fail
      obtain ⟨E0, E1, E2, -, -, -⟩ := (K6.out.set3 (.int .i64 i) (.int .i64 i) (.slice (some ⟨g, 0, none⟩) N cap)).all
      refine bodyPost_ret (v := .agg #[.int .i64 i, .int .i64 i, .slice (some ⟨g, 0, none⟩) N cap]) (by simp [results, Try.results70, go_sem, E0, E1, E2]) rfl ⟨g, cap, rfl, by omega, ?_, ?_⟩
      · rw [← RA.out]
        exact ((I.out.far (fun e => n6 e.symm) _).far (fun e => n6 e.symm) _).far (fun e => n6 e.symm) _
      · exact ((BO.out.setCell (by show w.heap.size ≤ w.heap.size + 1; omega) _).setCell (by show w.heap.size ≤ w.heap.size + 1; omega) _).setCell (by show w.heap.size ≤ w.heap.size + 1; omega) _
end Go.Proofs.Ytcapddcmnjeloaa
end

section
/-
  A list of ratios that a call makes at its full length and fills; what a road to a solution gives.
-/
namespace Go.Proofs.Ytcapddcmnjeloaa
open Go.RowKit

theorem makeQx (n : Nat) (h : n ≤ 4194304) (w : World) : (Instr.makeSlice 49 (.int .i64 (n : Int)) (.int .i64 (n : Int))).run Try.prog w = .ok (.slice (some ⟨w.heap.size, 0, none⟩) n n) (w.alloc (.cells (madeCells #[.int .i64 0, .int .i64 0] (n * 2)) 80)) := by
  obtain ⟨fi, hfi, hz0, hz1, hz2⟩ := facts_rat
  have := run_makeSlice (P := Try.prog) (w := w) 49 80 fi _ underlying_rats hfi hz0 .i64 .i64 (n : Int) (n : Int) (by omega) (by omega) (by rw [hz1]; omega) (by rw [hz2]; omega) (by omega)
  rw [hz1] at this
  exact this
/-- A block that is the ratios l, no more. -/
def QsX (w : World) (g : Nat) (l : List (Int × Int)) : Prop := w.heap[g]? = some (.cells (flatQ l).toArray 80 (0, 0))
theorem QsX.qs {w : World} {g : Nat} {l : List (Int × Int)} (h : QsX w g l) : QsB w g l := ⟨[], by rw [List.append_nil]; exact h⟩
theorem QsX.lt {w : World} {g : Nat} {l : List (Int × Int)} (h : QsX w g l) : g < w.heap.size := lt_of_block h
theorem QsX.set {w : World} {g : Nat} {l : List (Int × Int)} (h : QsX w g l) {q : Nat} (hq : q < l.length) (u : Int × Int) :
    QsX ((w.setCell ⟨g, q * 2, none⟩ (.int .i64 u.1)).setCell ⟨g, q * 2 + 1, none⟩ (.int .i64 u.2)) g (l.set q u) := by
  have e := flatQ_set l [] u q hq
  rw [List.append_nil, List.append_nil] at e
  unfold QsX
  rw [← e]
  exact setCell_blockQ (setCell_blockQ h _ _) _ _
theorem QsX.far {w : World} {g : Nat} {l : List (Int × Int)} (h : QsX w g l) {a : Addr} (ha : g ≠ a.block) (u : Value) : QsX (w.setCell a u) g l := (Below.heap_setCell w a u g ha).trans h
theorem QsX.keep {w w' : World} {g B : Nat} {l : List (Int × Int)} (h : QsX w g l) (hb : Below B w w') (hB : g < B) : QsX w' g l := (hb.block g hB).trans h
theorem QsX.old {w : World} {g : Nat} {l : List (Int × Int)} (h : QsX w g l) (o : Obj) : QsX (w.alloc o) g l := (Below.heap_alloc w o g h.lt).trans h
theorem QsX.made {w : World} {g : Nat} (n : Nat) (hg : g = w.heap.size) : QsX (w.alloc (.cells (madeCells #[.int .i64 0, .int .i64 0] (n * 2)) 80)) g (List.replicate n ((0, 0) : Int × Int)) := by
  subst hg
  unfold QsX
  rw [flatQ_zeros]
  exact heap_alloc_new w _
theorem QsX.own {B : Nat} {w : World} {g : Nat} {l : List (Int × Int)} (h : QsX w g l) (hB : B ≤ g) (hl : l.length ≤ 4194304) : OwnR B w (.slice (some ⟨g, 0, none⟩) l.length l.length) l :=
  ⟨by rw [flatQ_length], .inr ⟨g, l.length, (flatQ l).toArray, rfl, hB, h, Nat.le_refl _, by unfold maxLen; omega, by simp [flatQ_length], by simp [← flatQ_length]⟩⟩
theorem up_set {l : List (Int × Int)} {i n : Nat} (hl : l.length = i) (hi : i < n) (u : Int × Int) : (l ++ List.replicate (n - i) ((0, 0) : Int × Int)).set i u = (l ++ [u]) ++ List.replicate (n - (i + 1)) ((0, 0) : Int × Int) := by
  obtain ⟨k, hk⟩ : ∃ k, n - i = k + 1 := ⟨n - i - 1, by omega⟩
  have hk' : n - (i + 1) = k := by omega
  subst hl
  rw [hk, hk', List.set_append_right _ _ (Nat.le_refl _), Nat.sub_self, List.replicate_succ, List.set_cons_zero, List.append_assoc]
  rfl
/-- What a road gives: a list of the call's own, and an error that is nil exactly where there is a solution. -/
def RoadRes (zs : List (Int × Int)) (ok : Bool) (w : World) (e : Ending) (w' : World) : Prop := ∃ v ev : Value, e = .returned (.tuple #[v, ev]) ∧ OwnR w.heap.size w' v zs ∧ Below w.heap.size w w' ∧ ((ok = true ∧ ev = .nilIface) ∨ (ok = false ∧ ∃ t u, ev = .iface t u))
end Go.Proofs.Ytcapddcmnjeloaa
end

section
/-
  Chapter 6, in the program: IsSquare.
-/
namespace Go.Proofs.Ytcapddcmnjeloaa
set_option maxRecDepth 100000
open Go.RowKit

set_option maxHeartbeats 1000000 in
theorem iIsSq (r c : Int) (a : Option Addr) (m : Nat) (xs : List Int) (w : World) (h : Rd w a xs) (hn : xs.length ≤ 16777216) :
    Calls Try.prog 103 #[.agg #[.int .i64 r, .int .i64 c, .slice a xs.length m]] w (Gives (.bool (isSq r c xs)) w) := by
  have H := Lib.hid h
  obtain ⟨n, hx⟩ : ∃ n, xs.length = n := ⟨_, rfl⟩
  have HX := Lib.hid hx
  rw [hx] at hn ⊢
  clear hx h
  have B0 : ∀ o1, Below w.heap.size w (w.alloc o1) := fun o1 => (Below.refl _ _).alloc (Nat.le_refl _) _
  have BH := Lib.hid B0
  clear B0
  have fin : ∀ b (w' : World), isSq r c xs = b → Below w.heap.size w w' → Gives (.bool (isSq r c xs)) w (.returned (.bool b)) w' := fun b w' h1 h2 => ⟨by rw [h1], h2⟩
  have FIN := Lib.hid fin
  clear fin
  go_enter Try.func103, Try.ntmps103
  go_wp2_with fail
  have ST := iIsMat r c a m xs _ (H.out.below (BH.out (.cells #[.int .i64 r, .int .i64 c, .slice a n m] 26))) (by rw [HX.out]; omega)
  rw [HX.out] at ST
  refine ST.mono ?_
  clear ST
  rintro e w1 ⟨rfl, hb⟩
  have K0 : Hid (Blk3 w1 w.heap.size 26 (.int .i64 r) (.int .i64 c) (.slice a n m)) := (Blk3.at_ _ _ _ _ rfl).keep hb (by simp)
  have B : Hid (Below w.heap.size w w1) := (BH.out _).trans (hb.mono (by simp))
  clear hb
  obtain ⟨ca0, ca1, ca2, -, -, -⟩ := K0.out.all
  obtain ⟨bm, hbm⟩ : ∃ b, isMat r c xs = b := ⟨_, rfl⟩
  rw [hbm]
  cases bm with
  | false =>
    have V : Hid (isSq r c xs = false) := by show isSq r c xs = false; unfold isSq; rw [hbm]; rfl
    clear hbm
    go_wp2_with fail
    go_ret
    exact FIN.out _ _ V.out B.out
  | true =>
    by_cases h1 : r = c
    · by_cases h2 : r ≤ 6
      · have V : Hid (isSq r c xs = true) := by show isSq r c xs = true; unfold isSq; rw [hbm, decide_eq_true h1, decide_eq_true h2]; rfl
        clear hbm
        subst h1
        go_wp2_with fail
        go_ret
        exact FIN.out _ _ V.out B.out
      · have V : Hid (isSq r c xs = false) := by show isSq r c xs = false; unfold isSq; rw [hbm, decide_eq_false h2]; simp
        clear hbm
        subst h1
        go_wp2_with fail
        go_ret
        exact FIN.out _ _ (by rw [V.out]; exact (decide_eq_false (by omega)).symm) B.out
    · have V : Hid (isSq r c xs = false) := by show isSq r c xs = false; unfold isSq; rw [hbm, decide_eq_false h1]; simp
      have n1 : (r == c) = false := by simpa using h1
      clear hbm
      go_wp2_with fail
      go_ret
      exact FIN.out _ _ V.out B.out
end Go.Proofs.Ytcapddcmnjeloaa
end
