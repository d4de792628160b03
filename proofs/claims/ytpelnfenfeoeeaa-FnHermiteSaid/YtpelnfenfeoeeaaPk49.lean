/-
  Texts of this seat, joined: ZCHmS · ZCHmT · ZCNumFloor · ZCNumDiv · ZCHmV · ZCDraw9
-/
import Derived.BigQuiet
import Derived.Deep.QuietTactic
import Derived.Test.YtpelnfenfeoeeaaRows
import Derived.WalkKit
import Derived.Lib.Hide
import Derived.Deep.LoopGhost
import Derived.Deep.CutBlock
import Derived.Deep.DeepCutAuto
import Derived.Test.YtpelnfenfeoeeaaPk46
import Derived.Test.YtpelnfenfeoeeaaPk47
import Derived.Test.YtpelnfenfeoeeaaPk48

section
/-
  Chapter 12, in the model: a cell, the row that is least in a column, whether it is alone, marks.
-/
namespace Go.Proofs.Ytpelnfenfeoeeaa
set_option maxRecDepth 100000
open Go.RowKit
theorem cell_idx {R C i j : Nat} (hR : R ≤ 24) (hC : C ≤ 24) (hi : i < R) (hj : j < C) : i * C + j < R * C ∧ IntKind.i64.wrap ((i : Int) * (C : Int)) = (i : Int) * (C : Int) ∧ IntKind.i64.wrap ((i : Int) * (C : Int) + (j : Int)) = ((i * C + j : Nat) : Int) := by
  have h1 : i * C + j < R * C := idx_lt hi hj
  have h2 : R * C ≤ 24 * 24 := Nat.mul_le_mul hR hC
  have c1 : (i : Int) * (C : Int) = ((i * C : Nat) : Int) := (Int.natCast_mul _ _).symm
  refine ⟨h1, IntWalk.i64_in _ (by rw [c1]; omega), ?_⟩
  rw [show (i : Int) * (C : Int) + (j : Int) = ((i * C + j : Nat) : Int) by rw [c1]; omega]
  exact IntWalk.i64_in _ (by omega)
theorem sAbsN (n : Int) (w : World) (h1 : -4000000000000000000 ≤ n) (h2 : n ≤ 4000000000000000000) : Calls Try.prog 100 #[.int .i64 n] w (Gives (.int .i64 (n.natAbs : Int)) w) := by
  by_cases hn : 0 ≤ n
  · refine (sAbs_p n w hn (by omega)).mono ?_
    rintro e w' ⟨rfl, rfl⟩
    exact ⟨by rw [show ((n.natAbs : Nat) : Int) = n by omega], Below.refl _ _⟩
  · have := sAbs_n (-n) w (by omega) (by omega)
    rw [Int.neg_neg] at this
    refine this.mono ?_
    rintro e w' ⟨rfl, rfl⟩
    exact ⟨by rw [show ((n.natAbs : Nat) : Int) = -n by omega], Below.refl _ _⟩
set_option maxHeartbeats 1000000 in
theorem sCel (R C : Nat) (a : Option Addr) (n m i j : Nat) (xs : List Int) (w : World) (h : Rd w a xs) (hx : xs.length = n) (hn : n = R * C) (hR : R ≤ 24) (hC : C ≤ 24) (hi : i < R) (hj : j < C) :
    Calls Try.prog 63 #[.agg #[.int .i64 R, .int .i64 C, .slice a n m], .int .i64 i, .int .i64 j] w (Gives (.int .i64 (mxC C xs i j)) w) := by
  obtain ⟨x1, x2, x3⟩ := cell_idx hR hC hi hj
  have h := h.below ((Below.refl _ _).alloc (Nat.le_refl _) (.cells #[.int .i64 R, .int .i64 C, .slice a n m] 26))
  obtain ⟨b, o, rfl, hc⟩ := h (i * C + j) (by omega)
  have V : Hid (mxC C xs i j = xs.getD (i * C + j) 0) := rfl
  obtain ⟨x, hxx⟩ : ∃ x, xs.getD (i * C + j) 0 = x := ⟨_, rfl⟩
  obtain ⟨P, hP⟩ : ∃ P, i * C + j = P := ⟨_, rfl⟩
  rw [hxx] at hc V
  rw [hP] at hc x1 x3
  have P0 : (0 : Int) ≤ (P : Int) := by omega
  have P1 : (P : Int) < (n : Int) := by omega
  rw [V.out]
  clear h hx hxx hP V hn x1
  go_enter Try.func63, Try.ntmps63
  go_wp2_with fail
  go_ret
  exact ⟨rfl, by repeat (first | exact Below.refl _ _ | refine below_drewN ?_ _ | refine Below.alloc ?_ (by simp <;> omega) _)⟩
set_option maxHeartbeats 1000000 in
theorem sAlone (R C : Nat) (a : Option Addr) (n m p j t : Nat) (s : HSt) (w : World) (h : Rd w a s.1) (hx : s.1.length = n) (hn : n = R * C) (hR : R ≤ 24) (hC : C ≤ 24) (hj : j < C) (ht : t ≤ R) (hp : p < R) :
    Calls Try.prog 138 #[.agg #[.int .i64 R, .int .i64 C, .slice a n m], .int .i64 t, .int .i64 j, .int .i64 p] w (Gives (.bool (aloneB R C p j t s)) w) := by
  have K0 : Hid (Blk3 (w.alloc (.cells #[.int .i64 R, .int .i64 C, .slice a n m] 26)) w.heap.size 26 (.int .i64 R) (.int .i64 C) (.slice a n m)) := Blk3.at_ _ _ _ _ rfl
  have B0 : Hid (Below w.heap.size w (w.alloc (.cells #[.int .i64 R, .int .i64 C, .slice a n m] 26))) := (Below.refl _ _).alloc (Nat.le_refl _) _
  have CE : Hid (∀ i w', i < R → Below w.heap.size w w' → Calls Try.prog 63 #[.agg #[.int .i64 R, .int .i64 C, .slice a n m], .int .i64 i, .int .i64 j] w' (Gives (.int .i64 (celS C s i j)) w')) := fun i w' hi hb => sCel R C a n m i j s.1 w' (h.below hb) hx hn hR hC hi hj
  have VF : Hid (∀ i, i < R → t ≤ i → i ≠ p → celS C s i j ≠ 0 → aloneB R C p j t s = false) := fun i h1 h2 h3 h4 => aloneB_false h1 h2 h3 h4
  have VT : Hid ((∀ i, i < R → t ≤ i → i ≠ p → celS C s i j = 0) → aloneB R C p j t s = true) := aloneB_true
  generalize aloneB R C p j t s = bb at VF VT ⊢
  clear h hx hn
  go_enter Try.func138, Try.ntmps138
  go_wp2_with fail
  go_loopw [8, 9] (fun _ v9 wr => ∃ i : Nat, v9 = .int .i64 i ∧ t ≤ i ∧ i ≤ R ∧ (∀ k, t ≤ k → k < i → k ≠ p → celS C s k j = 0) ∧ Blk3 wr w.heap.size 26 (.int .i64 R) (.int .i64 C) (.slice a n m) ∧ Below w.heap.size w wr) (fun _ v9 _ => R - (intOf v9).toNat)
  case atStart => exact ⟨t, rfl, Nat.le_refl _, ht, fun k h1 h2 => by omega, K0.out, B0.out⟩
  case round =>
    clear K0 B0
    obtain ⟨i, rfl, hti, hi, hk, hK, hB⟩ := hrel
    have HK := Lib.hid hk
    have K := Lib.hid hK
    have B := Lib.hid hB
    clear hk hK hB
    obtain ⟨p0, p1, p2, -, -, -⟩ := K.out.all
    by_cases hlt : i < R
    · by_cases hip : i = p
      · have n1 : ((i : Int) != (p : Int)) = false := by simp [hip]
        have HK2 : Hid (∀ k, t ≤ k → k < i + 1 → k ≠ p → celS C s k j = 0) := fun k h1 h2 h3 => HK.out k h1 (by omega) h3
        clear hip
        go_wp2_with fail
        go_roundw
        case rel => exact ⟨i + 1, by go_num, by omega, by omega, HK2.out, K.out, B.out⟩
        case measure => simp [intOf]; omega
      · have n1 : ((i : Int) != (p : Int)) = true := by simp; omega
        have CI := Lib.hid (CE.out i wr hlt B.out)
        have VFi : Hid (celS C s i j ≠ 0 → bb = false) := fun h => VF.out i hlt hti hip h
        have HK2 : Hid (celS C s i j = 0 → ∀ k, t ≤ k → k < i + 1 → k ≠ p → celS C s k j = 0) := fun h0 k h1 h2 h3 => by
          rcases Nat.lt_or_ge k i with h4 | h4
          · exact HK.out k h1 h4 h3
          · obtain rfl : k = i := by omega
            exact h0
        generalize celS C s i j = z at CI VFi HK2
        clear hip
        go_wp2_with fail
        refine CI.out.mono ?_
        rintro e w3 ⟨rfl, hb3⟩
        have K3 := Lib.hid (K.out.step hb3)
        have B3 := Lib.hid (B.out.trans (hb3.mono B.out.size))
        clear hb3 CI p0 p1 p2
        by_cases hz : z = 0
        · have n2 : (z != 0) = false := by simp [hz]
          have HK3 := Lib.hid (HK2.out hz)
          clear hz
          go_wp2_with fail
          go_roundw
          case rel => exact ⟨i + 1, by go_num, by omega, by omega, HK3.out, K3.out, B3.out⟩
          case measure => simp [intOf]; omega
        · have n2 : (z != 0) = true := by simpa using hz
          have V := Lib.hid (VFi.out hz)
          clear hz
          go_wp2_with fail
          go_ret
          exact ⟨by rw [V.out]; rfl, B3.out⟩
    · obtain rfl : i = R := by omega
      have V := Lib.hid (VT.out fun k h1 h2 h3 => HK.out k h2 h1 h3)
      go_wp2_with fail
      go_ret
      exact ⟨by rw [V.out]; rfl, B.out⟩
set_option maxHeartbeats 2000000 in
theorem leF {W w' : World} {b : Nat} {t : TypeId} {p q r : Value} (h0 : Blk3 W b t p q r) (hb : Below W.heap.size W w') : w'.cell? ⟨b, 0, none⟩ = some p ∧ w'.cell? ⟨b, 1, none⟩ = some q ∧ w'.cell? ⟨b, 2, none⟩ = some r := by
  obtain ⟨a1, a2, a3, -, -, -⟩ := (h0.step hb).all
  exact ⟨a1, a2, a3⟩
set_option maxHeartbeats 4000000 in
theorem sLeast (R C : Nat) (a : Option Addr) (n m j t : Nat) (s : HSt) (w : World) (h : Rd w a s.1) (hx : s.1.length = n) (hn : n = R * C) (hR : R ≤ 24) (hC : C ≤ 24) (hj : j < C) (ht : t ≤ R) (ho : nums s.1 = true) :
    Calls Try.prog 137 #[.agg #[.int .i64 R, .int .i64 C, .slice a n m], .int .i64 t, .int .i64 j] w (Gives (.int .i64 (leastS R C j t s)) w) := by
  have K0 : Hid (Blk3 (w.alloc (.cells #[.int .i64 R, .int .i64 C, .slice a n m] 26)) w.heap.size 26 (.int .i64 R) (.int .i64 C) (.slice a n m)) := Blk3.at_ _ _ _ _ rfl
  have B0 : Hid (Below w.heap.size w (w.alloc (.cells #[.int .i64 R, .int .i64 C, .slice a n m] 26))) := (Below.refl _ _).alloc (Nat.le_refl _) _
  have CE : Hid (∀ i w', i < R → Below w.heap.size w w' → Calls Try.prog 63 #[.agg #[.int .i64 R, .int .i64 C, .slice a n m], .int .i64 i, .int .i64 j] w' (Gives (.int .i64 (celS C s i j)) w')) := fun i w' hi hb => sCel R C a n m i j s.1 w' (h.below hb) hx hn hR hC hi hj
  have NU : Hid (∀ i, NumP (celS C s i j)) := fun i => nums_def ho _
  have LS : Hid (leastS R C j t s = leastF (fun i => celS C s i j) t (R - t)) := rfl
  have LF : Hid (∀ k, (leastF (fun i => celS C s i j) t k = -1) ∨ ∃ p : Nat, leastF (fun i => celS C s i j) t k = (p : Int) ∧ p < t + k) := fun k => by
    rcases leastF_says (fun i => celS C s i j) t k with ⟨h1, -⟩ | ⟨p, h1, -, h2, -⟩
    · exact .inl h1
    · exact .inr ⟨p, h1, h2⟩
  have LN : Hid (∀ k, leastF (fun i => celS C s i j) t (k + 1) = if celS C s (t + k) j ≠ 0 ∧ (leastF (fun i => celS C s i j) t k < 0 ∨ (celS C s (t + k) j).natAbs < (celS C s (leastF (fun i => celS C s i j) t k).toNat j).natAbs) then ((t + k : Nat) : Int) else leastF (fun i => celS C s i j) t k) := fun k => rfl
  obtain ⟨L, hL⟩ : ∃ L : Nat → Int, leastF (fun i => celS C s i j) t = L := ⟨_, rfl⟩
  rw [hL] at LS LF LN
  have L0 : Hid (L 0 = -1) := by refine Lib.hid ?_; rw [← hL]; rfl
  rw [LS.out]
  clear h hx hn ho hL LS
  go_enter Try.func137, Try.ntmps137
  go_wp2_with fail
  go_loopw [7, 8, 9] (fun v7 v8 _ wr => ∃ k : Nat, v7 = .int .i64 (L k) ∧ v8 = .int .i64 ((t + k : Nat) : Int) ∧ t + k ≤ R ∧ Blk3 wr w.heap.size 26 (.int .i64 R) (.int .i64 C) (.slice a n m) ∧ Below w.heap.size w wr) (fun _ v8 _ _ => R - (intOf v8).toNat)
  case atStart => exact ⟨0, by rw [L0.out], rfl, by omega, K0.out, B0.out⟩
  case round =>
    clear K0 B0
    obtain ⟨k, rfl, rfl, hk, hK, hB⟩ := hrel
    have K := Lib.hid hK
    have B := Lib.hid hB
    clear hK hB
    obtain ⟨p0, p1, p2, -, -, -⟩ := K.out.all
    by_cases hlt : t + k < R
    · have CI := Lib.hid (CE.out (t + k) wr hlt B.out)
      have NI := NU.out (t + k)
      have LI := Lib.hid (LN.out k)
      have LK := Lib.hid (LF.out k)
      obtain ⟨x, hx⟩ : ∃ x, celS C s (t + k) j = x := ⟨_, rfl⟩
      obtain ⟨T, hT⟩ : ∃ T, t + k = T := ⟨_, rfl⟩
      rw [hx] at CI NI LI
      rw [hT] at CI LI hlt ⊢
      have ET := Lib.hid hT
      clear hx hT
      obtain ⟨n1, n2⟩ := NI
      go_wp2_with fail
      refine CI.out.mono ?_
      rintro e w3 ⟨rfl, hb3⟩
      have K3 := Lib.hid (K.out.step hb3)
      have B3 := Lib.hid (B.out.trans (hb3.mono B.out.size))
      clear hb3 CI p0 p1 p2 K B
      by_cases hx0 : x = 0
      · have e1 : (x != 0) = false := by simp [hx0]
        have LE : Hid (L (k + 1) = L k) := by refine Lib.hid ?_; rw [LI.out, if_neg fun h => h.1 hx0]
        clear hx0
        go_wp2_with fail
        go_quiet (fail)
        go_wp2_with fail
        go_roundw
        case rel => exact ⟨k + 1, by rw [LE.out], by rw [← Nat.add_assoc, ET.out]; go_num, by have := ET.out; omega, K3.out.drewN nq, below_drewN B3.out nq⟩
        case measure => simp [intOf]; omega
      have e1 : (x != 0) = true := by simpa using hx0
      rcases LK.out with h1 | ⟨p, h1, h2⟩
      · have LE : Hid (L (k + 1) = T) := by refine Lib.hid ?_; rw [LI.out, if_pos ⟨hx0, .inl (by omega)⟩]
        rw [h1]
        clear hx0 h1
        go_wp2_with fail
        go_quiet (fail)
        go_wp2_with fail
        go_roundw
        case rel => exact ⟨k + 1, by rw [LE.out], by rw [← Nat.add_assoc, ET.out]; go_num, by have := ET.out; omega, K3.out.drewN nq, below_drewN B3.out nq⟩
        case measure => simp [intOf]; omega
      · rename World => wr
        have hpR : p < R := by have := ET.out; omega
        have CB : Hid (∀ w', Below wr.heap.size wr w' → Calls Try.prog 63 #[.agg #[.int .i64 R, .int .i64 C, .slice a n m], .int .i64 p, .int .i64 j] w' (Gives (.int .i64 (celS C s p j)) w')) := fun w' hb => CE.out p w' hpR (B3.out.trans (hb.mono B3.out.size))
        have NB := NU.out p
        rw [h1, Int.toNat_natCast] at LI
        rw [h1]
        obtain ⟨y, hy⟩ : ∃ y, celS C s p j = y := ⟨_, rfl⟩
        rw [hy] at CB NB LI
        obtain ⟨n3, n4⟩ := NB
        have AX : Hid (∀ w', Calls Try.prog 100 #[.int .i64 x] w' (Gives (.int .i64 (x.natAbs : Int)) w')) := fun w' => sAbsN x w' (by omega) (by omega)
        have AB : Hid (∀ w', Calls Try.prog 100 #[.int .i64 y] w' (Gives (.int .i64 (y.natAbs : Int)) w')) := fun w' => sAbsN y w' (by omega) (by omega)
        have p3 : ¬ (p : Int) < 0 := by omega
        have KI := K3
        clear hy
        by_cases hlt2 : x.natAbs < y.natAbs
        · have LE : Hid (L (k + 1) = T) := by refine Lib.hid ?_; rw [LI.out, if_pos ⟨hx0, .inr hlt2⟩]
          obtain ⟨ax, hax⟩ : ∃ z : Int, (x.natAbs : Int) = z := ⟨_, rfl⟩
          obtain ⟨ay, hay⟩ : ∃ z : Int, (y.natAbs : Int) = z := ⟨_, rfl⟩
          have l9 : ax < ay := by omega
          rw [hax] at AX
          rw [hay] at AB
          clear hx0 h1 hax hay hlt2
          go_wp2_with fail
          refine wp_region_T (S := fun w' => Below wr.heap.size wr w') (T := fun _ => false) (by kernel_rfl) (Below.refl _ _).drew (fun hH => ?_)
          refine wpAnyT_take (i := 0) (v := ?_) (by simp only [List.getElem?_toArray, List.getElem?_cons_zero]; rfl) (by kernel_rfl) (by kernel_rfl) (by kernel_rfl) (by kernel_rfl) (fun _ hj => by cases hj) (by exact fun _ _ _ h => h) (Or.inl ⟨by rfl, ?_⟩) hH ?_
          rotate_left
          · (intro wS hS; clear hS; go_simp; try rfl)
          try simp only [Act.put, List.setIfInBounds_toArray, List.set_cons_zero, List.set_cons_succ]
          refine wpAnyT_take (i := 1) (v := ?_) (by simp only [List.getElem?_toArray, List.getElem?_cons_succ, List.getElem?_cons_zero]; rfl) (by kernel_rfl) (by kernel_rfl) (by kernel_rfl) (by kernel_rfl) (fun _ hj => by cases hj) (by exact fun _ _ _ h => h) (Or.inl ⟨by rfl, ?_⟩) hH ?_
          rotate_left
          · (intro wS hS; clear hS; go_simp; try rfl)
          try simp only [Act.put, List.setIfInBounds_toArray, List.set_cons_zero, List.set_cons_succ]
          refine wpAnyT_take (i := 2) (v := ?_) (by simp only [List.getElem?_toArray, List.getElem?_cons_succ, List.getElem?_cons_zero]; rfl) (by kernel_rfl) (by kernel_rfl) (by kernel_rfl) (by kernel_rfl) (fun _ hj => by cases hj) (by exact fun _ _ _ h => h) (Or.inl ⟨by rfl, ?_⟩) hH ?_
          rotate_left
          · (intro wS hS; clear hS; go_simp; try rfl)
          try simp only [Act.put, List.setIfInBounds_toArray, List.set_cons_zero, List.set_cons_succ]
          refine wpAnyT_take (i := 3) (v := ?_) (by simp only [List.getElem?_toArray, List.getElem?_cons_succ, List.getElem?_cons_zero]; rfl) (by kernel_rfl) (by kernel_rfl) (by kernel_rfl) (by kernel_rfl) (fun _ hj => by cases hj) (by exact fun _ _ _ h => h) (Or.inl ⟨by rfl, ?_⟩) hH ?_
          rotate_left
          · (intro wS hS; clear hS; go_simp; try rfl)
          try simp only [Act.put, List.setIfInBounds_toArray, List.set_cons_zero, List.set_cons_succ]
          refine wpAnyT_take (i := 4) (v := ?_) (by simp only [List.getElem?_toArray, List.getElem?_cons_succ, List.getElem?_cons_zero]; rfl) (by kernel_rfl) (by kernel_rfl) (by kernel_rfl) (by kernel_rfl) (fun _ hj => by cases hj) (by exact fun _ _ _ h => h) (Or.inl ⟨by rfl, ?_⟩) hH ?_
          rotate_left
          · (intro wS hS; clear hS; go_simp; try rfl)
          try simp only [Act.put, List.setIfInBounds_toArray, List.set_cons_zero, List.set_cons_succ]
          refine wpAnyT_take (i := 5) (v := ?_) (by simp only [List.getElem?_toArray, List.getElem?_cons_succ, List.getElem?_cons_zero]; rfl) (by kernel_rfl) (by kernel_rfl) (by kernel_rfl) (by kernel_rfl) (fun _ hj => by cases hj) (by exact fun _ _ _ h => h) (Or.inl ⟨by rfl, ?_⟩) hH ?_
          rotate_left
          · (intro wS hS; clear hS; go_simp; try rfl)
          try simp only [Act.put, List.setIfInBounds_toArray, List.set_cons_zero, List.set_cons_succ]
          refine wpAnyT_take (i := 6) (v := ?_) (by simp only [List.getElem?_toArray, List.getElem?_cons_succ, List.getElem?_cons_zero]; rfl) (by kernel_rfl) (by kernel_rfl) (by kernel_rfl) (by kernel_rfl) (fun _ hj => by cases hj) (by exact fun _ _ _ h => h) (Or.inl ⟨by rfl, ?_⟩) hH ?_
          rotate_left
          · (intro wS hS; clear hS; go_simp; try rfl)
          try simp only [Act.put, List.setIfInBounds_toArray, List.set_cons_zero, List.set_cons_succ]
          refine wpAnyT_take (i := 8) (v := ?_) (by simp only [List.getElem?_toArray, List.getElem?_cons_succ, List.getElem?_cons_zero]; rfl) (by kernel_rfl) (by kernel_rfl) (by kernel_rfl) (by kernel_rfl) (fun _ hj => by cases hj) (by exact fun _ _ _ h => h) (Or.inl ⟨by rfl, ?_⟩) hH ?_
          rotate_left
          · (intro wS hS; (try dsimp only at hS); obtain ⟨k1, k2, k3⟩ := leF KI.out hS; go_simp; try rfl)
          try simp only [Act.put, List.setIfInBounds_toArray, List.set_cons_zero, List.set_cons_succ]
          refine wpAnyT_take (i := 9) (v := ?_) (by simp only [List.getElem?_toArray, List.getElem?_cons_succ, List.getElem?_cons_zero]; rfl) (by kernel_rfl) (by kernel_rfl) (by kernel_rfl) (by kernel_rfl) (fun _ hj => by cases hj) (by exact fun _ _ _ h => h) (Or.inl ⟨by rfl, ?_⟩) hH ?_
          rotate_left
          · (intro wS hS; clear hS; go_simp; try rfl)
          try simp only [Act.put, List.setIfInBounds_toArray, List.set_cons_zero, List.set_cons_succ]
          refine wpAnyT_take (i := 10) (v := ?_) (by simp only [List.getElem?_toArray, List.getElem?_cons_succ, List.getElem?_cons_zero]; rfl) (by kernel_rfl) (by kernel_rfl) (by kernel_rfl) (by kernel_rfl) (fun _ hj => by cases hj) (by exact fun _ _ _ h => h) (Or.inl ⟨by rfl, ?_⟩) hH ?_
          rotate_left
          · (intro wS hS; clear hS; go_simp; try rfl)
          try simp only [Act.put, List.setIfInBounds_toArray, List.set_cons_zero, List.set_cons_succ]
          refine wpAnyT_ready (rs := [7]) (by kernel_rfl) (by simp) ?_
          refine AllReadyT.cons (by simp only [List.getElem?_toArray, List.getElem?_cons_succ, List.getElem?_cons_zero]; rfl) (fun K hK => ?_) AllReadyT.nil
          go_simp
          (with_reducible refine (AX.out _).mono ?_)
          rintro e v1 ⟨rfl, hb1⟩
          try dsimp only
          refine hK.out _ _ (fun _ => hH.trans (hb1.mono hH.size)) ?_
          clear hK K
          have hH := hH.trans (hb1.mono hH.size)
          clear hb1
          try simp only [Act.put, List.setIfInBounds_toArray, List.set_cons_zero, List.set_cons_succ]
          refine wpAnyT_ready (rs := [11]) (by kernel_rfl) (by simp) ?_
          refine AllReadyT.cons (by simp only [List.getElem?_toArray, List.getElem?_cons_succ, List.getElem?_cons_zero]; rfl) (fun K hK => ?_) AllReadyT.nil
          go_simp
          (with_reducible refine (CB.out _ (hH.mono (Nat.le_refl _))).mono ?_)
          rintro e v2 ⟨rfl, hb2⟩
          try dsimp only
          refine hK.out _ _ (fun _ => hH.trans (hb2.mono hH.size)) ?_
          clear hK K
          have hH := hH.trans (hb2.mono hH.size)
          clear hb2
          try simp only [Act.put, List.setIfInBounds_toArray, List.set_cons_zero, List.set_cons_succ]
          refine wpAnyT_ready (rs := [12]) (by kernel_rfl) (by simp) ?_
          refine AllReadyT.cons (by simp only [List.getElem?_toArray, List.getElem?_cons_succ, List.getElem?_cons_zero]; rfl) (fun K hK => ?_) AllReadyT.nil
          go_simp
          (with_reducible refine (AB.out _).mono ?_)
          rintro e v3 ⟨rfl, hb3⟩
          try dsimp only
          refine hK.out _ _ (fun _ => hH.trans (hb3.mono hH.size)) ?_
          clear hK K
          have hH := hH.trans (hb3.mono hH.size)
          clear hb3
          try simp only [Act.put, List.setIfInBounds_toArray, List.set_cons_zero, List.set_cons_succ]
          refine wpAnyT_take (i := 13) (v := ?_) (by simp only [List.getElem?_toArray, List.getElem?_cons_succ, List.getElem?_cons_zero]; rfl) (by kernel_rfl) (by kernel_rfl) (by kernel_rfl) (by kernel_rfl) (fun _ hj => by cases hj) (by exact fun _ _ _ h => h) (Or.inl ⟨by rfl, ?_⟩) hH ?_
          rotate_left
          · (intro wS hS; clear hS; go_simp; try rfl)
          try simp only [Act.put, List.setIfInBounds_toArray, List.set_cons_zero, List.set_cons_succ]
          refine wpAnyT_take (i := 14) (v := ?_) (by simp only [List.getElem?_toArray, List.getElem?_cons_succ, List.getElem?_cons_zero]; rfl) (by kernel_rfl) (by kernel_rfl) (by kernel_rfl) (by kernel_rfl) (fun _ hj => by cases hj) (by exact fun _ _ _ h => h) (Or.inl ⟨by rfl, ?_⟩) hH ?_
          rotate_left
          · (intro wS hS; clear hS; go_simp; try rfl)
          try simp only [Act.put, List.setIfInBounds_toArray, List.set_cons_zero, List.set_cons_succ]
          refine wpAnyT_take (i := 15) (v := ?_) (by simp only [List.getElem?_toArray, List.getElem?_cons_succ, List.getElem?_cons_zero]; rfl) (by kernel_rfl) (by kernel_rfl) (by kernel_rfl) (by kernel_rfl) (fun _ hj => by cases hj) (by exact fun _ _ _ h => h) (Or.inl ⟨by rfl, ?_⟩) hH ?_
          rotate_left
          · (intro wS hS; clear hS; go_simp; try rfl)
          try simp only [Act.put, List.setIfInBounds_toArray, List.set_cons_zero, List.set_cons_succ]
          refine wpAnyT_done (by kernel_rfl) ?_ _
          go_wp2_with fail
          go_roundw
          case rel => exact ⟨k + 1, by rw [LE.out], by rw [← Nat.add_assoc, ET.out]; go_num, by have := ET.out; omega, K3.out.step hH, B3.out.trans (hH.mono B3.out.size)⟩
          case measure => simp [intOf]; omega
        · have LE : Hid (L (k + 1) = p) := by
            refine Lib.hid ?_
            rw [LI.out, if_neg]
            rintro ⟨-, h | h⟩
            · omega
            · exact hlt2 h
          obtain ⟨ax, hax⟩ : ∃ z : Int, (x.natAbs : Int) = z := ⟨_, rfl⟩
          obtain ⟨ay, hay⟩ : ∃ z : Int, (y.natAbs : Int) = z := ⟨_, rfl⟩
          have l9 : ¬ ax < ay := by omega
          rw [hax] at AX
          rw [hay] at AB
          clear hx0 h1 hax hay hlt2
          go_wp2_with fail
          refine wp_region_T (S := fun w' => Below wr.heap.size wr w') (T := fun _ => false) (by kernel_rfl) (Below.refl _ _).drew (fun hH => ?_)
          refine wpAnyT_take (i := 0) (v := ?_) (by simp only [List.getElem?_toArray, List.getElem?_cons_zero]; rfl) (by kernel_rfl) (by kernel_rfl) (by kernel_rfl) (by kernel_rfl) (fun _ hj => by cases hj) (by exact fun _ _ _ h => h) (Or.inl ⟨by rfl, ?_⟩) hH ?_
          rotate_left
          · (intro wS hS; clear hS; go_simp; try rfl)
          try simp only [Act.put, List.setIfInBounds_toArray, List.set_cons_zero, List.set_cons_succ]
          refine wpAnyT_take (i := 1) (v := ?_) (by simp only [List.getElem?_toArray, List.getElem?_cons_succ, List.getElem?_cons_zero]; rfl) (by kernel_rfl) (by kernel_rfl) (by kernel_rfl) (by kernel_rfl) (fun _ hj => by cases hj) (by exact fun _ _ _ h => h) (Or.inl ⟨by rfl, ?_⟩) hH ?_
          rotate_left
          · (intro wS hS; clear hS; go_simp; try rfl)
          try simp only [Act.put, List.setIfInBounds_toArray, List.set_cons_zero, List.set_cons_succ]
          refine wpAnyT_take (i := 2) (v := ?_) (by simp only [List.getElem?_toArray, List.getElem?_cons_succ, List.getElem?_cons_zero]; rfl) (by kernel_rfl) (by kernel_rfl) (by kernel_rfl) (by kernel_rfl) (fun _ hj => by cases hj) (by exact fun _ _ _ h => h) (Or.inl ⟨by rfl, ?_⟩) hH ?_
          rotate_left
          · (intro wS hS; clear hS; go_simp; try rfl)
          try simp only [Act.put, List.setIfInBounds_toArray, List.set_cons_zero, List.set_cons_succ]
          refine wpAnyT_take (i := 3) (v := ?_) (by simp only [List.getElem?_toArray, List.getElem?_cons_succ, List.getElem?_cons_zero]; rfl) (by kernel_rfl) (by kernel_rfl) (by kernel_rfl) (by kernel_rfl) (fun _ hj => by cases hj) (by exact fun _ _ _ h => h) (Or.inl ⟨by rfl, ?_⟩) hH ?_
          rotate_left
          · (intro wS hS; clear hS; go_simp; try rfl)
          try simp only [Act.put, List.setIfInBounds_toArray, List.set_cons_zero, List.set_cons_succ]
          refine wpAnyT_take (i := 4) (v := ?_) (by simp only [List.getElem?_toArray, List.getElem?_cons_succ, List.getElem?_cons_zero]; rfl) (by kernel_rfl) (by kernel_rfl) (by kernel_rfl) (by kernel_rfl) (fun _ hj => by cases hj) (by exact fun _ _ _ h => h) (Or.inl ⟨by rfl, ?_⟩) hH ?_
          rotate_left
          · (intro wS hS; clear hS; go_simp; try rfl)
          try simp only [Act.put, List.setIfInBounds_toArray, List.set_cons_zero, List.set_cons_succ]
          refine wpAnyT_take (i := 5) (v := ?_) (by simp only [List.getElem?_toArray, List.getElem?_cons_succ, List.getElem?_cons_zero]; rfl) (by kernel_rfl) (by kernel_rfl) (by kernel_rfl) (by kernel_rfl) (fun _ hj => by cases hj) (by exact fun _ _ _ h => h) (Or.inl ⟨by rfl, ?_⟩) hH ?_
          rotate_left
          · (intro wS hS; clear hS; go_simp; try rfl)
          try simp only [Act.put, List.setIfInBounds_toArray, List.set_cons_zero, List.set_cons_succ]
          refine wpAnyT_take (i := 6) (v := ?_) (by simp only [List.getElem?_toArray, List.getElem?_cons_succ, List.getElem?_cons_zero]; rfl) (by kernel_rfl) (by kernel_rfl) (by kernel_rfl) (by kernel_rfl) (fun _ hj => by cases hj) (by exact fun _ _ _ h => h) (Or.inl ⟨by rfl, ?_⟩) hH ?_
          rotate_left
          · (intro wS hS; clear hS; go_simp; try rfl)
          try simp only [Act.put, List.setIfInBounds_toArray, List.set_cons_zero, List.set_cons_succ]
          refine wpAnyT_take (i := 8) (v := ?_) (by simp only [List.getElem?_toArray, List.getElem?_cons_succ, List.getElem?_cons_zero]; rfl) (by kernel_rfl) (by kernel_rfl) (by kernel_rfl) (by kernel_rfl) (fun _ hj => by cases hj) (by exact fun _ _ _ h => h) (Or.inl ⟨by rfl, ?_⟩) hH ?_
          rotate_left
          · (intro wS hS; (try dsimp only at hS); obtain ⟨k1, k2, k3⟩ := leF KI.out hS; go_simp; try rfl)
          try simp only [Act.put, List.setIfInBounds_toArray, List.set_cons_zero, List.set_cons_succ]
          refine wpAnyT_take (i := 9) (v := ?_) (by simp only [List.getElem?_toArray, List.getElem?_cons_succ, List.getElem?_cons_zero]; rfl) (by kernel_rfl) (by kernel_rfl) (by kernel_rfl) (by kernel_rfl) (fun _ hj => by cases hj) (by exact fun _ _ _ h => h) (Or.inl ⟨by rfl, ?_⟩) hH ?_
          rotate_left
          · (intro wS hS; clear hS; go_simp; try rfl)
          try simp only [Act.put, List.setIfInBounds_toArray, List.set_cons_zero, List.set_cons_succ]
          refine wpAnyT_take (i := 10) (v := ?_) (by simp only [List.getElem?_toArray, List.getElem?_cons_succ, List.getElem?_cons_zero]; rfl) (by kernel_rfl) (by kernel_rfl) (by kernel_rfl) (by kernel_rfl) (fun _ hj => by cases hj) (by exact fun _ _ _ h => h) (Or.inl ⟨by rfl, ?_⟩) hH ?_
          rotate_left
          · (intro wS hS; clear hS; go_simp; try rfl)
          try simp only [Act.put, List.setIfInBounds_toArray, List.set_cons_zero, List.set_cons_succ]
          refine wpAnyT_ready (rs := [7]) (by kernel_rfl) (by simp) ?_
          refine AllReadyT.cons (by simp only [List.getElem?_toArray, List.getElem?_cons_succ, List.getElem?_cons_zero]; rfl) (fun K hK => ?_) AllReadyT.nil
          go_simp
          (with_reducible refine (AX.out _).mono ?_)
          rintro e v1 ⟨rfl, hb1⟩
          try dsimp only
          refine hK.out _ _ (fun _ => hH.trans (hb1.mono hH.size)) ?_
          clear hK K
          have hH := hH.trans (hb1.mono hH.size)
          clear hb1
          try simp only [Act.put, List.setIfInBounds_toArray, List.set_cons_zero, List.set_cons_succ]
          refine wpAnyT_ready (rs := [11]) (by kernel_rfl) (by simp) ?_
          refine AllReadyT.cons (by simp only [List.getElem?_toArray, List.getElem?_cons_succ, List.getElem?_cons_zero]; rfl) (fun K hK => ?_) AllReadyT.nil
          go_simp
          (with_reducible refine (CB.out _ (hH.mono (Nat.le_refl _))).mono ?_)
          rintro e v2 ⟨rfl, hb2⟩
          try dsimp only
          refine hK.out _ _ (fun _ => hH.trans (hb2.mono hH.size)) ?_
          clear hK K
          have hH := hH.trans (hb2.mono hH.size)
          clear hb2
          try simp only [Act.put, List.setIfInBounds_toArray, List.set_cons_zero, List.set_cons_succ]
          refine wpAnyT_ready (rs := [12]) (by kernel_rfl) (by simp) ?_
          refine AllReadyT.cons (by simp only [List.getElem?_toArray, List.getElem?_cons_succ, List.getElem?_cons_zero]; rfl) (fun K hK => ?_) AllReadyT.nil
          go_simp
          (with_reducible refine (AB.out _).mono ?_)
          rintro e v3 ⟨rfl, hb3⟩
          try dsimp only
          refine hK.out _ _ (fun _ => hH.trans (hb3.mono hH.size)) ?_
          clear hK K
          have hH := hH.trans (hb3.mono hH.size)
          clear hb3
          try simp only [Act.put, List.setIfInBounds_toArray, List.set_cons_zero, List.set_cons_succ]
          refine wpAnyT_take (i := 13) (v := ?_) (by simp only [List.getElem?_toArray, List.getElem?_cons_succ, List.getElem?_cons_zero]; rfl) (by kernel_rfl) (by kernel_rfl) (by kernel_rfl) (by kernel_rfl) (fun _ hj => by cases hj) (by exact fun _ _ _ h => h) (Or.inl ⟨by rfl, ?_⟩) hH ?_
          rotate_left
          · (intro wS hS; clear hS; go_simp; try rfl)
          try simp only [Act.put, List.setIfInBounds_toArray, List.set_cons_zero, List.set_cons_succ]
          refine wpAnyT_take (i := 14) (v := ?_) (by simp only [List.getElem?_toArray, List.getElem?_cons_succ, List.getElem?_cons_zero]; rfl) (by kernel_rfl) (by kernel_rfl) (by kernel_rfl) (by kernel_rfl) (fun _ hj => by cases hj) (by exact fun _ _ _ h => h) (Or.inl ⟨by rfl, ?_⟩) hH ?_
          rotate_left
          · (intro wS hS; clear hS; go_simp; try rfl)
          try simp only [Act.put, List.setIfInBounds_toArray, List.set_cons_zero, List.set_cons_succ]
          refine wpAnyT_take (i := 15) (v := ?_) (by simp only [List.getElem?_toArray, List.getElem?_cons_succ, List.getElem?_cons_zero]; rfl) (by kernel_rfl) (by kernel_rfl) (by kernel_rfl) (by kernel_rfl) (fun _ hj => by cases hj) (by exact fun _ _ _ h => h) (Or.inl ⟨by rfl, ?_⟩) hH ?_
          rotate_left
          · (intro wS hS; clear hS; go_simp; try rfl)
          try simp only [Act.put, List.setIfInBounds_toArray, List.set_cons_zero, List.set_cons_succ]
          refine wpAnyT_done (by kernel_rfl) ?_ _
          go_wp2_with fail
          go_roundw
          case rel => exact ⟨k + 1, by rw [LE.out], by rw [← Nat.add_assoc, ET.out]; go_num, by have := ET.out; omega, K3.out.step hH, B3.out.trans (hH.mono B3.out.size)⟩
          case measure => simp [intOf]; omega
    · have hke : Hid (k = R - t) := by show _ = _; omega
      go_wp2_with fail
      go_ret
      exact ⟨by rw [← hke.out]; rfl, B.out⟩
end Go.Proofs.Ytpelnfenfeoeeaa
end

section
/-
  Chapter 12, in the model: marks in a list, an operation on a matrix and its account.
-/
namespace Go.Proofs.Ytpelnfenfeoeeaa
set_option maxRecDepth 100000
open Go.RowKit
theorem nums_bad_at {xs : List Int} {i : Nat} (hi : i < xs.length) (h : xs.getD i 0 = badN) : nums xs = false := by
  cases hn : nums xs with
  | false => rfl
  | true =>
    have := nums_at hn hi
    rw [h] at this
    exact absurd this (by unfold NumP badN; omega)
set_option maxHeartbeats 1000000 in
theorem sBads (a : Option Addr) (n m : Nat) (xs : List Int) (w : World) (h : Rd w a xs) (hx : xs.length = n) (hn : n ≤ 16777216) (hm : MkOr xs) :
    Calls Try.prog 111 #[.slice a n m] w (Gives (.bool (!nums xs)) w) := by
  have VB : Hid (∀ i, i < n → xs.getD i 0 = badN → nums xs = false) := fun i h1 h2 => nums_bad_at (by omega) h2
  have VT : Hid ((∀ i, i < n → xs.getD i 0 ≠ badN) → nums xs = true) := fun h2 => nums_true fun p hp => (hm p).resolve_left (h2 p (by omega))
  have RA : Hid (Rd w a xs) := h
  have XL := Lib.hid hx
  generalize nums xs = bb at VB VT ⊢
  clear h hx hm
  go_enter Try.func111, Try.ntmps111
  go_wp2_with fail
  go_loopw [2, 3] (fun _ v3 wr => ∃ i : Nat, v3 = .int .i64 i ∧ i ≤ n ∧ (∀ k, k < i → xs.getD k 0 ≠ badN) ∧ Below w.heap.size w wr) (fun _ v3 _ => n - (intOf v3).toNat)
  case atStart => exact ⟨0, rfl, Nat.zero_le _, fun k hk => by omega, Below.refl _ _⟩
  case round =>
    obtain ⟨i, rfl, hi, hk, hB⟩ := hrel
    have HK := Lib.hid hk
    have B := Lib.hid hB
    clear hk hB
    by_cases hlt : i < n
    · obtain ⟨b, o, rfl, hc⟩ := (RA.out.below B.out) i (by rw [XL.out]; exact hlt)
      have VBi : Hid (xs.getD i 0 = badN → bb = false) := fun h => VB.out i hlt h
      have HK2 : Hid (xs.getD i 0 ≠ badN → ∀ k, k < i + 1 → xs.getD k 0 ≠ badN) := fun h0 k h1 => by
        rcases Nat.lt_or_ge k i with h4 | h4
        · exact HK.out k h4
        · obtain rfl : k = i := by omega
          exact h0
      generalize xs.getD i 0 = z at hc VBi HK2
      have i1 : (i : Int) < (n : Int) := by omega
      by_cases hz : z = badN
      · have V := Lib.hid (VBi.out hz)
        have n2 : (z == -4611686018427387904) = true := by rw [hz]; rfl
        clear hz
        go_wp2_with fail
        go_ret
        exact ⟨by rw [V.out]; rfl, B.out⟩
      · have n2 : (z == -4611686018427387904) = false := by rw [beq_eq_false_iff_ne]; exact hz
        have HK3 := Lib.hid (HK2.out hz)
        clear hz
        go_wp2_with fail
        go_roundw
        case rel => exact ⟨i + 1, by go_num, by omega, HK3.out, B.out⟩
        case measure => simp [intOf]; omega
    · obtain rfl : i = n := by omega
      have V := Lib.hid (VT.out HK.out)
      go_wp2_with fail
      go_ret
      exact ⟨by rw [V.out]; rfl, B.out⟩
set_option maxHeartbeats 2000000 in
theorem sOps (R C Iq J ga gu na nu ca cu : Nat) (k z : Int) (s : HSt) (w : World) (ha : Ints w ga s.1) (hu : Ints w gu s.2) (hne : ga ≠ gu) (hx : s.1.length = na) (hna : na = R * C) (hy : s.2.length = nu) (hnu : nu = R * R) (hR : R ≤ 24) (hC : C ≤ 24) (hI : Iq < R) (hJ : J < R) (hk : k = 0 ∨ k = 1 ∨ k = 2) (hIJ : k = 0 → Iq ≠ J) :
    Calls Try.prog 108 #[.agg #[.int .i64 R, .int .i64 C, .slice (some ⟨ga, 0, none⟩) na ca], .agg #[.int .i64 R, .int .i64 R, .slice (some ⟨gu, 0, none⟩) nu cu], .agg #[.int .i64 k, .int .i64 Iq, .int .i64 J, .int .i64 z]] w
      (fun e w' => Void e ∧ Ints w' ga (op2 R C k Iq J z s).1 ∧ Ints w' gu (op2 R C k Iq J z s).2 ∧ FrS (fun b => b = ga ∨ b = gu) w w') := by
  have D1 : Hid (∀ w', Ints w' ga s.1 → Calls Try.prog 144 #[.agg #[.int .i64 R, .int .i64 C, .slice (some ⟨ga, 0, none⟩) na ca], .agg #[.int .i64 k, .int .i64 Iq, .int .i64 J, .int .i64 z]] w' (fun e w2 => Void e ∧ Ints w2 ga (opL k Iq J z C s.1) ∧ w'.grownBy w2 (some ga))) := fun w' hi => sDo R C Iq J ga na ca k z s.1 w' hi hx hna hR hC hI hJ hk hIJ
  have D2 : Hid (∀ w', Ints w' gu s.2 → Calls Try.prog 144 #[.agg #[.int .i64 R, .int .i64 R, .slice (some ⟨gu, 0, none⟩) nu cu], .agg #[.int .i64 k, .int .i64 Iq, .int .i64 J, .int .i64 z]] w' (fun e w2 => Void e ∧ Ints w2 gu (opL k Iq J z R s.2) ∧ w'.grownBy w2 (some gu))) := fun w' hi => sDo R R Iq J gu nu cu k z s.2 w' hi hy hnu hR hR hI hJ hk hIJ
  have la := ha.lt
  have lu := hu.lt
  have A0 := Lib.hid (((ha.old (.cells #[.int .i64 R, .int .i64 C, .slice (some ⟨ga, 0, none⟩) na ca] 26)).old (.cells #[.int .i64 R, .int .i64 R, .slice (some ⟨gu, 0, none⟩) nu cu] 26)).old (.cells #[.int .i64 k, .int .i64 Iq, .int .i64 J, .int .i64 z] 97))
  have U0 := Lib.hid (((hu.old (.cells #[.int .i64 R, .int .i64 C, .slice (some ⟨ga, 0, none⟩) na ca] 26)).old (.cells #[.int .i64 R, .int .i64 R, .slice (some ⟨gu, 0, none⟩) nu cu] 26)).old (.cells #[.int .i64 k, .int .i64 Iq, .int .i64 J, .int .i64 z] 97))
  have F0 : Hid (FrS (fun b => b = ga ∨ b = gu) w (((w.alloc (.cells #[.int .i64 R, .int .i64 C, .slice (some ⟨ga, 0, none⟩) na ca] 26)).alloc (.cells #[.int .i64 R, .int .i64 R, .slice (some ⟨gu, 0, none⟩) nu cu] 26)).alloc (.cells #[.int .i64 k, .int .i64 Iq, .int .i64 J, .int .i64 z] 97))) := (((FrS.refl _ _).alloc _).alloc _).alloc _
  have K3 : Hid (Blk3 (((w.alloc (.cells #[.int .i64 R, .int .i64 C, .slice (some ⟨ga, 0, none⟩) na ca] 26)).alloc (.cells #[.int .i64 R, .int .i64 R, .slice (some ⟨gu, 0, none⟩) nu cu] 26)).alloc (.cells #[.int .i64 k, .int .i64 Iq, .int .i64 J, .int .i64 z] 97)) (w.heap.size + 1) 26 (.int .i64 R) (.int .i64 R) (.slice (some ⟨gu, 0, none⟩) nu cu)) := (Blk3.at_ _ _ _ _ (by simp)).old _
  have K4 : Hid (Blk4 (((w.alloc (.cells #[.int .i64 R, .int .i64 C, .slice (some ⟨ga, 0, none⟩) na ca] 26)).alloc (.cells #[.int .i64 R, .int .i64 R, .slice (some ⟨gu, 0, none⟩) nu cu] 26)).alloc (.cells #[.int .i64 k, .int .i64 Iq, .int .i64 J, .int .i64 z] 97)) (w.heap.size + 2) 97 (.int .i64 k) (.int .i64 Iq) (.int .i64 J) (.int .i64 z)) := Blk4.at_ _ _ _ _ _ (by simp)
  show Calls Try.prog _ _ w (fun e w' => Void e ∧ Ints w' ga (opL k Iq J z C s.1) ∧ Ints w' gu (opL k Iq J z R s.2) ∧ FrS (fun b => b = ga ∨ b = gu) w w')
  have n1 : w.heap.size + 1 ≠ ga := by omega
  have n2 : w.heap.size + 2 ≠ ga := by omega
  clear ha hu hx hy hna hnu
  go_enter Try.func108, Try.ntmps108
  go_wp2_with fail
  generalize ((w.alloc (.cells #[.int .i64 R, .int .i64 C, .slice (some ⟨ga, 0, none⟩) na ca] 26)).alloc (.cells #[.int .i64 R, .int .i64 R, .slice (some ⟨gu, 0, none⟩) nu cu] 26)).alloc (.cells #[.int .i64 k, .int .i64 Iq, .int .i64 J, .int .i64 z] 97) = W at A0 U0 F0 K3 K4 ⊢
  refine (D1.out W A0.out).mono ?_
  rintro e w1 ⟨rfl, hi, hg⟩
  have A1 := Lib.hid hi
  have U1 := Lib.hid (U0.out.one hg (Ne.symm hne))
  have F1 := Lib.hid (F0.out.trans (FrS.of_one (p := fun b => b = ga ∨ b = gu) hg (.inl rfl)))
  have K31 := Lib.hid (K3.out.keepOne hg n1)
  have K41 := Lib.hid (K4.out.keepOne hg n2)
  obtain ⟨p0, p1, p2, -, -, -⟩ := K31.out.all
  have q0 := K41.out.cell0
  have q1 := K41.out.cell1
  have q2 := K41.out.cell2
  have q3 := K41.out.cell3
  clear hi hg A0 U0 F0 K3 K4
  go_wp2_with fail
  refine (D2.out w1 U1.out).mono ?_
  rintro e w2 ⟨rfl, hi, hg⟩
  have A2 := Lib.hid (A1.out.one hg hne)
  have U2 := Lib.hid hi
  have F2 := Lib.hid (F1.out.trans (FrS.of_one (p := fun b => b = ga ∨ b = gu) hg (.inr rfl)))
  clear hi hg
  go_wp2_with fail
  go_end0
  exact ⟨rfl, A2.out, U2.out, F2.out⟩
end Go.Proofs.Ytpelnfenfeoeeaa
end

section
/-
  The model's quotient rounded down.
-/
namespace Go.Proofs.Ytpelnfenfeoeeaa
open Go.RowKit
theorem sFloor (n d : Int) (w : World) (hn1 : -4000000000000000000 ≤ n) (hn2 : n ≤ 4000000000000000000) (hd1 : 0 < d) (hd2 : d ≤ 4000000000000000000) :
    Calls Try.prog 160 #[.int .i64 n, .int .i64 d] w fun e w' => e = .returned (.int .i64 (n / d)) ∧ w = w' := by
  obtain ⟨b1, b2⟩ := tdiv_bdw n d hn1 hn2
  have hd0 : (d == 0) = false := by simp; omega
  by_cases h : n.tmod d < 0
  · have E := Lib.hid (tdiv_down n d hd1 h).1
    have hn : n < 0 := by
      rcases Int.lt_or_le n 0 with h' | h'
      · exact h'
      · have := Int.tmod_nonneg d h'; omega
    go_enter Try.func160, Try.ntmps160
    go_wp2
    go_ret
    exact ⟨ret_int E.out.symm, rfl⟩
  · have E := Lib.hid (tdiv_up n d hd1 (by omega)).1
    by_cases hn : 0 ≤ n
    · have e1 := Int.emod_nonneg n (show d ≠ 0 by omega)
      have e2 : decide (n % d < 0) = false := by simp; omega
      clear h
      go_enter Try.func160, Try.ntmps160
      go_wp2
      go_ret
      exact ⟨ret_int E.out.symm, rfl⟩
    · go_enter Try.func160, Try.ntmps160
      go_wp2
      go_ret
      exact ⟨ret_int E.out.symm, rfl⟩
end Go.Proofs.Ytpelnfenfeoeeaa
end

section
/-
  Chapter 1, in the model: DivideFloor.
-/
namespace Go.Proofs.Ytpelnfenfeoeeaa
open Go.RowKit
set_option maxHeartbeats 400000 in
theorem sDiv (n d : Int) (w : World) (hn1 : -400000000 ≤ n) (hn2 : n ≤ 400000000) (hd1 : -400000000 ≤ d) (hd2 : d ≤ 400000000) (hd0 : d ≠ 0) :
    Calls Try.prog 139 #[.int .i64 n, .int .i64 d] w fun e w' => e = .returned (.tuple #[.int .i64 (n / d), .int .i64 (n % d), .bool true]) ∧ w = w' := by
  have hz : (d == 0) = false := by simpa using hd0
  by_cases hd : 0 < d
  · obtain ⟨m1, m2⟩ := mul_ediv_bd n d hd
    have E := Lib.hid (Int.emod_def n d)
    go_enter Try.func139, Try.ntmps139
    go_wp2_with (first | (go_at_call 105; refine (sIsNum_t _ _ (by omega) (by omega)).mono ?_; rintro e w' ⟨rfl, rfl⟩) | (go_at_call 100; refine (sAbs_p _ _ (by omega) (by omega)).mono ?_; rintro e w' ⟨rfl, rfl⟩) | (go_at_call 160; refine (sFloor _ _ _ (by omega) (by omega) (by omega) (by omega)).mono ?_; rintro e w' ⟨rfl, rfl⟩))
    go_ret3
    exact ⟨by rw [E.out]; rfl, rfl⟩
  · obtain ⟨c, rfl⟩ : ∃ c, d = -c := ⟨-d, by omega⟩
    have hc : 0 < c := by omega
    obtain ⟨m1, m2⟩ := mul_ediv_bd n c hc
    obtain ⟨m3, m4⟩ := ediv_bd n c hc hn1 hn2
    have E := Lib.hid (Int.emod_def n c)
    have E2 := Lib.hid (Int.ediv_neg n c)
    have E3 := Lib.hid (Int.emod_neg n c)
    go_enter Try.func139, Try.ntmps139
    go_wp2_with (first | (go_at_call 105; refine (sIsNum_t _ _ (by omega) (by omega)).mono ?_; rintro e w' ⟨rfl, rfl⟩) | (go_at_call 100; refine (sAbs_n _ _ (by omega) (by omega)).mono ?_; rintro e w' ⟨rfl, rfl⟩) | (go_at_call 160; refine (sFloor _ _ _ (by omega) (by omega) (by omega) (by omega)).mono ?_; rintro e w' ⟨rfl, rfl⟩))
    go_ret3
    exact ⟨by rw [E2.out, E3.out, E.out]; rfl, rfl⟩
end Go.Proofs.Ytpelnfenfeoeeaa
end

section
/-
  Chapter 12, in the model: the work of HermiteForm on a matrix and its account.
-/
namespace Go.Proofs.Ytpelnfenfeoeeaa
set_option maxRecDepth 100000
open Go.RowKit
structure HmW (R C ga gu na nu ca cu : Nat) (w0 : World) (s : HSt) (w : World) : Prop where
  a : Ints w ga s.1
  u : Ints w gu s.2
  k2 : Blk3 w w0.heap.size 26 (.int .i64 R) (.int .i64 C) (.slice (some ⟨ga, 0, none⟩) na ca)
  k3 : Blk3 w (w0.heap.size + 1) 26 (.int .i64 R) (.int .i64 R) (.slice (some ⟨gu, 0, none⟩) nu cu)
  f : FrS (fun b => b = ga ∨ b = gu) w0 w
theorem HmW.step {R C ga gu na nu ca cu : Nat} {w0 w w' : World} {s : HSt} (h : HmW R C ga gu na nu ca cu w0 s w) (hb : Below w.heap.size w w') : HmW R C ga gu na nu ca cu w0 s w' :=
  ⟨h.a.keep hb h.a.lt, h.u.keep hb h.u.lt, h.k2.step hb, h.k3.step hb, h.f.trans (FrS.of_below hb)⟩
theorem HmW.next {R C ga gu na nu ca cu : Nat} {w0 w w' : World} {s s' : HSt} (h : HmW R C ga gu na nu ca cu w0 s w) (la : ga < w0.heap.size) (lu : gu < w0.heap.size) (ha : Ints w' ga s'.1) (hu : Ints w' gu s'.2) (hf : FrS (fun b => b = ga ∨ b = gu) w w') : HmW R C ga gu na nu ca cu w0 s' w' :=
  ⟨ha, hu, h.k2.frs hf (by omega), h.k3.frs hf (by omega), h.f.trans hf⟩
theorem HmW.box {R C ga gu na nu ca cu : Nat} {w0 w w' : World} {s : HSt} (h : HmW R C ga gu na nu ca cu w0 s w) (hb : Below w.heap.size w w') : w'.cell? ⟨w0.heap.size, 0, none⟩ = some (.int .i64 R) ∧ w'.cell? ⟨w0.heap.size, 1, none⟩ = some (.int .i64 C) ∧ w'.cell? ⟨w0.heap.size, 2, none⟩ = some (.slice (some ⟨ga, 0, none⟩) na ca) := by
  obtain ⟨a1, a2, a3, -, -, -⟩ := (h.k2.step hb).all
  exact ⟨a1, a2, a3⟩
def HerRes (ga gu : Nat) (o : Option HSt) (w : World) (e : Ending) (w' : World) : Prop := e = .returned (.bool o.isSome) ∧ FrS (fun b => b = ga ∨ b = gu) w w' ∧ ∀ s, o = some s → Ints w' ga s.1 ∧ Ints w' gu s.2
set_option maxHeartbeats 8000000 in
theorem sHer (R C ga gu na nu ca cu : Nat) (xs : List Int) (w : World) (ha : Ints w ga xs) (hu : Ints w gu (idL R R)) (hne : ga ≠ gu) (hx : xs.length = na) (hna : na = R * C) (hnu : nu = R * R) (hR : R ≤ 24) (hC : C ≤ 24) (hno : nums xs = true) :
    Calls Try.prog 88 #[.agg #[.int .i64 R, .int .i64 C, .slice (some ⟨ga, 0, none⟩) na ca], .agg #[.int .i64 R, .int .i64 R, .slice (some ⟨gu, 0, none⟩) nu cu]] w (HerRes ga gu (herX R C xs) w) := by
  have la := ha.lt
  have lu := hu.lt
  have F0 := Lib.hid (herX_start (by rw [hx, hna]) hno)
  have X0 : Hid (herX R C xs = allF R C (C - 0) 0 0 (xs, idL R R)) := rfl
  have ln : na ≤ 16777216 := by have : R * C ≤ 24 * 24 := Nat.mul_le_mul hR hC; omega
  have lm : nu ≤ 16777216 := by have : R * R ≤ 24 * 24 := Nat.mul_le_mul hR hR; omega
  have W0 : Hid (HmW R C ga gu na nu ca cu w (xs, idL R R) ((w.alloc (.cells #[.int .i64 R, .int .i64 C, .slice (some ⟨ga, 0, none⟩) na ca] 26)).alloc (.cells #[.int .i64 R, .int .i64 R, .slice (some ⟨gu, 0, none⟩) nu cu] 26))) :=
    ⟨(ha.old _).old _, (hu.old _).old _, (Blk3.at_ _ _ _ _ rfl).old _, Blk3.at_ _ _ _ _ (by simp), ((FrS.refl _ _).alloc _).alloc _⟩
  have LE : Hid (∀ (s : HSt) w' (t j : Nat), HmW R C ga gu na nu ca cu w s w' → Siz R C s → okS s = true → t ≤ R → j < C → Calls Try.prog 137 #[.agg #[.int .i64 R, .int .i64 C, .slice (some ⟨ga, 0, none⟩) na ca], .int .i64 t, .int .i64 j] w' (Gives (.int .i64 (leastS R C j t s)) w')) := fun s w' t j h1 h2 h3 h4 h5 => sLeast R C _ na ca j t s w' h1.a.rd (by rw [h2.l1, hna]) hna hR hC h5 h4 (okS_and h3).1
  have AL : Hid (∀ (s : HSt) w' (t j p : Nat), HmW R C ga gu na nu ca cu w s w' → Siz R C s → t ≤ R → j < C → p < R → Calls Try.prog 138 #[.agg #[.int .i64 R, .int .i64 C, .slice (some ⟨ga, 0, none⟩) na ca], .int .i64 t, .int .i64 j, .int .i64 p] w' (Gives (.bool (aloneB R C p j t s)) w')) := fun s w' t j p h1 h2 h3 h4 h5 => sAlone R C _ na ca p j t s w' h1.a.rd (by rw [h2.l1, hna]) hna hR hC h4 h3 h5
  have CE : Hid (∀ (s : HSt) w' (i j : Nat), HmW R C ga gu na nu ca cu w s w' → Siz R C s → i < R → j < C → Calls Try.prog 63 #[.agg #[.int .i64 R, .int .i64 C, .slice (some ⟨ga, 0, none⟩) na ca], .int .i64 i, .int .i64 j] w' (Gives (.int .i64 (celS C s i j)) w')) := fun s w' i j h1 h2 h3 h4 => sCel R C _ na ca i j s.1 w' h1.a.rd (by rw [h2.l1, hna]) hna hR hC h3 h4
  have OP : Hid (∀ (s : HSt) w' (k z : Int) (I J : Nat), HmW R C ga gu na nu ca cu w s w' → Siz R C s → I < R → J < R → (k = 0 ∨ k = 1 ∨ k = 2) → (k = 0 → I ≠ J) → Calls Try.prog 108 #[.agg #[.int .i64 R, .int .i64 C, .slice (some ⟨ga, 0, none⟩) na ca], .agg #[.int .i64 R, .int .i64 R, .slice (some ⟨gu, 0, none⟩) nu cu], .agg #[.int .i64 k, .int .i64 I, .int .i64 J, .int .i64 z]] w' (fun e w2 => Void e ∧ HmW R C ga gu na nu ca cu w (op2 R C k I J z s) w2)) := fun s w' k z I J h1 h2 h3 h4 h5 h6 => by
    refine (sOps R C I J ga gu na nu ca cu k z s w' h1.a h1.u hne (by rw [h2.l1, hna]) hna (by rw [h2.l2, hnu]) hnu hR hC h3 h4 h5 h6).mono ?_
    rintro e w2 ⟨r1, r2, r3, r4⟩
    exact ⟨r1, h1.next la lu r2 r3 r4⟩
  have BA : Hid (∀ (s : HSt) w', HmW R C ga gu na nu ca cu w s w' → Siz R C s → Calls Try.prog 111 #[.slice (some ⟨ga, 0, none⟩) na ca] w' (Gives (.bool (!nums s.1)) w')) := fun s w' h1 h2 => sBads _ na ca s.1 w' h1.a.rd (by rw [h2.l1, hna]) ln h2.m1
  have BU : Hid (∀ (s : HSt) w', HmW R C ga gu na nu ca cu w s w' → Siz R C s → Calls Try.prog 111 #[.slice (some ⟨gu, 0, none⟩) nu cu] w' (Gives (.bool (!nums s.2)) w')) := fun s w' h1 h2 => sBads _ nu cu s.2 w' h1.u.rd (by rw [h2.l2, hnu]) lm h2.m2
  have DV : Hid (∀ (x y : Int) w', NumP x → NumP y → y ≠ 0 → Calls Try.prog 139 #[.int .i64 x, .int .i64 y] w' (Gives (.tuple #[.int .i64 (x / y), .int .i64 (x % y), .bool true]) w')) := fun x y w' h1 h2 h3 => by
    refine (sDiv x y w' h1.1 h1.2 h2.1 h2.2 h3).mono ?_
    rintro e w2 ⟨rfl, rfl⟩
    exact ⟨rfl, Below.refl _ _⟩
  generalize herX R C xs = X at X0 ⊢
  obtain ⟨M, hM⟩ : ∃ M, mxC C xs = M := ⟨_, rfl⟩
  rw [hM] at F0
  have H0 : Hid (HInv R C (mxC C xs) (fun _ => 0) 0 0) := HInv.start _ _ _ _
  clear ha hu hx hna hnu hno ln lm hM
  go_enter Try.func88, Try.ntmps88
  go_wp2_with fail
  generalize (w.alloc (.cells #[.int .i64 R, .int .i64 C, .slice (some ⟨ga, 0, none⟩) na ca] 26)).alloc (.cells #[.int .i64 R, .int .i64 R, .slice (some ⟨gu, 0, none⟩) nu cu] 26) = W0' at W0 ⊢
  go_loopw [4, 5, 6, 7, 8, 9, 10, 11, 12, 13, 14, 15] (fun _ v5 v6 _ _ _ _ _ _ _ _ _ wq => ∃ (j t : Nat) (s : HSt) (q : Nat → Nat), v5 = .int .i64 t ∧ v6 = .int .i64 j ∧ t ≤ R ∧ j ≤ C ∧ Fin2 R C M s ∧ HInv R C (mxC C s.1) q t j ∧ X = allF R C (C - j) j t s ∧ HmW R C ga gu na nu ca cu w s wq) (fun _ _ v6 _ _ _ _ _ _ _ _ _ _ => C - (intOf v6).toNat)
  case atStart => exact ⟨0, 0, (xs, idL R R), fun _ => 0, rfl, rfl, Nat.zero_le _, Nat.zero_le _, F0.out, H0.out, X0.out, W0.out⟩
  case round =>
    clear W0 F0 X0 H0
    obtain ⟨j, t, s, q, rfl, rfl, ht, hj, hF, hI, hX, hW⟩ := hrel
    have FN := Lib.hid hF
    have IN := Lib.hid hI
    have EX := Lib.hid hX
    have WS := Lib.hid hW
    clear hF hI hX hW
    obtain ⟨p0, p1, p2, -, -, -⟩ := WS.out.k2.all
    by_cases hjC : j < C
    rotate_left
    · obtain rfl : j = C := by omega
      have V : Hid (X = some s) := by refine Lib.hid ?_; rw [EX.out, Nat.sub_self]; rfl
      go_wp2_with fail
      rw [V.out]
      exact bodyPost_ret (v := .bool true) (by simp [results, Try.results88, go_sem]) rfl ⟨rfl, WS.out.f, fun s' h => by cases h; exact ⟨WS.out.a, WS.out.u⟩⟩
    by_cases htR : t < R
    rotate_left
    · have V : Hid (X = some s) := by refine Lib.hid ?_; rw [EX.out, all_full htR]
      go_wp2_with fail
      rw [V.out]
      exact bodyPost_ret (v := .bool true) (by simp [results, Try.results88, go_sem]) rfl ⟨rfl, WS.out.f, fun s' h => by cases h; exact ⟨WS.out.a, WS.out.u⟩⟩
    obtain ⟨m, hm⟩ : ∃ m, C - j = m + 1 := ⟨C - j - 1, by omega⟩
    have EX : Hid (X = allF R C (m + 1) j t s) := by rw [← hm]; exact EX.out
    have EM : Hid (C - (j + 1) = m) := by show _ = _; omega
    clear hm
    have LE1 := Lib.hid (LE.out s wr t j WS.out FN.out.siz FN.out.ok ht hjC)
    go_wp2_with fail
    refine LE1.out.mono ?_
    rintro e w3 ⟨rfl, hb3⟩
    have W3 := Lib.hid (WS.out.step hb3)
    clear hb3 LE1 WS p0 p1 p2
    rcases leastS_says R C j t s ht with ⟨hl, hz⟩ | ⟨p, hL⟩
    · have EX : Hid (X = allF R C m (j + 1) t s) := by refine Lib.hid ?_; rw [EX.out, all_some htR (col_skip hl)]
      have I2 := Lib.hid (IN.out.skip hjC hz)
      rw [hl]
      clear hl hz
      go_wp2_with fail
      go_roundw
      case rel => exact ⟨j + 1, t, s, q, rfl, by go_num, ht, by omega, FN.out, I2.out, by rw [EM.out]; exact EX.out, W3.out⟩
      case measure => simp [intOf]; omega
    have hlp := hL.1
    have LP := Lib.hid hL
    rw [hlp]
    have ELP := Lib.hid hlp
    clear hL hlp
    have n5 : ¬ (p : Int) < 0 := by omega
    obtain ⟨f0, hf0⟩ : ∃ f0, (celS C s p j).natAbs + 1 = f0 := ⟨_, rfl⟩
    have FU : Hid (Fuel R C j t f0 s p) := by rw [← hf0]; exact Fuel.start R C j t s p
    obtain ⟨LF, hLF⟩ : ∃ LF, loopF R C j t f0 s p = LF := ⟨_, rfl⟩
    have CN : Hid (LF = none → X = none) := fun h => by rw [EX.out]; exact all_none htR (col_none ELP.out (by rw [hf0, hLF, h]))
    have CB : Hid (∀ s1 p1, LF = some (s1, p1) → okS (pvS R C j t p1 s1) = false → X = none) := fun s1 p1 h ho => by rw [EX.out]; exact all_none htR (col_bad ELP.out (by rw [hf0, hLF, h]) ho)
    have CO : Hid (∀ s1 p1, LF = some (s1, p1) → okS (pvS R C j t p1 s1) = true → X = allF R C m (j + 1) (t + 1) (pvS R C j t p1 s1)) := fun s1 p1 h ho => by rw [EX.out]; exact all_some htR (col_ok ELP.out (by rw [hf0, hLF, h]) ho)
    have CS : Hid (∀ s1 p1, LF = some (s1, p1) → okS (pvS R C j t p1 s1) = true → Fin2 R C M (pvS R C j t p1 s1) ∧ ∃ q', HInv R C (mxC C (pvS R C j t p1 s1).1) q' (t + 1) (j + 1)) := fun s1 p1 h ho => colF_says FN.out IN.out hjC htR (col_ok ELP.out (by rw [hf0, hLF, h]) ho)
    clear hf0
    go_wp2_with fail
    go_loopg [4, 7, 8, 9, 10, 11] f0 (fun gk _ v7 _ _ _ _ wq => ∃ (s1 : HSt) (p1 : Nat), v7 = .int .i64 p1 ∧ Fuel R C j t gk s1 p1 ∧ loopF R C j t gk s1 p1 = LF ∧ Fin2 R C M s1 ∧ HInv R C (mxC C s1.1) q t j ∧ t ≤ p1 ∧ p1 < R ∧ celS C s1 p1 j ≠ 0 ∧ HmW R C ga gu na nu ca cu w s1 wq)
    case atStart => exact ⟨s, p, rfl, FU.out, hLF, FN.out, IN.out, LP.out.2.1, LP.out.2.2.1, LP.out.2.2.2.1, W3.out⟩
    case round =>
      clear FU W3 n5 hLF ELP EX LP FN IN
      obtain ⟨s1, p1, rfl, hfu, hlf, hF, hI, htp, hpR, hpz, hW⟩ := hrel
      have FU := Lib.hid hfu
      have EL := Lib.hid hlf
      have FN := Lib.hid hF
      have IN := Lib.hid hI
      have PZ := Lib.hid hpz
      have WS := Lib.hid hW
      clear hfu hlf hF hI hpz hW
      obtain ⟨p0, p1', p2, -, -, -⟩ := WS.out.k2.all
      have AL1 := Lib.hid (AL.out s1 wr t j p1 WS.out FN.out.siz ht hjC hpR)
      obtain ⟨al, hal⟩ : ∃ al, aloneB R C p1 j t s1 = al := ⟨_, rfl⟩
      rw [hal] at AL1
      have HAL := Lib.hid hal
      clear hal
      go_wp2_with fail
      refine AL1.out.mono ?_
      rintro e w4 ⟨rfl, hb4⟩
      have W4 := Lib.hid (WS.out.step hb4)
      clear hb4 AL1 WS p0 p1' p2
      cases al with
      | true =>
        have EL : Hid (LF = some (s1, p1)) := by refine Lib.hid ?_; rw [← EL.out]; exact loopF_alone FU.out.1 HAL.out
        have O1 := Lib.hid (ok_sw (C := C) (R := R) (p := p1) (t := t) FN.out.ok)
        obtain ⟨F1, I1, Z1, Y1⟩ := swS_says FN.out IN.out hjC hpR htp PZ.out HAL.out O1.out
        have O2 := Lib.hid (ok_ng (R := R) (C := C) (j := j) (t := t) O1.out)
        obtain ⟨F2, I2, Z2, Y2⟩ := ngS_says F1 I1 hjC htR Z1 Y1 O2.out
        have SZ0 := Lib.hid FN.out.siz
        have SZ1 := Lib.hid F1.siz
        have SW1 : Hid (p1 ≠ t → op2 R C 0 p1 t 0 s1 = swS R C p1 t s1) := fun h => by unfold swS; rw [if_pos h]
        have SW2 : Hid (p1 = t → s1 = swS R C p1 t s1) := fun h => by unfold swS; rw [if_neg (fun h2 => h2 h)]
        have NG1 : Hid (celS C (swS R C p1 t s1) t j < 0 → op2 R C 1 t t 0 (swS R C p1 t s1) = ngS R C j t (swS R C p1 t s1)) := fun h => by unfold ngS; rw [if_pos h]
        have NG2 : Hid (¬ celS C (swS R C p1 t s1) t j < 0 → swS R C p1 t s1 = ngS R C j t (swS R C p1 t s1)) := fun h => by unfold ngS; rw [if_neg h]
        have FG := Lib.hid F2
        have ZG := Lib.hid Z2
        have PV : Hid (pvS R C j t p1 s1 = upF R C j t (ngS R C j t (swS R C p1 t s1)) t) := rfl
        have CB1 := Lib.hid (CB.out s1 p1 EL.out)
        have CO1 := Lib.hid (CO.out s1 p1 EL.out)
        have CS1 := Lib.hid (CS.out s1 p1 EL.out)
        rw [PV.out] at CB1 CO1 CS1
        clear F1 I1 Z1 Y1 F2 I2 Z2 Y2 PV CB CO CS CN EL IN FN PZ O1 O2 FU HAL
        generalize ngS R C j t (swS R C p1 t s1) = st2 at NG1 NG2 FG ZG CB1 CO1 CS1
        generalize swS R C p1 t s1 = st1 at SZ1 SW1 SW2 NG1 NG2
        go_upto_if 92 with fail
        go_cut [] (fun wx => HmW R C ga gu na nu ca cu w st1 wx)
        case first =>
          by_cases hpt : p1 = t
          · have n2 : ((p1 : Int) != (t : Int)) = false := by simp [hpt]
            have S2 : Hid (HmW R C ga gu na nu ca cu w st1 w4) := by refine Lib.hid ?_; rw [← SW2.out hpt]; exact W4.out
            clear hpt
            go_wp2_with fail
            go_meet
            exact S2.out
          · have n2 : ((p1 : Int) != (t : Int)) = true := by simp; omega
            have OPN := Lib.hid (OP.out s1 w4 0 0 p1 t W4.out SZ0.out hpR htR (.inl rfl) (fun _ => hpt))
            rw [SW1.out hpt] at OPN
            obtain ⟨p0, p1', p2, -, -, -⟩ := W4.out.k2.all
            obtain ⟨u0, u1, u2, -, -, -⟩ := W4.out.k3.all
            clear hpt
            go_wp2_with fail
            refine OPN.out.mono ?_
            rintro e w5 ⟨rfl, h5⟩
            have W5 := Lib.hid h5
            clear h5
            go_wp2_with fail
            go_meet
            exact W5.out
        case rest =>
          have WA := Lib.hid hcut
          clear hcut W4 SW1 SW2 SZ0
          rename World => wa
          have CE1 := Lib.hid (CE.out st1 wa t j WA.out SZ1.out htR hjC)
          obtain ⟨p0, p1', p2, -, -, -⟩ := WA.out.k2.all
          obtain ⟨x, hx⟩ : ∃ x, celS C st1 t j = x := ⟨_, rfl⟩
          rw [hx] at CE1 NG1 NG2
          clear hx
          go_wp2_with fail
          refine CE1.out.mono ?_
          rintro e w5 ⟨rfl, hb5⟩
          have W5 := Lib.hid (WA.out.step hb5)
          clear hb5 CE1 WA p0 p1' p2
          go_upto_if 103 with fail
          go_cut [] (fun wx => HmW R C ga gu na nu ca cu w st2 wx)
          case first =>
            by_cases hx0 : x < 0
            · have OPN := Lib.hid (OP.out st1 w5 1 0 t t W5.out SZ1.out htR htR (.inr (.inl rfl)) (fun h => by cases h))
              rw [NG1.out hx0] at OPN
              obtain ⟨p0, p1', p2, -, -, -⟩ := W5.out.k2.all
              obtain ⟨u0, u1, u2, -, -, -⟩ := W5.out.k3.all
              go_wp2_with fail
              refine OPN.out.mono ?_
              rintro e w6 ⟨rfl, h6⟩
              have W6 := Lib.hid h6
              clear h6
              go_wp2_with fail
              go_meet
              exact W6.out
            · have S2 : Hid (HmW R C ga gu na nu ca cu w st2 w5) := by refine Lib.hid ?_; rw [← NG2.out (by omega)]; exact W5.out
              go_wp2_with fail
              go_meet
              exact S2.out
          case rest =>
            have WA := Lib.hid hcut
            clear hcut W5 NG1 NG2 SZ1
            go_wp2_with fail
            go_loopw [12, 13, 14, 15] (fun v12 _ _ _ wq => ∃ n : Nat, v12 = .int .i64 n ∧ n ≤ t ∧ HmW R C ga gu na nu ca cu w (upF R C j t st2 n) wq) (fun v12 _ _ _ _ => t - (intOf v12).toNat)
            case atStart => exact ⟨0, rfl, Nat.zero_le _, WA.out⟩
            case round =>
              clear WA
              obtain ⟨n, rfl, hn, hW⟩ := hrel
              have WR := Lib.hid hW
              clear hW
              have SZ := Lib.hid (upF_siz (j := j) (t := t) FG.out.siz n)
              by_cases hlt : n < t
              · have KP := upF_keep FG.out.siz hjC htR n hn
                have CX := Lib.hid (KP.2 n (by omega) (Nat.le_refl _))
                have CY := Lib.hid KP.1
                clear KP
                have ES := Lib.hid (up_do FG.out.siz hjC htR hlt)
                have NX := FG.out.num n j
                have NY := FG.out.num t j
                have yz : celS C st2 t j ≠ 0 := by have := ZG.out; omega
                have C1 : Hid (∀ w', Below wr.heap.size wr w' → Calls Try.prog 63 #[.agg #[.int .i64 R, .int .i64 C, .slice (some ⟨ga, 0, none⟩) na ca], .int .i64 n, .int .i64 j] w' (Gives (.int .i64 (celS C st2 n j)) w')) := fun w' h => by rw [← CX.out]; exact CE.out _ w' n j (WR.out.step h) SZ.out (by omega) hjC
                have C2 : Hid (∀ w', Below wr.heap.size wr w' → Calls Try.prog 63 #[.agg #[.int .i64 R, .int .i64 C, .slice (some ⟨ga, 0, none⟩) na ca], .int .i64 t, .int .i64 j] w' (Gives (.int .i64 (celS C st2 t j)) w')) := fun w' h => by rw [← CY.out]; exact CE.out _ w' t j (WR.out.step h) SZ.out htR hjC
                have OPH : Hid (∀ (z : Int) w', HmW R C ga gu na nu ca cu w (upF R C j t st2 n) w' → Calls Try.prog 108 #[.agg #[.int .i64 R, .int .i64 C, .slice (some ⟨ga, 0, none⟩) na ca], .agg #[.int .i64 R, .int .i64 R, .slice (some ⟨gu, 0, none⟩) nu cu], .agg #[.int .i64 2, .int .i64 n, .int .i64 t, .int .i64 z]] w' (fun e w2 => Void e ∧ HmW R C ga gu na nu ca cu w (op2 R C 2 n t z (upF R C j t st2 n)) w2)) := fun z w' h => OP.out _ w' 2 z n t h SZ.out (by omega) htR (.inr (.inr rfl)) (fun h => by cases h)
                obtain ⟨x, hx⟩ : ∃ x, celS C st2 n j = x := ⟨_, rfl⟩
                obtain ⟨y, hy⟩ : ∃ y, celS C st2 t j = y := ⟨_, rfl⟩
                rw [hx] at ES NX C1
                rw [hy] at ES NY C2 yz
                clear hx hy CX CY
                have NQ := quot_num (x := x) (y := y) NX yz
                have DW : Hid (∀ w', Calls Try.prog 139 #[.int .i64 x, .int .i64 y] w' (Gives (.tuple #[.int .i64 (x / y), .int .i64 (x % y), .bool true]) w')) := fun w' => DV.out x y w' NX NY yz
                generalize x % y = rm at DW
                obtain ⟨qq, hqq⟩ : ∃ qq, x / y = qq := ⟨_, rfl⟩
                rw [hqq] at ES NQ DW
                obtain ⟨q1, q2⟩ := NQ
                obtain ⟨z, hz⟩ : ∃ z, -qq = z := ⟨_, rfl⟩
                have v1 : IntKind.i64.wrap (-qq) = z := by rw [hz]; exact IntWalk.i64_in _ (by omega)
                rw [hz] at ES
                clear hqq hz NX NY yz q1 q2
                go_wp2_with fail
                refine wp_region_T (S := fun w' => Below wr.heap.size wr w') (T := fun _ => false) (by kernel_rfl) (Below.refl _ _).drew (fun hH => ?_)
                refine wpAnyT_take (i := 0) (v := ?_) (by simp only [List.getElem?_toArray, List.getElem?_cons_zero]; rfl) (by kernel_rfl) (by kernel_rfl) (by kernel_rfl) (by kernel_rfl) (fun _ hj => by cases hj) (by exact fun _ _ _ h => h) (Or.inl ⟨by rfl, ?_⟩) hH ?_
                rotate_left
                · (intro wS hS; (try dsimp only at hS); obtain ⟨k1, k2, k3⟩ := WR.out.box hS; go_simp; try rfl)
                try simp only [Act.put, List.setIfInBounds_toArray, List.set_cons_zero, List.set_cons_succ]
                refine wpAnyT_take (i := 1) (v := ?_) (by simp only [List.getElem?_toArray, List.getElem?_cons_succ, List.getElem?_cons_zero]; rfl) (by kernel_rfl) (by kernel_rfl) (by kernel_rfl) (by kernel_rfl) (fun _ hj => by cases hj) (by exact fun _ _ _ h => h) (Or.inl ⟨by rfl, ?_⟩) hH ?_
                rotate_left
                · (intro wS hS; clear hS; go_simp; try rfl)
                try simp only [Act.put, List.setIfInBounds_toArray, List.set_cons_zero, List.set_cons_succ]
                refine wpAnyT_take (i := 2) (v := ?_) (by simp only [List.getElem?_toArray, List.getElem?_cons_succ, List.getElem?_cons_zero]; rfl) (by kernel_rfl) (by kernel_rfl) (by kernel_rfl) (by kernel_rfl) (fun _ hj => by cases hj) (by exact fun _ _ _ h => h) (Or.inl ⟨by rfl, ?_⟩) hH ?_
                rotate_left
                · (intro wS hS; clear hS; go_simp; try rfl)
                try simp only [Act.put, List.setIfInBounds_toArray, List.set_cons_zero, List.set_cons_succ]
                refine wpAnyT_take (i := 4) (v := ?_) (by simp only [List.getElem?_toArray, List.getElem?_cons_succ, List.getElem?_cons_zero]; rfl) (by kernel_rfl) (by kernel_rfl) (by kernel_rfl) (by kernel_rfl) (fun _ hj => by cases hj) (by exact fun _ _ _ h => h) (Or.inl ⟨by rfl, ?_⟩) hH ?_
                rotate_left
                · (intro wS hS; (try dsimp only at hS); obtain ⟨k1, k2, k3⟩ := WR.out.box hS; go_simp; try rfl)
                try simp only [Act.put, List.setIfInBounds_toArray, List.set_cons_zero, List.set_cons_succ]
                refine wpAnyT_take (i := 5) (v := ?_) (by simp only [List.getElem?_toArray, List.getElem?_cons_succ, List.getElem?_cons_zero]; rfl) (by kernel_rfl) (by kernel_rfl) (by kernel_rfl) (by kernel_rfl) (fun _ hj => by cases hj) (by exact fun _ _ _ h => h) (Or.inl ⟨by rfl, ?_⟩) hH ?_
                rotate_left
                · (intro wS hS; clear hS; go_simp; try rfl)
                try simp only [Act.put, List.setIfInBounds_toArray, List.set_cons_zero, List.set_cons_succ]
                refine wpAnyT_take (i := 6) (v := ?_) (by simp only [List.getElem?_toArray, List.getElem?_cons_succ, List.getElem?_cons_zero]; rfl) (by kernel_rfl) (by kernel_rfl) (by kernel_rfl) (by kernel_rfl) (fun _ hj => by cases hj) (by exact fun _ _ _ h => h) (Or.inl ⟨by rfl, ?_⟩) hH ?_
                rotate_left
                · (intro wS hS; clear hS; go_simp; try rfl)
                try simp only [Act.put, List.setIfInBounds_toArray, List.set_cons_zero, List.set_cons_succ]
                refine wpAnyT_ready (rs := [3]) (by kernel_rfl) (by simp) ?_
                refine AllReadyT.cons (by simp only [List.getElem?_toArray, List.getElem?_cons_succ, List.getElem?_cons_zero]; rfl) (fun K hK => ?_) AllReadyT.nil
                go_simp
                (with_reducible refine (C1.out _ hH).mono ?_)
                rintro e v1 ⟨rfl, hb1⟩
                try dsimp only
                refine hK.out _ _ (fun _ => hH.trans (hb1.mono hH.size)) ?_
                clear hK K
                have hH := hH.trans (hb1.mono hH.size)
                clear hb1
                try simp only [Act.put, List.setIfInBounds_toArray, List.set_cons_zero, List.set_cons_succ]
                refine wpAnyT_ready (rs := [7]) (by kernel_rfl) (by simp) ?_
                refine AllReadyT.cons (by simp only [List.getElem?_toArray, List.getElem?_cons_succ, List.getElem?_cons_zero]; rfl) (fun K hK => ?_) AllReadyT.nil
                go_simp
                (with_reducible refine (C2.out _ hH).mono ?_)
                rintro e v2 ⟨rfl, hb2⟩
                try dsimp only
                refine hK.out _ _ (fun _ => hH.trans (hb2.mono hH.size)) ?_
                clear hK K
                have hH := hH.trans (hb2.mono hH.size)
                clear hb2
                try simp only [Act.put, List.setIfInBounds_toArray, List.set_cons_zero, List.set_cons_succ]
                refine wpAnyT_ready (rs := [8]) (by kernel_rfl) (by simp) ?_
                refine AllReadyT.cons (by simp only [List.getElem?_toArray, List.getElem?_cons_succ, List.getElem?_cons_zero]; rfl) (fun K hK => ?_) AllReadyT.nil
                go_simp
                (with_reducible refine (DW.out _).mono ?_)
                rintro e v3 ⟨rfl, hb3⟩
                try dsimp only
                refine hK.out _ _ (fun _ => hH.trans (hb3.mono hH.size)) ?_
                clear hK K
                have hH := hH.trans (hb3.mono hH.size)
                clear hb3
                try simp only [Act.put, List.setIfInBounds_toArray, List.set_cons_zero, List.set_cons_succ]
                refine wpAnyT_take (i := 9) (v := ?_) (by simp only [List.getElem?_toArray, List.getElem?_cons_succ, List.getElem?_cons_zero]; rfl) (by kernel_rfl) (by kernel_rfl) (by kernel_rfl) (by kernel_rfl) (fun _ hj => by cases hj) (by exact fun _ _ _ h => h) (Or.inl ⟨by rfl, ?_⟩) hH ?_
                rotate_left
                · (intro wS hS; clear hS; go_simp; try rfl)
                try simp only [Act.put, List.setIfInBounds_toArray, List.set_cons_zero, List.set_cons_succ]
                refine wpAnyT_take (i := 10) (v := ?_) (by simp only [List.getElem?_toArray, List.getElem?_cons_succ, List.getElem?_cons_zero]; rfl) (by kernel_rfl) (by kernel_rfl) (by kernel_rfl) (by kernel_rfl) (fun _ hj => by cases hj) (by exact fun _ _ _ h => h) (Or.inl ⟨by rfl, ?_⟩) hH ?_
                rotate_left
                · (intro wS hS; clear hS; go_simp; try rfl)
                try simp only [Act.put, List.setIfInBounds_toArray, List.set_cons_zero, List.set_cons_succ]
                refine wpAnyT_take (i := 11) (v := ?_) (by simp only [List.getElem?_toArray, List.getElem?_cons_succ, List.getElem?_cons_zero]; rfl) (by kernel_rfl) (by kernel_rfl) (by kernel_rfl) (by kernel_rfl) (fun _ hj => by cases hj) (by exact fun _ _ _ h => h) (Or.inl ⟨by rfl, ?_⟩) hH ?_
                rotate_left
                · (intro wS hS; clear hS; go_simp; try rfl)
                try simp only [Act.put, List.setIfInBounds_toArray, List.set_cons_zero, List.set_cons_succ]
                refine wpAnyT_take (i := 12) (v := ?_) (by simp only [List.getElem?_toArray, List.getElem?_cons_succ, List.getElem?_cons_zero]; rfl) (by kernel_rfl) (by kernel_rfl) (by kernel_rfl) (by kernel_rfl) (fun _ hj => by cases hj) (by exact fun _ _ _ h => h) (Or.inl ⟨by rfl, ?_⟩) hH ?_
                rotate_left
                · (intro wS hS; clear hS; go_simp; try rfl)
                try simp only [Act.put, List.setIfInBounds_toArray, List.set_cons_zero, List.set_cons_succ]
                refine wpAnyT_take (i := 13) (v := ?_) (by simp only [List.getElem?_toArray, List.getElem?_cons_succ, List.getElem?_cons_zero]; rfl) (by kernel_rfl) (by kernel_rfl) (by kernel_rfl) (by kernel_rfl) (fun _ hj => by cases hj) (by exact fun _ _ _ h => h) (Or.inl ⟨by rfl, ?_⟩) hH ?_
                rotate_left
                · (intro wS hS; clear hS; go_simp; try rfl)
                try simp only [Act.put, List.setIfInBounds_toArray, List.set_cons_zero, List.set_cons_succ]
                refine wpAnyT_take (i := 14) (v := ?_) (by simp only [List.getElem?_toArray, List.getElem?_cons_succ, List.getElem?_cons_zero]; rfl) (by kernel_rfl) (by kernel_rfl) (by kernel_rfl) (by kernel_rfl) (fun _ hj => by cases hj) (by exact fun _ _ _ h => h) (Or.inl ⟨by rfl, ?_⟩) hH ?_
                rotate_left
                · (intro wS hS; clear hS; go_simp; try rfl)
                try simp only [Act.put, List.setIfInBounds_toArray, List.set_cons_zero, List.set_cons_succ]
                refine wpAnyT_take (i := 15) (v := ?_) (by simp only [List.getElem?_toArray, List.getElem?_cons_succ, List.getElem?_cons_zero]; rfl) (by kernel_rfl) (by kernel_rfl) (by kernel_rfl) (by kernel_rfl) (fun _ hj => by cases hj) (by exact fun _ _ _ h => h) (Or.inl ⟨by rfl, ?_⟩) hH ?_
                rotate_left
                · (intro wS hS; clear hS; go_simp; try rfl)
                try simp only [Act.put, List.setIfInBounds_toArray, List.set_cons_zero, List.set_cons_succ]
                refine wpAnyT_done (by kernel_rfl) ?_ _
                have W6 := Lib.hid (WR.out.step hH)
                obtain ⟨p0, p1', p2, -, -, -⟩ := W6.out.k2.all
                obtain ⟨u0, u1, u2, -, -, -⟩ := W6.out.k3.all
                go_wp2_with fail
                refine (OPH.out z _ W6.out).mono ?_
                rintro e w7 ⟨rfl, h7⟩
                have W7 := Lib.hid h7
                clear h7 W6 p0 p1' p2 u0 u1 u2 hH
                go_wp2_with fail
                go_roundw
                case rel => exact ⟨n + 1, by go_num, by omega, by rw [ES.out]; exact W7.out⟩
                case measure => simp [intOf]; omega
              · obtain rfl : n = t := by omega
                obtain ⟨p0, p1', p2, -, -, -⟩ := WR.out.k2.all
                have BA1 := Lib.hid (BA.out _ wr WR.out SZ.out)
                have CBX : Hid (okS (upF R C j n st2 n) = false → X = none) := fun h => CB1.out h
                have COX : Hid (okS (upF R C j n st2 n) = true → X = allF R C m (j + 1) (n + 1) (upF R C j n st2 n)) := fun h => CO1.out h
                have CSX : Hid (okS (upF R C j n st2 n) = true → Fin2 R C M (upF R C j n st2 n) ∧ ∃ q', HInv R C (mxC C (upF R C j n st2 n).1) q' (n + 1) (j + 1)) := fun h => CS1.out h
                clear CB1 CO1 CS1
                generalize upF R C j n st2 n = s2 at SZ WR BA1 CBX COX CSX
                have OK0 : Hid (okS s2 = (nums s2.1 && nums s2.2)) := rfl
                obtain ⟨n1, hn1⟩ : ∃ b, nums s2.1 = b := ⟨_, rfl⟩
                obtain ⟨n2, hn2⟩ : ∃ b, nums s2.2 = b := ⟨_, rfl⟩
                rw [hn1] at BA1
                rw [hn1, hn2] at OK0
                go_wp2_with fail
                refine BA1.out.mono ?_
                rintro e w5 ⟨rfl, hb5⟩
                have W5 := Lib.hid (WR.out.step hb5)
                clear hb5 BA1 WR p0 p1' p2
                obtain ⟨p0, p1', p2, -, -, -⟩ := W5.out.k2.all
                obtain ⟨u0, u1, u2, -, -, -⟩ := W5.out.k3.all
                cases n1 with
                | false =>
                  have V := Lib.hid (CBX.out OK0.out)
                  clear hn1 hn2
                  go_wp2_with fail
                  rw [V.out]
                  exact bodyPost_ret (v := .bool false) (by simp [results, Try.results88, go_sem]) rfl ⟨rfl, W5.out.f, fun s' h => by cases h⟩
                | true =>
                  have BU1 := Lib.hid (BU.out s2 w5 W5.out SZ.out)
                  rw [hn2] at BU1
                  clear hn1 hn2
                  go_wp2_with fail
                  refine BU1.out.mono ?_
                  rintro e w6 ⟨rfl, hb6⟩
                  have W6 := Lib.hid (W5.out.step hb6)
                  clear hb6 BU1 W5 p0 p1' p2 u0 u1 u2
                  cases n2 with
                  | false =>
                    have V := Lib.hid (CBX.out OK0.out)
                    go_wp2_with fail
                    rw [V.out]
                    exact bodyPost_ret (v := .bool false) (by simp [results, Try.results88, go_sem]) rfl ⟨rfl, W6.out.f, fun s' h => by cases h⟩
                  | true =>
                    obtain ⟨g1, q9, g2⟩ := CSX.out OK0.out
                    have F2 := Lib.hid g1
                    have I2 := Lib.hid g2
                    have V := Lib.hid (COX.out OK0.out)
                    clear g1 g2 CSX COX CBX
                    go_wp2_with fail
                    go_roundw
                    case rel => exact ⟨j + 1, n + 1, s2, q9, by go_num, by go_num, by omega, by omega, F2.out, I2.out, by rw [EM.out]; exact V.out, W6.out⟩
                    case measure => simp [intOf]; omega
      | false =>
        obtain ⟨f, rfl⟩ : ∃ f, gk = f + 1 := ⟨gk - 1, by have := FU.out.1; omega⟩
        obtain ⟨p0, p1', p2, -, -, -⟩ := W4.out.k2.all
        go_wp2_with fail
        clear p0 p1' p2
        go_loopw [8, 9, 10, 11] (fun v8 _ _ _ wq => ∃ n : Nat, v8 = .int .i64 ((t + n : Nat) : Int) ∧ t + n ≤ R ∧ HmW R C ga gu na nu ca cu w (rndF R C p1 j t s1 n) wq) (fun v8 _ _ _ _ => R - (intOf v8).toNat)
        case atStart => exact ⟨0, rfl, by omega, W4.out⟩
        case round =>
          clear W4
          obtain ⟨n, rfl, hn, hW⟩ := hrel
          have WR := Lib.hid hW
          clear hW
          obtain ⟨p0, p1', p2, -, -, -⟩ := WR.out.k2.all
          have SZ := Lib.hid (rndF_siz (p := p1) (j := j) (t := t) FN.out.siz n)
          by_cases hlt : t + n < R
          · have KP := rndF_keep (p := p1) (t := t) FN.out.siz hjC n hn
            have CX := Lib.hid (KP.2 (t + n) hlt (Nat.le_refl _))
            have CY := Lib.hid (KP.1 hpR)
            clear KP
            have ES1 : Hid (t + n = p1 ∨ celS C s1 (t + n) j = 0 → rndF R C p1 j t s1 (n + 1) = rndF R C p1 j t s1 n) := fun h => rnd_skip FN.out.siz hjC hlt h
            have ES2 : Hid (t + n ≠ p1 → celS C s1 (t + n) j ≠ 0 → rndF R C p1 j t s1 (n + 1) = op2 R C 2 (t + n) p1 (-(celS C s1 (t + n) j / celS C s1 p1 j)) (rndF R C p1 j t s1 n)) := fun h1 h2 => rnd_do FN.out.siz hjC hpR hlt h1 h2
            have NX := FN.out.num (t + n) j
            have NY := FN.out.num p1 j
            have CXC : Hid (∀ w', HmW R C ga gu na nu ca cu w (rndF R C p1 j t s1 n) w' → Calls Try.prog 63 #[.agg #[.int .i64 R, .int .i64 C, .slice (some ⟨ga, 0, none⟩) na ca], .int .i64 ((t + n : Nat) : Int), .int .i64 j] w' (Gives (.int .i64 (celS C s1 (t + n) j)) w')) := fun w' h => by rw [← CX.out]; exact CE.out _ w' (t + n) j h SZ.out hlt hjC
            have CYC : Hid (∀ w', HmW R C ga gu na nu ca cu w (rndF R C p1 j t s1 n) w' → Calls Try.prog 63 #[.agg #[.int .i64 R, .int .i64 C, .slice (some ⟨ga, 0, none⟩) na ca], .int .i64 p1, .int .i64 j] w' (Gives (.int .i64 (celS C s1 p1 j)) w')) := fun w' h => by rw [← CY.out]; exact CE.out _ w' p1 j h SZ.out hpR hjC
            have OPN : Hid (t + n ≠ p1 → ∀ (z : Int) w', HmW R C ga gu na nu ca cu w (rndF R C p1 j t s1 n) w' → Calls Try.prog 108 #[.agg #[.int .i64 R, .int .i64 C, .slice (some ⟨ga, 0, none⟩) na ca], .agg #[.int .i64 R, .int .i64 R, .slice (some ⟨gu, 0, none⟩) nu cu], .agg #[.int .i64 2, .int .i64 ((t + n : Nat) : Int), .int .i64 p1, .int .i64 z]] w' (fun e w2 => Void e ∧ HmW R C ga gu na nu ca cu w (op2 R C 2 (t + n) p1 z (rndF R C p1 j t s1 n)) w2)) := fun _ z w' h => OP.out _ w' 2 z (t + n) p1 h SZ.out hlt hpR (.inr (.inr rfl)) (fun h => by cases h)
            have yz := PZ.out
            obtain ⟨x, hx⟩ : ∃ x, celS C s1 (t + n) j = x := ⟨_, rfl⟩
            obtain ⟨y, hy⟩ : ∃ y, celS C s1 p1 j = y := ⟨_, rfl⟩
            obtain ⟨T, hT⟩ : ∃ T, t + n = T := ⟨_, rfl⟩
            rw [hx] at ES1 ES2 NX CXC
            rw [hy] at ES2 NY CYC yz
            rw [hT] at ES1 ES2 CXC OPN hlt ⊢
            have ET := Lib.hid hT
            clear hx hy hT CX CY
            by_cases hip : T = p1
            · have n1 : ((T : Int) != (p1 : Int)) = false := by simp [hip]
              have ES := Lib.hid (ES1.out (.inl hip))
              clear hip
              go_wp2_with fail
              go_roundw
              case rel => exact ⟨n + 1, by rw [← Nat.add_assoc, ET.out]; go_num, by have := ET.out; omega, by rw [ES.out]; exact WR.out⟩
              case measure => simp [intOf]; omega
            have n1 : ((T : Int) != (p1 : Int)) = true := by simp; omega
            have OPN := OPN.out hip
            have CX1 := Lib.hid (CXC.out _ WR.out)
            go_wp2_with fail
            refine CX1.out.mono ?_
            rintro e w5 ⟨rfl, hb5⟩
            have W5 := Lib.hid (WR.out.step hb5)
            clear hb5 CX1 WR p0 p1' p2
            obtain ⟨p0, p1', p2, -, -, -⟩ := W5.out.k2.all
            by_cases hx0 : x = 0
            · have n2 : (x != 0) = false := by simp [hx0]
              have ES := Lib.hid (ES1.out (.inr hx0))
              clear hx0 OPN
              go_wp2_with fail
              go_roundw
              case rel => exact ⟨n + 1, by rw [← Nat.add_assoc, ET.out]; go_num, by have := ET.out; omega, by rw [ES.out]; exact W5.out⟩
              case measure => simp [intOf]; omega
            have n2 : (x != 0) = true := by simpa using hx0
            have ES := Lib.hid (ES2.out hip hx0)
            have OPH := Lib.hid OPN
            have NQ := quot_num (x := x) (y := y) NX yz
            have DW : Hid (∀ w', Calls Try.prog 139 #[.int .i64 x, .int .i64 y] w' (Gives (.tuple #[.int .i64 (x / y), .int .i64 (x % y), .bool true]) w')) := fun w' => DV.out x y w' NX NY yz
            have C1 : Hid (∀ w', Below w5.heap.size w5 w' → Calls Try.prog 63 #[.agg #[.int .i64 R, .int .i64 C, .slice (some ⟨ga, 0, none⟩) na ca], .int .i64 (T : Int), .int .i64 j] w' (Gives (.int .i64 x) w')) := fun w' h => CXC.out w' (W5.out.step h)
            have C2 : Hid (∀ w', Below w5.heap.size w5 w' → Calls Try.prog 63 #[.agg #[.int .i64 R, .int .i64 C, .slice (some ⟨ga, 0, none⟩) na ca], .int .i64 p1, .int .i64 j] w' (Gives (.int .i64 y) w')) := fun w' h => CYC.out w' (W5.out.step h)
            generalize x % y = rm at DW
            obtain ⟨qq, hqq⟩ : ∃ qq, x / y = qq := ⟨_, rfl⟩
            rw [hqq] at ES NQ DW
            obtain ⟨q1, q2⟩ := NQ
            obtain ⟨z, hz⟩ : ∃ z, -qq = z := ⟨_, rfl⟩
            have v1 : IntKind.i64.wrap (-qq) = z := by rw [hz]; exact IntWalk.i64_in _ (by omega)
            rw [hz] at ES
            clear hx0 OPN hqq hz NX NY yz ES1 ES2 CXC CYC hip p0 p1' p2 q1 q2
            go_wp2_with fail
            refine wp_region_T (S := fun w' => Below w5.heap.size w5 w') (T := fun _ => false) (by kernel_rfl) (Below.refl _ _).drew (fun hH => ?_)
            refine wpAnyT_take (i := 0) (v := ?_) (by simp only [List.getElem?_toArray, List.getElem?_cons_zero]; rfl) (by kernel_rfl) (by kernel_rfl) (by kernel_rfl) (by kernel_rfl) (fun _ hj => by cases hj) (by exact fun _ _ _ h => h) (Or.inl ⟨by rfl, ?_⟩) hH ?_
            rotate_left
            · (intro wS hS; (try dsimp only at hS); obtain ⟨k1, k2, k3⟩ := W5.out.box hS; go_simp; try rfl)
            try simp only [Act.put, List.setIfInBounds_toArray, List.set_cons_zero, List.set_cons_succ]
            refine wpAnyT_take (i := 1) (v := ?_) (by simp only [List.getElem?_toArray, List.getElem?_cons_succ, List.getElem?_cons_zero]; rfl) (by kernel_rfl) (by kernel_rfl) (by kernel_rfl) (by kernel_rfl) (fun _ hj => by cases hj) (by exact fun _ _ _ h => h) (Or.inl ⟨by rfl, ?_⟩) hH ?_
            rotate_left
            · (intro wS hS; clear hS; go_simp; try rfl)
            try simp only [Act.put, List.setIfInBounds_toArray, List.set_cons_zero, List.set_cons_succ]
            refine wpAnyT_take (i := 2) (v := ?_) (by simp only [List.getElem?_toArray, List.getElem?_cons_succ, List.getElem?_cons_zero]; rfl) (by kernel_rfl) (by kernel_rfl) (by kernel_rfl) (by kernel_rfl) (fun _ hj => by cases hj) (by exact fun _ _ _ h => h) (Or.inl ⟨by rfl, ?_⟩) hH ?_
            rotate_left
            · (intro wS hS; clear hS; go_simp; try rfl)
            try simp only [Act.put, List.setIfInBounds_toArray, List.set_cons_zero, List.set_cons_succ]
            refine wpAnyT_take (i := 4) (v := ?_) (by simp only [List.getElem?_toArray, List.getElem?_cons_succ, List.getElem?_cons_zero]; rfl) (by kernel_rfl) (by kernel_rfl) (by kernel_rfl) (by kernel_rfl) (fun _ hj => by cases hj) (by exact fun _ _ _ h => h) (Or.inl ⟨by rfl, ?_⟩) hH ?_
            rotate_left
            · (intro wS hS; (try dsimp only at hS); obtain ⟨k1, k2, k3⟩ := W5.out.box hS; go_simp; try rfl)
            try simp only [Act.put, List.setIfInBounds_toArray, List.set_cons_zero, List.set_cons_succ]
            refine wpAnyT_take (i := 5) (v := ?_) (by simp only [List.getElem?_toArray, List.getElem?_cons_succ, List.getElem?_cons_zero]; rfl) (by kernel_rfl) (by kernel_rfl) (by kernel_rfl) (by kernel_rfl) (fun _ hj => by cases hj) (by exact fun _ _ _ h => h) (Or.inl ⟨by rfl, ?_⟩) hH ?_
            rotate_left
            · (intro wS hS; clear hS; go_simp; try rfl)
            try simp only [Act.put, List.setIfInBounds_toArray, List.set_cons_zero, List.set_cons_succ]
            refine wpAnyT_take (i := 6) (v := ?_) (by simp only [List.getElem?_toArray, List.getElem?_cons_succ, List.getElem?_cons_zero]; rfl) (by kernel_rfl) (by kernel_rfl) (by kernel_rfl) (by kernel_rfl) (fun _ hj => by cases hj) (by exact fun _ _ _ h => h) (Or.inl ⟨by rfl, ?_⟩) hH ?_
            rotate_left
            · (intro wS hS; clear hS; go_simp; try rfl)
            try simp only [Act.put, List.setIfInBounds_toArray, List.set_cons_zero, List.set_cons_succ]
            refine wpAnyT_ready (rs := [3]) (by kernel_rfl) (by simp) ?_
            refine AllReadyT.cons (by simp only [List.getElem?_toArray, List.getElem?_cons_succ, List.getElem?_cons_zero]; rfl) (fun K hK => ?_) AllReadyT.nil
            go_simp
            (with_reducible refine (C1.out _ hH).mono ?_)
            rintro e v1 ⟨rfl, hb1⟩
            try dsimp only
            refine hK.out _ _ (fun _ => hH.trans (hb1.mono hH.size)) ?_
            clear hK K
            have hH := hH.trans (hb1.mono hH.size)
            clear hb1
            try simp only [Act.put, List.setIfInBounds_toArray, List.set_cons_zero, List.set_cons_succ]
            refine wpAnyT_ready (rs := [7]) (by kernel_rfl) (by simp) ?_
            refine AllReadyT.cons (by simp only [List.getElem?_toArray, List.getElem?_cons_succ, List.getElem?_cons_zero]; rfl) (fun K hK => ?_) AllReadyT.nil
            go_simp
            (with_reducible refine (C2.out _ hH).mono ?_)
            rintro e v2 ⟨rfl, hb2⟩
            try dsimp only
            refine hK.out _ _ (fun _ => hH.trans (hb2.mono hH.size)) ?_
            clear hK K
            have hH := hH.trans (hb2.mono hH.size)
            clear hb2
            try simp only [Act.put, List.setIfInBounds_toArray, List.set_cons_zero, List.set_cons_succ]
            refine wpAnyT_ready (rs := [8]) (by kernel_rfl) (by simp) ?_
            refine AllReadyT.cons (by simp only [List.getElem?_toArray, List.getElem?_cons_succ, List.getElem?_cons_zero]; rfl) (fun K hK => ?_) AllReadyT.nil
            go_simp
            (with_reducible refine (DW.out _).mono ?_)
            rintro e v3 ⟨rfl, hb3⟩
            try dsimp only
            refine hK.out _ _ (fun _ => hH.trans (hb3.mono hH.size)) ?_
            clear hK K
            have hH := hH.trans (hb3.mono hH.size)
            clear hb3
            try simp only [Act.put, List.setIfInBounds_toArray, List.set_cons_zero, List.set_cons_succ]
            refine wpAnyT_take (i := 9) (v := ?_) (by simp only [List.getElem?_toArray, List.getElem?_cons_succ, List.getElem?_cons_zero]; rfl) (by kernel_rfl) (by kernel_rfl) (by kernel_rfl) (by kernel_rfl) (fun _ hj => by cases hj) (by exact fun _ _ _ h => h) (Or.inl ⟨by rfl, ?_⟩) hH ?_
            rotate_left
            · (intro wS hS; clear hS; go_simp; try rfl)
            try simp only [Act.put, List.setIfInBounds_toArray, List.set_cons_zero, List.set_cons_succ]
            refine wpAnyT_take (i := 10) (v := ?_) (by simp only [List.getElem?_toArray, List.getElem?_cons_succ, List.getElem?_cons_zero]; rfl) (by kernel_rfl) (by kernel_rfl) (by kernel_rfl) (by kernel_rfl) (fun _ hj => by cases hj) (by exact fun _ _ _ h => h) (Or.inl ⟨by rfl, ?_⟩) hH ?_
            rotate_left
            · (intro wS hS; clear hS; go_simp; try rfl)
            try simp only [Act.put, List.setIfInBounds_toArray, List.set_cons_zero, List.set_cons_succ]
            refine wpAnyT_take (i := 11) (v := ?_) (by simp only [List.getElem?_toArray, List.getElem?_cons_succ, List.getElem?_cons_zero]; rfl) (by kernel_rfl) (by kernel_rfl) (by kernel_rfl) (by kernel_rfl) (fun _ hj => by cases hj) (by exact fun _ _ _ h => h) (Or.inl ⟨by rfl, ?_⟩) hH ?_
            rotate_left
            · (intro wS hS; clear hS; go_simp; try rfl)
            try simp only [Act.put, List.setIfInBounds_toArray, List.set_cons_zero, List.set_cons_succ]
            refine wpAnyT_take (i := 12) (v := ?_) (by simp only [List.getElem?_toArray, List.getElem?_cons_succ, List.getElem?_cons_zero]; rfl) (by kernel_rfl) (by kernel_rfl) (by kernel_rfl) (by kernel_rfl) (fun _ hj => by cases hj) (by exact fun _ _ _ h => h) (Or.inl ⟨by rfl, ?_⟩) hH ?_
            rotate_left
            · (intro wS hS; clear hS; go_simp; try rfl)
            try simp only [Act.put, List.setIfInBounds_toArray, List.set_cons_zero, List.set_cons_succ]
            refine wpAnyT_take (i := 13) (v := ?_) (by simp only [List.getElem?_toArray, List.getElem?_cons_succ, List.getElem?_cons_zero]; rfl) (by kernel_rfl) (by kernel_rfl) (by kernel_rfl) (by kernel_rfl) (fun _ hj => by cases hj) (by exact fun _ _ _ h => h) (Or.inl ⟨by rfl, ?_⟩) hH ?_
            rotate_left
            · (intro wS hS; clear hS; go_simp; try rfl)
            try simp only [Act.put, List.setIfInBounds_toArray, List.set_cons_zero, List.set_cons_succ]
            refine wpAnyT_take (i := 14) (v := ?_) (by simp only [List.getElem?_toArray, List.getElem?_cons_succ, List.getElem?_cons_zero]; rfl) (by kernel_rfl) (by kernel_rfl) (by kernel_rfl) (by kernel_rfl) (fun _ hj => by cases hj) (by exact fun _ _ _ h => h) (Or.inl ⟨by rfl, ?_⟩) hH ?_
            rotate_left
            · (intro wS hS; clear hS; go_simp; try rfl)
            try simp only [Act.put, List.setIfInBounds_toArray, List.set_cons_zero, List.set_cons_succ]
            refine wpAnyT_take (i := 15) (v := ?_) (by simp only [List.getElem?_toArray, List.getElem?_cons_succ, List.getElem?_cons_zero]; rfl) (by kernel_rfl) (by kernel_rfl) (by kernel_rfl) (by kernel_rfl) (fun _ hj => by cases hj) (by exact fun _ _ _ h => h) (Or.inl ⟨by rfl, ?_⟩) hH ?_
            rotate_left
            · (intro wS hS; clear hS; go_simp; try rfl)
            try simp only [Act.put, List.setIfInBounds_toArray, List.set_cons_zero, List.set_cons_succ]
            refine wpAnyT_done (by kernel_rfl) ?_ _
            have W6 := Lib.hid (W5.out.step hH)
            obtain ⟨p0, p1', p2, -, -, -⟩ := W6.out.k2.all
            obtain ⟨u0, u1, u2, -, -, -⟩ := W6.out.k3.all
            go_wp2_with fail
            refine (OPH.out z _ W6.out).mono ?_
            rintro e w7 ⟨rfl, h7⟩
            have W7 := Lib.hid h7
            clear h7 W5 W6 p0 p1' p2 u0 u1 u2 hH
            go_wp2_with fail
            go_roundw
            case rel => exact ⟨n + 1, by rw [← Nat.add_assoc, ET.out]; go_num, by have := ET.out; omega, by rw [ES.out]; exact W7.out⟩
            case measure => simp [intOf]; omega
          · have hnR : n = R - t := by omega
            have SZA : Hid (Siz R C (rndA R C p1 j t s1)) := by refine Lib.hid ?_; unfold rndA; rw [← hnR]; exact SZ.out
            have WA : Hid (HmW R C ga gu na nu ca cu w (rndA R C p1 j t s1) wr) := by refine Lib.hid ?_; unfold rndA; rw [← hnR]; exact WR.out
            have BAD : Hid (okS (rndA R C p1 j t s1) = false → X = none) := fun ho => CN.out (by rw [← EL.out]; exact loopF_bad HAL.out ho)
            have NXT : Hid (okS (rndA R C p1 j t s1) = true → Fin2 R C M (rndA R C p1 j t s1) ∧ HInv R C (mxC C (rndA R C p1 j t s1).1) q t j ∧ ∃ p', LeastP R C j t (rndA R C p1 j t s1) p' ∧ Fuel R C j t f (rndA R C p1 j t s1) p') := fun ho => loop_next FN.out IN.out hjC hpR htp PZ.out HAL.out FU.out ho
            have STP : Hid (∀ p' : Nat, okS (rndA R C p1 j t s1) = true → leastS R C j t (rndA R C p1 j t s1) = (p' : Int) → loopF R C j t f (rndA R C p1 j t s1) p' = LF) := fun p' ho h => by rw [← EL.out]; exact (loopF_step HAL.out ho h).symm
            clear WR SZ hnR EL FU HAL FN IN PZ
            generalize rndA R C p1 j t s1 = s2 at SZA WA BAD NXT STP
            have BA1 := Lib.hid (BA.out s2 wr WA.out SZA.out)
            have OK0 : Hid (okS s2 = (nums s2.1 && nums s2.2)) := rfl
            obtain ⟨n1, hn1⟩ : ∃ b, nums s2.1 = b := ⟨_, rfl⟩
            obtain ⟨n2, hn2⟩ : ∃ b, nums s2.2 = b := ⟨_, rfl⟩
            rw [hn1] at BA1
            rw [hn1, hn2] at OK0
            go_wp2_with fail
            refine BA1.out.mono ?_
            rintro e w5 ⟨rfl, hb5⟩
            have W5 := Lib.hid (WA.out.step hb5)
            clear hb5 BA1 WA p0 p1' p2
            obtain ⟨p0, p1', p2, -, -, -⟩ := W5.out.k2.all
            obtain ⟨u0, u1, u2, -, -, -⟩ := W5.out.k3.all
            cases n1 with
            | false =>
              have V := Lib.hid (BAD.out OK0.out)
              clear hn1 hn2
              go_wp2_with fail
              rw [V.out]
              exact bodyPost_ret (v := .bool false) (by simp [results, Try.results88, go_sem]) rfl ⟨rfl, W5.out.f, fun s' h => by cases h⟩
            | true =>
              have BU1 := Lib.hid (BU.out s2 w5 W5.out SZA.out)
              rw [hn2] at BU1
              clear hn1 hn2
              go_wp2_with fail
              refine BU1.out.mono ?_
              rintro e w6 ⟨rfl, hb6⟩
              have W6 := Lib.hid (W5.out.step hb6)
              clear hb6 BU1 W5 p0 p1' p2 u0 u1 u2
              obtain ⟨p0, p1', p2, -, -, -⟩ := W6.out.k2.all
              cases n2 with
              | false =>
                have V := Lib.hid (BAD.out OK0.out)
                go_wp2_with fail
                rw [V.out]
                exact bodyPost_ret (v := .bool false) (by simp [results, Try.results88, go_sem]) rfl ⟨rfl, W6.out.f, fun s' h => by cases h⟩
              | true =>
                obtain ⟨g1, g2, p9, g3, g4⟩ := NXT.out OK0.out
                have F2 := Lib.hid g1
                have I2 := Lib.hid g2
                have L2 := Lib.hid g3
                have U2 := Lib.hid g4
                have S2 := Lib.hid (STP.out p9 OK0.out g3.1)
                have LE2 := Lib.hid (LE.out s2 w6 t j W6.out SZA.out OK0.out ht hjC)
                rw [g3.1] at LE2
                clear g1 g2 g3 g4 NXT STP BAD
                go_wp2_with fail
                refine LE2.out.mono ?_
                rintro e w7 ⟨rfl, hb7⟩
                have W7 := Lib.hid (W6.out.step hb7)
                clear hb7 LE2 W6 p0 p1' p2
                go_wp2_with fail
                go_roundg f
                case measure => omega
                case rel => exact ⟨s2, p9, rfl, U2.out, S2.out, F2.out, I2.out, L2.out.2.1, L2.out.2.2.1, L2.out.2.2.2.1, W7.out⟩
end Go.Proofs.Ytpelnfenfeoeeaa
end

section
/-
  The drawing of a unimodular matrix.
-/
namespace Go.Proofs.Ytpelnfenfeoeeaa
set_option maxRecDepth 100000
open Go.RowKit
set_option maxRecDepth 100000 in
set_option maxHeartbeats 1000000 in
theorem sIdentC (n : Nat) (w : World) (hn : n ≤ 24) :
    Calls Try.prog 55 #[.int .i64 n] w (fun e w' => ∃ g : Nat, e = .returned (.tuple #[.agg #[.int .i64 n, .int .i64 n, .slice (some ⟨g, 0, none⟩) (n * n) (n * n)], .bool true]) ∧ w.heap.size ≤ g ∧ IntsC w' g (n * n) (idL n n) ∧ Below w.heap.size w w') := by
  have hle : n * n ≤ 24 * 24 := Nat.mul_le_mul hn hn
  have B0 : ∀ o1, Below w.heap.size w (w.alloc o1) := fun o1 => (Below.refl _ _).alloc (Nat.le_refl _) _
  have BH := Lib.hid B0
  clear B0
  go_enter Try.func55, Try.ntmps55
  go_wp2_with fail
  refine (sIn_t n 0 24 _ (by omega) (by omega)).mono ?_
  rintro e w2 ⟨rfl, rfl⟩
  go_wp2_with fail
  have K2 : Hid (Blk3 (w.alloc (.cells #[.int .i64 0, .int .i64 0, .slice none 0 0] 26)) w.heap.size 26 (.int .i64 0) (.int .i64 0) (.slice none 0 0)) := Blk3.at_ _ _ _ _ rfl
  have B := Lib.hid (BH.out (.cells #[.int .i64 0, .int .i64 0, .slice none 0 0] 26))
  refine (sNewC n n _ (by omega) (by omega)).mono ?_
  rintro e w3 ⟨g, rfl, hg, hi, hb⟩
  have l2 := Nat.lt_of_lt_of_le K2.out.lt hg
  clear hg
  obtain ⟨N, hN⟩ : ∃ N, n * n = N := ⟨_, rfl⟩
  have HN := Lib.hid hN
  rw [hN] at hi hle ⊢
  clear hN
  have K2 := Lib.hid (K2.out.keep hb K2.out.lt)
  have B := Lib.hid (B.out.trans (hb.mono B.out.size))
  have I := Lib.hid hi
  have gl := hi.lt
  clear hb hi
  have BA : Hid (Below w.heap.size w (w3.alloc (.cells #[.int .i64 n, .int .i64 n, .slice (some ⟨g, 0, none⟩) N N] 26))) := B.out.alloc B.out.size _
  have K2 := Lib.hid (K2.out.old (.cells #[.int .i64 n, .int .i64 n, .slice (some ⟨g, 0, none⟩) N N] 26))
  have K6 : Hid (Blk3 (w3.alloc (.cells #[.int .i64 n, .int .i64 n, .slice (some ⟨g, 0, none⟩) N N] 26)) w3.heap.size 26 (.int .i64 n) (.int .i64 n) (.slice (some ⟨g, 0, none⟩) N N)) := Blk3.at_ _ _ _ _ rfl
  have I := Lib.hid (I.out.old (.cells #[.int .i64 n, .int .i64 n, .slice (some ⟨g, 0, none⟩) N N] 26))
  go_wp2_with fail
  go_loopw [5] (fun i wr => ∃ k : Nat, i = .int .i64 k ∧ k ≤ n ∧ IntsC wr g N (idL n k) ∧ (w3.alloc (.cells #[.int .i64 n, .int .i64 n, .slice (some ⟨g, 0, none⟩) N N] 26)).grownBy wr (some g)) (fun i _ => n - (intOf i).toNat)
  case atStart => exact ⟨0, rfl, by omega, by rw [idL_zero, HN.out]; exact I.out, World.grownBy.refl _ _⟩
  case round =>
    obtain ⟨k, rfl, hk, hi, hgr⟩ := hrel
    have I := Lib.hid hi
    have G := Lib.hid hgr
    clear hi hgr
    have R2 := Lib.hid (K2.out.keepOne G.out (by omega))
    have R6 := Lib.hid (K6.out.keepOne G.out (by omega))
    obtain ⟨r0, r1, r2, -, -, -⟩ := R6.out.all
    by_cases hlt : k < n
    · have i1 : k * n + k < N := by rw [← HN.out]; exact idx_lt hlt hlt
      have hold := I.out.ints.cell (i := k * n + k) (by rw [idL_length, HN.out]; exact i1)
      rw [idL_at] at hold
      have hfr := I.out.ints.free (k * n + k)
      have c1 : (k : Int) * (n : Int) = ((k * n : Nat) : Int) := (Int.natCast_mul _ _).symm
      have d1 : 0 ≤ (k : Int) * (n : Int) ∧ (k : Int) * (n : Int) ≤ 600 := by rw [c1]; omega
      have e1 : 0 ≤ (k : Int) * (n : Int) + (k : Int) := by omega
      have e2 : (k : Int) * (n : Int) + (k : Int) < (N : Int) := by rw [c1]; omega
      have e3 : ((k : Int) * (n : Int) + (k : Int)).toNat = k * n + k := by rw [c1]; omega
      obtain ⟨d11, d12⟩ := d1
      have v1 : IntKind.i64.wrap ((k : Int) * (n : Int)) = (k : Int) * (n : Int) := IntWalk.i64_in _ (by omega)
      have v2 : IntKind.i64.wrap ((k : Int) * (n : Int) + (k : Int)) = (k : Int) * (n : Int) + (k : Int) := IntWalk.i64_in _ (by omega)
      clear c1
      go_wp2_with fail
      go_roundw
      case rel =>
        refine ⟨k + 1, by go_num, by omega, ?_, ?_⟩
        · rw [← idL_step]
          first | exact I.out.set (k * n + k) (by rw [idL_length, HN.out]; exact i1) _ | exact I.out.drew.set (k * n + k) (by rw [idL_length, HN.out]; exact i1) _
        · first | exact grown_set_one G.out rfl _ | exact grown_drew_one (grown_set_one G.out rfl _)
      case measure => simp [intOf]; omega
    · have hkn : k = n := by omega
      subst hkn
      have BW := Lib.hid (BA.out.trans (below_of_one G.out (by omega) BA.out.size))
      obtain ⟨s0, s1, s2, t0, t1, t2⟩ := R2.out.all
      go_wp2_with fail
      obtain ⟨E0, E1, E2, -, -, -⟩ := (((R2.out.set0 (.int .i64 k)).set1 (.int .i64 k)).set2 (.slice (some ⟨g, 0, none⟩) N N)).all
      refine bodyPost_ret (v := .tuple #[.agg #[.int .i64 k, .int .i64 k, .slice (some ⟨g, 0, none⟩) N N], .bool true]) (by simp [results, Try.results55, go_sem, E0, E1, E2]) rfl ⟨g, by rw [HN.out], by omega, ?_, ?_⟩
      · rw [HN.out]
        exact ((I.out.far (by show g ≠ w.heap.size; omega) _).far (by show g ≠ w.heap.size; omega) _).far (by show g ≠ w.heap.size; omega) _
      · exact ((BW.out.setCell (Nat.le_refl _) _).setCell (Nat.le_refl _) _).setCell (Nat.le_refl _) _
end Go.Proofs.Ytpelnfenfeoeeaa
end
