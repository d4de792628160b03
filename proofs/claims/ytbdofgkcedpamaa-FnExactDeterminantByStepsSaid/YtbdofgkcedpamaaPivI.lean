/-
  Chapter 6, in the program: the pivot's row, rows swapped in place.
-/
import Derived.Test.YtbdofgkcedpamaaMatI
import Derived.Test.YtbdofgkcedpamaaElTo
import Derived.Test.YtbdofgkcedpamaaRow3
import Derived.Test.YtbdofgkcedpamaaFoldM
import Derived.StillTailTactics
import Derived.Deep.DeepCutAuto
import Derived.Deep.RegionHeld3
import Derived.BigQuiet
import Derived.IntWalk
namespace Go.Proofs.Ytbdofgkcedpamaa
set_option maxRecDepth 100000
open Go.RowKit

/-- What pivotRow answers. -/
def pvI (n t : Nat) (zs : List Int) : Int := if pivP n t zs = n then -1 else (pivP n t zs : Int)
set_option maxHeartbeats 1000000 in
theorem iPivot (n t N cap g : Nat) (zs : List Int) (w : World) (hN : n * n = N) (hz : zs.length = N) (ht : t < n) (h6 : n ≤ 6) (hi : Ints w g zs) :
    Calls Try.prog 54 #[.agg #[.int .i64 n, .int .i64 n, .slice (some ⟨g, 0, none⟩) N cap], .int .i64 t, .int .i64 t] w (Gives (.int .i64 (pvI n t zs)) w) := by
  have hle : n * n ≤ 6 * 6 := Nat.mul_le_mul h6 h6
  rw [hN] at hle
  have HN := Lib.hid hN
  have HZ := Lib.hid hz
  have BW : Hid (Below w.heap.size w (w.alloc (.cells #[.int .i64 n, .int .i64 n, .slice (some ⟨g, 0, none⟩) N cap] 26))) := (Below.refl _ _).alloc (Nat.le_refl _) _
  have K0 : Hid (Blk3 (w.alloc (.cells #[.int .i64 n, .int .i64 n, .slice (some ⟨g, 0, none⟩) N cap] 26)) w.heap.size 26 (.int .i64 n) (.int .i64 n) (.slice (some ⟨g, 0, none⟩) N cap)) := Blk3.at_ _ _ _ _ rfl
  have I := Lib.hid (hi.old (.cells #[.int .i64 n, .int .i64 n, .slice (some ⟨g, 0, none⟩) N cap] 26))
  clear hN hz hi
  go_enter Try.func54, Try.ntmps54
  go_wp2_with fail
  generalize w.alloc (.cells #[.int .i64 n, .int .i64 n, .slice (some ⟨g, 0, none⟩) N cap] 26) = W at BW K0 I
  obtain ⟨p0, p1, p2, -, -, -⟩ := K0.out.all
  go_loopw [6, 7] (fun _ v7 wq => ∃ p : Nat, v7 = .int .i64 p ∧ t ≤ p ∧ p ≤ n ∧ (∀ r, t ≤ r → r < p → zs.getD (r * n + t) 0 = 0) ∧ wq = W) (fun _ v7 _ => n - (intOf v7).toNat)
  case atStart => exact ⟨t, rfl, Nat.le_refl _, by omega, fun r h1 h2 => by omega, rfl⟩
  case round =>
    obtain ⟨p, rfl, hp1, hp2, hp0, rfl⟩ := hrel
    have P0 := Lib.hid hp0
    clear hp0
    by_cases hpn : p < n
    · have cp : (p : Int) * (n : Int) = ((p * n : Nat) : Int) := (Int.natCast_mul _ _).symm
      have jp : p * n + t < N := by rw [← HN.out]; exact idx_lt (by omega) (by omega)
      have dp : 0 ≤ (p : Int) * (n : Int) ∧ (p : Int) * (n : Int) ≤ 600 := by rw [cp]; omega
      have ep0 : 0 ≤ (p : Int) * (n : Int) + (t : Int) := by omega
      have ep1 : (p : Int) * (n : Int) + (t : Int) < (N : Int) := by rw [cp]; omega
      have ep2 : ((p : Int) * (n : Int) + (t : Int)).toNat = p * n + t := by rw [cp]; omega
      obtain ⟨dp0, dp1⟩ := dp
      have vp0 : IntKind.i64.wrap ((p : Int) * (n : Int)) = (p : Int) * (n : Int) := IntWalk.i64_in _ (by omega)
      have vp1 : IntKind.i64.wrap ((p : Int) * (n : Int) + (t : Int)) = (p : Int) * (n : Int) + (t : Int) := IntWalk.i64_in _ (by omega)
      clear cp
      have hc := I.out.cell (i := p * n + t) (by rw [HZ.out]; exact jp)
      obtain ⟨x, hxx⟩ : ∃ x, zs.getD (p * n + t) 0 = x := ⟨_, rfl⟩
      have X := Lib.hid hxx
      rw [hxx] at hc
      clear hxx
      by_cases h0 : x = 0
      · have n1 : (x != 0) = false := by simp [h0]
        have n2 : (x == 0) = true := by simp [h0]
        have P1 : Hid (∀ r, t ≤ r → r < p + 1 → zs.getD (r * n + t) 0 = 0) := fun r h1 h2 => by
          rcases Nat.lt_or_ge r p with h3 | h3
          · exact P0.out r h1 h3
          · obtain rfl : r = p := by omega
            rw [X.out, h0]
        clear h0
        go_wp2_with fail
        go_roundw
        case rel => exact ⟨p + 1, by go_num, by omega, by omega, P1.out, trivial⟩
        case measure => simp [intOf]; omega
      · have n1 : (x != 0) = true := by simpa using h0
        have n2 : (x == 0) = false := by simpa using h0
        have PV : Hid (pvI n t zs = p) := by
          have e : pivP n t zs = p := pivP_eq hp1 hp2 P0.out fun _ => by rw [X.out]; exact h0
          show pvI n t zs = p
          unfold pvI
          rw [e, if_neg (by omega)]
        clear h0
        go_wp2_with fail
        go_ret
        exact ⟨by rw [PV.out]; rfl, BW.out⟩
    · have hpe : p = n := by omega
      have PV : Hid (pvI n t zs = -1) := by
        show pvI n t zs = -1
        unfold pvI
        rw [if_pos ((pivP_eq hp1 hp2 P0.out fun h => absurd h hpn).trans hpe)]
      clear hpe
      go_wp2_with fail
      go_ret
      exact ⟨by rw [PV.out]; rfl, BW.out⟩
theorem keepC {W : World} {b g : Nat} {p q v : Value} (h : W.cell? ⟨b, 0, none⟩ = some p ∧ W.cell? ⟨b, 1, none⟩ = some q ∧ W.cell? ⟨b, 2, none⟩ = some v) (hne : b ≠ g) (o : Nat) (u : Value) :
    (W.setCell ⟨g, o, none⟩ u).cell? ⟨b, 0, none⟩ = some p ∧ (W.setCell ⟨g, o, none⟩ u).cell? ⟨b, 1, none⟩ = some q ∧ (W.setCell ⟨g, o, none⟩ u).cell? ⟨b, 2, none⟩ = some v := by
  have e : ∀ k, (W.setCell ⟨g, o, none⟩ u).cell? ⟨b, k, none⟩ = W.cell? ⟨b, k, none⟩ := fun k => World.cell?_setCell_other W _ _ _ (fun e => hne (by injection e with e; exact e.symm))
  exact ⟨(e 0).trans h.1, (e 1).trans h.2.1, (e 2).trans h.2.2⟩
set_option maxHeartbeats 2000000 in
theorem iSwap (n p t N cap g : Nat) (xs : List Int) (w : World) (hN : n * n = N) (hx : xs.length = N) (hp : p < n) (ht : t < n) (hpt : p ≠ t) (h6 : n ≤ 6) (hi : Ints w g xs) :
    Calls Try.prog 55 #[.agg #[.int .i64 n, .int .i64 n, .slice (some ⟨g, 0, none⟩) N cap], .int .i64 p, .int .i64 t] w (fun e w' => Void e ∧ Ints w' g (opL 0 p t 0 n xs) ∧ w.grownBy w' (some g)) := by
  have hle : n * n ≤ 6 * 6 := Nat.mul_le_mul h6 h6
  rw [hN] at hle
  have HN := Lib.hid hN
  have HX := Lib.hid hx
  have HPT := Lib.hid hpt
  have lg := hi.lt
  have GW : Hid (w.grownBy (w.alloc (.cells #[.int .i64 n, .int .i64 n, .slice (some ⟨g, 0, none⟩) N cap] 26)) (some g)) := World.grownBy_alloc _ _ _
  have K0 : Hid (Blk3 (w.alloc (.cells #[.int .i64 n, .int .i64 n, .slice (some ⟨g, 0, none⟩) N cap] 26)) w.heap.size 26 (.int .i64 n) (.int .i64 n) (.slice (some ⟨g, 0, none⟩) N cap)) := Blk3.at_ _ _ _ _ rfl
  have I := Lib.hid (hi.old (.cells #[.int .i64 n, .int .i64 n, .slice (some ⟨g, 0, none⟩) N cap] 26))
  clear hN hx hi hpt
  go_enter Try.func55, Try.ntmps55
  go_wp2_with fail
  generalize w.alloc (.cells #[.int .i64 n, .int .i64 n, .slice (some ⟨g, 0, none⟩) N cap] 26) = W at GW K0 I
  go_loopw [6, 7, 8, 11] (fun _ _ _ v11 wr => ∃ q : Nat, v11 = .int .i64 q ∧ q ≤ n ∧ Ints wr g (opTo 0 p t 0 n xs q) ∧ W.grownBy wr (some g)) (fun _ _ _ v11 _ => n - (intOf v11).toNat)
  case atStart => exact ⟨0, rfl, by omega, by rw [opTo_zero]; exact I.out, World.grownBy.refl _ _⟩
  case round =>
    obtain ⟨q, rfl, hq, hi, hgr⟩ := hrel
    have I := Lib.hid hi
    have G := Lib.hid hgr
    clear hi hgr
    have R0 := Lib.hid (K0.out.keepOne G.out (by omega))
    obtain ⟨r0, r1, r2, -, -, -⟩ := R0.out.all
    by_cases hlt : q < n
    · have ja : p * n + q < N := by rw [← HN.out]; exact idx_lt hp hlt
      have jb : t * n + q < N := by rw [← HN.out]; exact idx_lt ht hlt
      have ca : (p : Int) * (n : Int) = ((p * n : Nat) : Int) := (Int.natCast_mul _ _).symm
      have cb : (t : Int) * (n : Int) = ((t * n : Nat) : Int) := (Int.natCast_mul _ _).symm
      obtain ⟨A, hA⟩ : ∃ A, p * n + q = A := ⟨_, rfl⟩
      obtain ⟨C, hC⟩ : ∃ C, t * n + q = C := ⟨_, rfl⟩
      have va0 : IntKind.i64.wrap ((p : Int) * (n : Int)) = (p : Int) * (n : Int) := IntWalk.i64_in _ (by rw [ca]; omega)
      have va1 : IntKind.i64.wrap ((p : Int) * (n : Int) + (q : Int)) = (A : Int) := by
        rw [show (p : Int) * (n : Int) + (q : Int) = (A : Int) by rw [ca, ← hA]; omega]
        exact IntWalk.i64_in _ (by omega)
      have vb0 : IntKind.i64.wrap ((t : Int) * (n : Int)) = (t : Int) * (n : Int) := IntWalk.i64_in _ (by rw [cb]; omega)
      have vb1 : IntKind.i64.wrap ((t : Int) * (n : Int) + (q : Int)) = (C : Int) := by
        rw [show (t : Int) * (n : Int) + (q : Int) = (C : Int) by rw [cb, ← hC]; omega]
        exact IntWalk.i64_in _ (by omega)
      have a0 : (0 : Int) ≤ (A : Int) := by omega
      have a1 : (A : Int) < (N : Int) := by omega
      have b0 : (0 : Int) ≤ (C : Int) := by omega
      have b1 : (C : Int) < (N : Int) := by omega
      have hlen : xs.length = n * n := by rw [HX.out, HN.out]
      have s0 := (op_swap p t 0 n n xs q hlen hp ht hlt).resolve_right HPT.out
      have oa : (opTo 0 p t 0 n xs q).getD A 0 = xs.getD A 0 := by
        rw [opTo_getD _ _ _ _ _ _ _ _ (by rw [HX.out, ← hA]; exact ja), if_neg (by rw [← hA, idx_mod hlt]; omega)]
      have ob : (opTo 0 p t 0 n xs q).getD C 0 = xs.getD C 0 := by
        rw [opTo_getD _ _ _ _ _ _ _ _ (by rw [HX.out, ← hC]; exact jb), if_neg (by rw [← hC, idx_mod hlt]; omega)]
      rw [hA, hC] at s0
      have h1 := I.out.cell (i := A) (by rw [opTo_length, HX.out]; omega)
      have h2 := I.out.cell (i := C) (by rw [opTo_length, HX.out]; omega)
      rw [oa] at h1
      rw [ob] at h2
      obtain ⟨x, hxx⟩ : ∃ x, xs.getD A 0 = x := ⟨_, rfl⟩
      obtain ⟨y, hyy⟩ : ∃ y, xs.getD C 0 = y := ⟨_, rfl⟩
      rw [hxx, hyy] at s0
      rw [hxx] at h1
      rw [hyy] at h2
      have S0 := Lib.hid s0
      have f1 := I.out.free A
      have C36 : C < N := by omega
      clear ca cb hA hC hlen s0 oa ob hxx hyy ja jb
      go_wp2_with fail
      go_quiet (fail)
      have I := Lib.hid (I.out.drewN nq)
      have G := Lib.hid (grown_drewN_one G.out nq)
      have ng : w.heap.size ≠ g := by omega
      replace h1 : (wr.drewN nq).cell? ⟨g, A, none⟩ = some (.int .i64 x) := h1
      replace h2 : (wr.drewN nq).cell? ⟨g, C, none⟩ = some (.int .i64 y) := h2
      replace f1 : (wr.drewN nq).frozen? ⟨g, A, none⟩ = false := f1
      replace r0 : (wr.drewN nq).cell? ⟨w.heap.size, 0, none⟩ = some (.int .i64 n) := r0
      replace r1 : (wr.drewN nq).cell? ⟨w.heap.size, 1, none⟩ = some (.int .i64 n) := r1
      replace r2 : (wr.drewN nq).cell? ⟨w.heap.size, 2, none⟩ = some (.slice (some ⟨g, 0, none⟩) N cap) := r2
      generalize wr.drewN nq = wd at I G h1 h2 f1 r0 r1 r2
      go_upto_region 5 with fail
      have hS := Lib.hid (show wd.drew.cell? ⟨w.heap.size, 0, none⟩ = some (.int .i64 n) ∧ wd.drew.cell? ⟨w.heap.size, 1, none⟩ = some (.int .i64 n) ∧ wd.drew.cell? ⟨w.heap.size, 2, none⟩ = some (.slice (some ⟨g, 0, none⟩) N cap) from ⟨r0, r1, r2⟩)
      have G := Lib.hid (grown_drew_one G.out)
      have ID := I.out.drew
      have IS := ID.set A y
      have f2 := IS.free C
      have h3 := IS.cell (i := C) (by rw [List.length_set, opTo_length, HX.out]; omega)
      have IS2 := Lib.hid (IS.set C x)
      replace h1 : wd.drew.cell? ⟨g, A, none⟩ = some (.int .i64 x) := h1
      replace h2 : wd.drew.cell? ⟨g, C, none⟩ = some (.int .i64 y) := h2
      replace f1 : wd.drew.frozen? ⟨g, A, none⟩ = false := f1
      clear r0 r1 r2 I ID IS

      refine wp_region_held_drew (S := fun w' => w'.cell? ⟨w.heap.size, 0, none⟩ = some (.int .i64 n) ∧ w'.cell? ⟨w.heap.size, 1, none⟩ = some (.int .i64 n) ∧ w'.cell? ⟨w.heap.size, 2, none⟩ = some (.slice (some ⟨g, 0, none⟩) N cap)) (by kernel_rfl) hS.out (fun hH => ?_)
      (try dsimp only at hH)
      generalize wd.drew = we at hS G f2 h3 IS2 h1 h2 f1 hH ⊢
      refine wpAnyH_take (i := 0) (v := ?_) (by simp only [List.getElem?_toArray, List.getElem?_cons_zero]; rfl) (by kernel_rfl) (by kernel_rfl) (by kernel_rfl) (by exact fun _ _ _ h => h) (Or.inl ⟨by rfl, ?_⟩) hH ?_
      rotate_left
      · (intro wS hS; clear hS; go_simp; try rfl)
      try simp only [Act.put, List.setIfInBounds_toArray, List.set_cons_zero, List.set_cons_succ]
      refine wpAnyH_take (i := 1) (v := ?_) (by simp only [List.getElem?_toArray, List.getElem?_cons_succ, List.getElem?_cons_zero]; rfl) (by kernel_rfl) (by kernel_rfl) (by kernel_rfl) (by exact fun _ _ _ h => h) (Or.inl ⟨by rfl, ?_⟩) hH ?_
      rotate_left
      · (intro wS hS; (try dsimp only at hS); obtain ⟨k0, k1, k2⟩ := hS; go_simp; try rfl)
      try simp only [Act.put, List.setIfInBounds_toArray, List.set_cons_zero, List.set_cons_succ]
      refine wpAnyH_take (i := 2) (v := ?_) (by simp only [List.getElem?_toArray, List.getElem?_cons_succ, List.getElem?_cons_zero]; rfl) (by kernel_rfl) (by kernel_rfl) (by kernel_rfl) (by exact fun _ _ _ h => h) (Or.inl ⟨by rfl, ?_⟩) hH ?_
      rotate_left
      · (intro wS hS; clear hS; go_simp; try rfl)
      try simp only [Act.put, List.setIfInBounds_toArray, List.set_cons_zero, List.set_cons_succ]
      refine wpAnyH_take (i := 3) (v := ?_) (by simp only [List.getElem?_toArray, List.getElem?_cons_succ, List.getElem?_cons_zero]; rfl) (by kernel_rfl) (by kernel_rfl) (by kernel_rfl) (by exact fun _ _ _ h => h) (Or.inl ⟨by rfl, ?_⟩) hH ?_
      rotate_left
      · (intro wS hS; clear hS; go_simp; try rfl)
      try simp only [Act.put, List.setIfInBounds_toArray, List.set_cons_zero, List.set_cons_succ]
      refine wpAnyH_take (i := 4) (v := ?_) (by simp only [List.getElem?_toArray, List.getElem?_cons_succ, List.getElem?_cons_zero]; rfl) (by kernel_rfl) (by kernel_rfl) (by kernel_rfl) (by exact fun _ _ _ h => h) (Or.inl ⟨by rfl, ?_⟩) hH ?_
      rotate_left
      · (intro wS hS; (try dsimp only at hS); obtain ⟨k0, k1, k2⟩ := hS; go_simp; try rfl)
      try simp only [Act.put, List.setIfInBounds_toArray, List.set_cons_zero, List.set_cons_succ]
      refine wpAnyH_take (i := 5) (v := ?_) (by simp only [List.getElem?_toArray, List.getElem?_cons_succ, List.getElem?_cons_zero]; rfl) (by kernel_rfl) (by kernel_rfl) (by kernel_rfl) (by exact fun _ _ _ h => h) (Or.inl ⟨by rfl, ?_⟩) hH ?_
      rotate_left
      · (intro wS hS; clear hS; go_simp; try rfl)
      try simp only [Act.put, List.setIfInBounds_toArray, List.set_cons_zero, List.set_cons_succ]
      refine wpAnyH_take (i := 6) (v := ?_) (by simp only [List.getElem?_toArray, List.getElem?_cons_succ, List.getElem?_cons_zero]; rfl) (by kernel_rfl) (by kernel_rfl) (by kernel_rfl) (by exact fun _ _ _ h => h) (Or.inl ⟨by rfl, ?_⟩) hH ?_
      rotate_left
      · (intro wS hS; clear hS; go_simp; try rfl)
      try simp only [Act.put, List.setIfInBounds_toArray, List.set_cons_zero, List.set_cons_succ]
      refine wpAnyH_take (i := 7) (v := ?_) (by simp only [List.getElem?_toArray, List.getElem?_cons_succ, List.getElem?_cons_zero]; rfl) (by kernel_rfl) (by kernel_rfl) (by kernel_rfl) (by exact fun _ _ _ h => h) (Or.inl ⟨by rfl, ?_⟩) hH ?_
      rotate_left
      · (intro wS hS; (try dsimp only at hS); obtain ⟨k0, k1, k2⟩ := hS; go_simp; try rfl)
      try simp only [Act.put, List.setIfInBounds_toArray, List.set_cons_zero, List.set_cons_succ]
      refine wpAnyH_take (i := 8) (v := ?_) (by simp only [List.getElem?_toArray, List.getElem?_cons_succ, List.getElem?_cons_zero]; rfl) (by kernel_rfl) (by kernel_rfl) (by kernel_rfl) (by exact fun _ _ _ h => h) (Or.inl ⟨by rfl, ?_⟩) hH ?_
      rotate_left
      · (intro wS hS; clear hS; go_simp; try rfl)
      try simp only [Act.put, List.setIfInBounds_toArray, List.set_cons_zero, List.set_cons_succ]
      refine wpAnyH_take (i := 9) (v := ?_) (by simp only [List.getElem?_toArray, List.getElem?_cons_succ, List.getElem?_cons_zero]; rfl) (by kernel_rfl) (by kernel_rfl) (by kernel_rfl) (by exact fun _ _ _ h => h) (Or.inl ⟨by rfl, ?_⟩) hH ?_
      rotate_left
      · (intro wS hS; (try dsimp only at hS); obtain ⟨k0, k1, k2⟩ := hS; go_simp; try rfl)
      try simp only [Act.put, List.setIfInBounds_toArray, List.set_cons_zero, List.set_cons_succ]
      refine wpAnyH_take (i := 11) (v := ?_) (by simp only [List.getElem?_toArray, List.getElem?_cons_succ, List.getElem?_cons_zero]; rfl) (by kernel_rfl) (by kernel_rfl) (by kernel_rfl) (by exact fun _ _ _ h => h) (Or.inl ⟨by rfl, ?_⟩) hH ?_
      rotate_left
      · (intro wS hS; clear hS; go_simp; try rfl)
      try simp only [Act.put, List.setIfInBounds_toArray, List.set_cons_zero, List.set_cons_succ]
      refine wpAnyH_take (i := 12) (v := ?_) (by simp only [List.getElem?_toArray, List.getElem?_cons_succ, List.getElem?_cons_zero]; rfl) (by kernel_rfl) (by kernel_rfl) (by kernel_rfl) (by exact fun _ _ _ h => h) (Or.inl ⟨by rfl, ?_⟩) hH ?_
      rotate_left
      · (intro wS hS; (try dsimp only at hS); obtain ⟨k0, k1, k2⟩ := hS; go_simp; try rfl)
      try simp only [Act.put, List.setIfInBounds_toArray, List.set_cons_zero, List.set_cons_succ]
      refine wpAnyH_take (i := 13) (v := ?_) (by simp only [List.getElem?_toArray, List.getElem?_cons_succ, List.getElem?_cons_zero]; rfl) (by kernel_rfl) (by kernel_rfl) (by kernel_rfl) (by exact fun _ _ _ h => h) (Or.inl ⟨by rfl, ?_⟩) hH ?_
      rotate_left
      · (intro wS hS; clear hS; go_simp; try rfl)
      try simp only [Act.put, List.setIfInBounds_toArray, List.set_cons_zero, List.set_cons_succ]
      refine wpAnyH_take (i := 14) (v := ?_) (by simp only [List.getElem?_toArray, List.getElem?_cons_succ, List.getElem?_cons_zero]; rfl) (by kernel_rfl) (by kernel_rfl) (by kernel_rfl) (by exact fun _ _ _ h => h) (Or.inl ⟨by rfl, ?_⟩) hH ?_
      rotate_left
      · (intro wS hS; (try dsimp only at hS); obtain ⟨k0, k1, k2⟩ := hS; go_simp; try rfl)
      try simp only [Act.put, List.setIfInBounds_toArray, List.set_cons_zero, List.set_cons_succ]
      refine wpAnyH_ready (rs := [10, 15]) (by kernel_rfl) (by simp) ?_
      refine AllReadyH.cons (by simp only [List.getElem?_toArray, List.getElem?_cons_succ, List.getElem?_cons_zero]; rfl) (fun KK hKK => ?_) (AllReadyH.cons (by simp only [List.getElem?_toArray, List.getElem?_cons_succ, List.getElem?_cons_zero]; rfl) (fun KK hKK => ?_) AllReadyH.nil)
      · go_simp
        try dsimp only
        refine hKK.out _ _ ?_ (fun hH2 => ?_)
        · exact hH
        clear hKK KK
        have hO := hH
        clear hH
        have hH := hH2
        clear hH2
        try simp only [Act.put, List.setIfInBounds_toArray, List.set_cons_zero, List.set_cons_succ]
        refine wpAnyH_ready (rs := [15]) (by kernel_rfl) (by simp) ?_
        refine AllReadyH.cons (by simp only [List.getElem?_toArray, List.getElem?_cons_succ, List.getElem?_cons_zero]; rfl) (fun KK hKK => ?_) AllReadyH.nil
        go_simp
        try dsimp only
        refine hKK.out _ _ ?_ (fun hH2 => ?_)
        · exact hH
        clear hKK KK
        have hO := hH
        clear hH
        have hH := hH2
        clear hH2
        try simp only [Act.put, List.setIfInBounds_toArray, List.set_cons_zero, List.set_cons_succ]
        refine wpAnyH_take (i := 16) (v := ?_) (by simp only [List.getElem?_toArray, List.getElem?_cons_succ, List.getElem?_cons_zero]; rfl) (by kernel_rfl) (by kernel_rfl) (by kernel_rfl) (by exact fun _ _ _ h => h) (Or.inl ⟨by rfl, ?_⟩) hH ?_
        rotate_left
        · (intro wS hS; (try dsimp only at hS); obtain ⟨k0, k1, k2⟩ := hS; go_simp; try rfl)
        try simp only [Act.put, List.setIfInBounds_toArray, List.set_cons_zero, List.set_cons_succ]
        refine wpAnyH_ready (rs := [17]) (by kernel_rfl) (by simp) ?_
        refine AllReadyH.cons (by simp only [List.getElem?_toArray, List.getElem?_cons_succ, List.getElem?_cons_zero]; rfl) (fun KK hKK => ?_) AllReadyH.nil
        go_simp
        try dsimp only
        refine hKK.out _ _ ?_ (fun hH2 => ?_)
        · exact keepC hH ng _ _
        clear hKK KK
        have hO := hH
        clear hH
        have hH := hH2
        clear hH2
        try simp only [Act.put, List.setIfInBounds_toArray, List.set_cons_zero, List.set_cons_succ]
        refine wpAnyH_take (i := 18) (v := ?_) (by simp only [List.getElem?_toArray, List.getElem?_cons_succ, List.getElem?_cons_zero]; rfl) (by kernel_rfl) (by kernel_rfl) (by kernel_rfl) (by exact fun _ _ _ h => h) (Or.inl ⟨by rfl, ?_⟩) hH ?_
        rotate_left
        · (intro wS hS; (try dsimp only at hS); obtain ⟨k0, k1, k2⟩ := hS; go_simp; try rfl)
        try simp only [Act.put, List.setIfInBounds_toArray, List.set_cons_zero, List.set_cons_succ]
        refine wpAnyH_ready (rs := [19]) (by kernel_rfl) (by simp) ?_
        refine AllReadyH.cons (by simp only [List.getElem?_toArray, List.getElem?_cons_succ, List.getElem?_cons_zero]; rfl) (fun KK hKK => ?_) AllReadyH.nil
        go_simp
        try dsimp only
        refine hKK.out _ _ ?_ (fun hH2 => ?_)
        · exact keepC hH ng _ _
        clear hKK KK
        have hO := hH
        clear hH
        have hH := hH2
        clear hH2
        try simp only [Act.put, List.setIfInBounds_toArray, List.set_cons_zero, List.set_cons_succ]
        refine wpAnyH_done (by kernel_rfl) ?_ _
        go_wp2_with fail
        go_roundw
        case rel => exact ⟨q + 1, by go_num, by omega, by rw [← S0.out]; exact IS2.out, grown_set_one (a := ⟨g, C, none⟩) (grown_set_one (a := ⟨g, A, none⟩) G.out rfl _) rfl _⟩
        case measure => simp [intOf]; omega
      · go_simp
        try dsimp only
        refine hKK.out _ _ ?_ (fun hH2 => ?_)
        · exact hH
        clear hKK KK
        have hO := hH
        clear hH
        have hH := hH2
        clear hH2
        try simp only [Act.put, List.setIfInBounds_toArray, List.set_cons_zero, List.set_cons_succ]
        refine wpAnyH_ready (rs := [10]) (by kernel_rfl) (by simp) ?_
        refine AllReadyH.cons (by simp only [List.getElem?_toArray, List.getElem?_cons_succ, List.getElem?_cons_zero]; rfl) (fun KK hKK => ?_) AllReadyH.nil
        go_simp
        try dsimp only
        refine hKK.out _ _ ?_ (fun hH2 => ?_)
        · exact hH
        clear hKK KK
        have hO := hH
        clear hH
        have hH := hH2
        clear hH2
        try simp only [Act.put, List.setIfInBounds_toArray, List.set_cons_zero, List.set_cons_succ]
        refine wpAnyH_take (i := 16) (v := ?_) (by simp only [List.getElem?_toArray, List.getElem?_cons_succ, List.getElem?_cons_zero]; rfl) (by kernel_rfl) (by kernel_rfl) (by kernel_rfl) (by exact fun _ _ _ h => h) (Or.inl ⟨by rfl, ?_⟩) hH ?_
        rotate_left
        · (intro wS hS; (try dsimp only at hS); obtain ⟨k0, k1, k2⟩ := hS; go_simp; try rfl)
        try simp only [Act.put, List.setIfInBounds_toArray, List.set_cons_zero, List.set_cons_succ]
        refine wpAnyH_ready (rs := [17]) (by kernel_rfl) (by simp) ?_
        refine AllReadyH.cons (by simp only [List.getElem?_toArray, List.getElem?_cons_succ, List.getElem?_cons_zero]; rfl) (fun KK hKK => ?_) AllReadyH.nil
        go_simp
        try dsimp only
        refine hKK.out _ _ ?_ (fun hH2 => ?_)
        · exact keepC hH ng _ _
        clear hKK KK
        have hO := hH
        clear hH
        have hH := hH2
        clear hH2
        try simp only [Act.put, List.setIfInBounds_toArray, List.set_cons_zero, List.set_cons_succ]
        refine wpAnyH_take (i := 18) (v := ?_) (by simp only [List.getElem?_toArray, List.getElem?_cons_succ, List.getElem?_cons_zero]; rfl) (by kernel_rfl) (by kernel_rfl) (by kernel_rfl) (by exact fun _ _ _ h => h) (Or.inl ⟨by rfl, ?_⟩) hH ?_
        rotate_left
        · (intro wS hS; (try dsimp only at hS); obtain ⟨k0, k1, k2⟩ := hS; go_simp; try rfl)
        try simp only [Act.put, List.setIfInBounds_toArray, List.set_cons_zero, List.set_cons_succ]
        refine wpAnyH_ready (rs := [19]) (by kernel_rfl) (by simp) ?_
        refine AllReadyH.cons (by simp only [List.getElem?_toArray, List.getElem?_cons_succ, List.getElem?_cons_zero]; rfl) (fun KK hKK => ?_) AllReadyH.nil
        go_simp
        try dsimp only
        refine hKK.out _ _ ?_ (fun hH2 => ?_)
        · exact keepC hH ng _ _
        clear hKK KK
        have hO := hH
        clear hH
        have hH := hH2
        clear hH2
        try simp only [Act.put, List.setIfInBounds_toArray, List.set_cons_zero, List.set_cons_succ]
        refine wpAnyH_done (by kernel_rfl) ?_ _
        go_wp2_with fail
        go_roundw
        case rel => exact ⟨q + 1, by go_num, by omega, by rw [← S0.out]; exact IS2.out, grown_set_one (a := ⟨g, C, none⟩) (grown_set_one (a := ⟨g, A, none⟩) G.out rfl _) rfl _⟩
        case measure => simp [intOf]; omega
    · have hqn : q = n := by omega
      have EQ : Hid (opTo 0 p t 0 n xs q = opL 0 p t 0 n xs) := by
        show opTo 0 p t 0 n xs q = _
        rw [hqn]
        exact opTo_all _ _ _ _ _ _ (.inr (by omega))
      clear hqn
      go_wp2_with fail
      go_end0
      exact ⟨rfl, by rw [← EQ.out]; exact I.out, GW.out.trans G.out⟩
end Go.Proofs.Ytbdofgkcedpamaa
