/-
  Chapter 7, in the program: two rows of any matrix swapped in place.
-/
import Derived.Test.YtbdofgkcedpamaaPvR
import Derived.Test.YtbdofgkcedpamaaFoldM
import Derived.Deep.RegionHeld3
import Derived.BigQuiet
namespace Go.Proofs.Ytbdofgkcedpamaa
set_option maxRecDepth 100000
open Go.RowKit

theorem keepC {W : World} {b g : Nat} {p q v : Value} (h : W.cell? ⟨b, 0, none⟩ = some p ∧ W.cell? ⟨b, 1, none⟩ = some q ∧ W.cell? ⟨b, 2, none⟩ = some v) (hne : b ≠ g) (o : Nat) (u : Value) :
    (W.setCell ⟨g, o, none⟩ u).cell? ⟨b, 0, none⟩ = some p ∧ (W.setCell ⟨g, o, none⟩ u).cell? ⟨b, 1, none⟩ = some q ∧ (W.setCell ⟨g, o, none⟩ u).cell? ⟨b, 2, none⟩ = some v := by
  have e : ∀ k, (W.setCell ⟨g, o, none⟩ u).cell? ⟨b, k, none⟩ = W.cell? ⟨b, k, none⟩ := fun k => World.cell?_setCell_other W _ _ _ (fun e => hne (by injection e with e; exact e.symm))
  exact ⟨(e 0).trans h.1, (e 1).trans h.2.1, (e 2).trans h.2.2⟩
/-- The cells before column q of rows p and t swapped. -/
def swTo (p t c : Nat) (xs : List Int) (q : Nat) : List Int := if p = t then xs else opTo 0 p t 0 c xs q
theorem swTo_length (p t c : Nat) (xs : List Int) (q : Nat) : (swTo p t c xs q).length = xs.length := by
  unfold swTo
  split
  · rfl
  · exact opTo_length _ _ _ _ _ _ _
theorem swTo_zero (p t c : Nat) (xs : List Int) : swTo p t c xs 0 = xs := by
  unfold swTo
  split
  · rfl
  · exact opTo_zero _ _ _ _ _ _
theorem swTo_all {p t c : Nat} {xs : List Int} (h : 0 < c) : swTo p t c xs c = swC p t c xs := by
  unfold swTo swC
  split
  · rfl
  · exact opTo_all _ _ _ _ _ _ (.inr h)
theorem set_self (xs : List Int) (i : Nat) : xs.set i (xs.getD i 0) = xs := by
  rcases Nat.lt_or_ge i xs.length with h | h
  · simp [List.getD, h]
  · exact List.set_eq_of_length_le h
theorem swTo_step {r p t c q : Nat} {xs : List Int} (hx : xs.length = r * c) (hp : p < r) (ht : t < r) (hq : q < c) : ((swTo p t c xs q).set (p * c + q) (xs.getD (t * c + q) 0)).set (t * c + q) (xs.getD (p * c + q) 0) = swTo p t c xs (q + 1) := by
  unfold swTo
  by_cases e : p = t
  · rw [if_pos e, if_pos e, e, set_self, set_self]
  · rw [if_neg e, if_neg e]
    exact (op_swap p t 0 c r xs q hx hp ht hq).resolve_right e
theorem swTo_at {r p t c q i : Nat} {xs : List Int} (hx : xs.length = r * c) (hi : i < r) (hq : q < c) : (swTo p t c xs q).getD (i * c + q) 0 = xs.getD (i * c + q) 0 := by
  unfold swTo
  split
  · rfl
  · exact opTo_at _ _ _ _ _ _ _ _ hq (by rw [hx]; exact idx_lt hi hq)
set_option maxHeartbeats 2000000 in
theorem iSwR (r c p t N cap g : Nat) (xs : List Int) (w : World) (hN : N = r * c) (hx : xs.length = N) (hr : r ≤ 24) (hc : c ≤ 24) (hc0 : 0 < c) (hp : p < r) (ht : t < r) (hi : Ints w g xs) :
    Calls Try.prog 55 #[.agg #[.int .i64 r, .int .i64 c, .slice (some ⟨g, 0, none⟩) N cap], .int .i64 p, .int .i64 t] w (fun e w' => Void e ∧ Ints w' g (swC p t c xs) ∧ w.grownBy w' (some g)) := by
  have hle : r * c ≤ 24 * 24 := Nat.mul_le_mul hr hc
  rw [← hN] at hle
  have hl : xs.length = r * c := by rw [hx, hN]
  have SL : Hid (∀ q, (swTo p t c xs q).length = N) := fun q => by rw [swTo_length, hx]
  have SS : Hid (∀ q, q < c → ((swTo p t c xs q).set (p * c + q) (xs.getD (t * c + q) 0)).set (t * c + q) (xs.getD (p * c + q) 0) = swTo p t c xs (q + 1)) := fun q hq => swTo_step hl hp ht hq
  have SA : Hid (∀ i q, i < r → q < c → (swTo p t c xs q).getD (i * c + q) 0 = xs.getD (i * c + q) 0) := fun i q hi hq => swTo_at hl hi hq
  have SZ : Hid (swTo p t c xs 0 = xs) := swTo_zero _ _ _ _
  have SE : Hid (swTo p t c xs c = swC p t c xs) := swTo_all hc0
  have IL : Hid (∀ i q, i < r → q < c → i * c + q < N) := fun i q hi hq => by rw [hN]; exact idx_lt hi hq
  have lg := hi.lt
  have GW : Hid (w.grownBy (w.alloc (.cells #[.int .i64 r, .int .i64 c, .slice (some ⟨g, 0, none⟩) N cap] 26)) (some g)) := World.grownBy_alloc _ _ _
  have K0 : Hid (Blk3 (w.alloc (.cells #[.int .i64 r, .int .i64 c, .slice (some ⟨g, 0, none⟩) N cap] 26)) w.heap.size 26 (.int .i64 r) (.int .i64 c) (.slice (some ⟨g, 0, none⟩) N cap)) := Blk3.at_ _ _ _ _ rfl
  have I := Lib.hid (hi.old (.cells #[.int .i64 r, .int .i64 c, .slice (some ⟨g, 0, none⟩) N cap] 26))
  clear hN hx hi hl
  go_enter Try.func55, Try.ntmps55
  go_wp2_with fail
  generalize w.alloc (.cells #[.int .i64 r, .int .i64 c, .slice (some ⟨g, 0, none⟩) N cap] 26) = W at GW K0 I
  obtain ⟨z0, z1, z2, -, -, -⟩ := K0.out.all
  go_loopw [6, 7, 8, 11] (fun _ _ _ v11 wr => ∃ q : Nat, v11 = .int .i64 q ∧ q ≤ c ∧ Ints wr g (swTo p t c xs q) ∧ W.grownBy wr (some g)) (fun _ _ _ v11 _ => c - (intOf v11).toNat)
  case atStart => exact ⟨0, rfl, by omega, by rw [SZ.out]; exact I.out, World.grownBy.refl _ _⟩
  case round =>
    clear z0 z1 z2
    obtain ⟨q, rfl, hq, hi, hgr⟩ := hrel
    have I := Lib.hid hi
    have G := Lib.hid hgr
    clear hi hgr
    have R0 := Lib.hid (K0.out.keepOne G.out (by omega))
    obtain ⟨r0, r1, r2, -, -, -⟩ := R0.out.all
    by_cases hlt : q < c
    · have ja := IL.out p q hp hlt
      have jb := IL.out t q ht hlt
      have ca : (p : Int) * (c : Int) = ((p * c : Nat) : Int) := (Int.natCast_mul _ _).symm
      have cb : (t : Int) * (c : Int) = ((t * c : Nat) : Int) := (Int.natCast_mul _ _).symm
      obtain ⟨A, hA⟩ : ∃ A, p * c + q = A := ⟨_, rfl⟩
      obtain ⟨C, hC⟩ : ∃ C, t * c + q = C := ⟨_, rfl⟩
      have va0 : IntKind.i64.wrap ((p : Int) * (c : Int)) = (p : Int) * (c : Int) := IntWalk.i64_in _ (by rw [ca]; omega)
      have va1 : IntKind.i64.wrap ((p : Int) * (c : Int) + (q : Int)) = (A : Int) := by
        rw [show (p : Int) * (c : Int) + (q : Int) = (A : Int) by rw [ca, ← hA]; omega]
        exact IntWalk.i64_in _ (by omega)
      have vb0 : IntKind.i64.wrap ((t : Int) * (c : Int)) = (t : Int) * (c : Int) := IntWalk.i64_in _ (by rw [cb]; omega)
      have vb1 : IntKind.i64.wrap ((t : Int) * (c : Int) + (q : Int)) = (C : Int) := by
        rw [show (t : Int) * (c : Int) + (q : Int) = (C : Int) by rw [cb, ← hC]; omega]
        exact IntWalk.i64_in _ (by omega)
      have a0 : (0 : Int) ≤ (A : Int) := by omega
      have a1 : (A : Int) < (N : Int) := by omega
      have b0 : (0 : Int) ≤ (C : Int) := by omega
      have b1 : (C : Int) < (N : Int) := by omega
      have s0 := SS.out q hlt
      have oa := SA.out p q hp hlt
      have ob := SA.out t q ht hlt
      rw [hA] at oa s0
      rw [hC] at ob s0
      have h1 := I.out.cell (i := A) (by rw [SL.out]; omega)
      have h2 := I.out.cell (i := C) (by rw [SL.out]; omega)
      rw [oa] at h1
      rw [ob] at h2
      obtain ⟨x, hxx⟩ : ∃ x, xs.getD A 0 = x := ⟨_, rfl⟩
      obtain ⟨y, hyy⟩ : ∃ y, xs.getD C 0 = y := ⟨_, rfl⟩
      rw [hxx, hyy] at s0
      rw [hxx] at h1
      rw [hyy] at h2
      have S0 := Lib.hid s0
      have OY : Hid (A = C → x = y) := fun h => by rw [← hxx, ← hyy, h]
      have f1 := I.out.free A
      have C36 : C < N := by omega
      clear ca cb hA hC s0 oa ob hxx hyy ja jb
      go_wp2_with fail
      go_quiet (fail)
      have I := Lib.hid (I.out.drewN nq)
      have G := Lib.hid (grown_drewN_one G.out nq)
      have ng : w.heap.size ≠ g := by omega
      replace h1 : (wr.drewN nq).cell? ⟨g, A, none⟩ = some (.int .i64 x) := h1
      replace h2 : (wr.drewN nq).cell? ⟨g, C, none⟩ = some (.int .i64 y) := h2
      replace f1 : (wr.drewN nq).frozen? ⟨g, A, none⟩ = false := f1
      replace r0 : (wr.drewN nq).cell? ⟨w.heap.size, 0, none⟩ = some (.int .i64 r) := r0
      replace r1 : (wr.drewN nq).cell? ⟨w.heap.size, 1, none⟩ = some (.int .i64 c) := r1
      replace r2 : (wr.drewN nq).cell? ⟨w.heap.size, 2, none⟩ = some (.slice (some ⟨g, 0, none⟩) N cap) := r2
      generalize wr.drewN nq = wd at I G h1 h2 f1 r0 r1 r2
      go_upto_region 5 with fail
      have hS := Lib.hid (show wd.drew.cell? ⟨w.heap.size, 0, none⟩ = some (.int .i64 r) ∧ wd.drew.cell? ⟨w.heap.size, 1, none⟩ = some (.int .i64 c) ∧ wd.drew.cell? ⟨w.heap.size, 2, none⟩ = some (.slice (some ⟨g, 0, none⟩) N cap) from ⟨r0, r1, r2⟩)
      have G := Lib.hid (grown_drew_one G.out)
      have ID := I.out.drew
      have IS := ID.set A y
      have f2 := IS.free C
      have h3 := IS.cell (i := C) (by rw [List.length_set, SL.out]; omega)
      have IS2 := Lib.hid (IS.set C x)
      replace h1 : wd.drew.cell? ⟨g, A, none⟩ = some (.int .i64 x) := h1
      replace h2 : wd.drew.cell? ⟨g, C, none⟩ = some (.int .i64 y) := h2
      replace f1 : wd.drew.frozen? ⟨g, A, none⟩ = false := f1
      clear r0 r1 r2 I ID IS

      refine wp_region_held_drew (S := fun w' => w'.cell? ⟨w.heap.size, 0, none⟩ = some (.int .i64 r) ∧ w'.cell? ⟨w.heap.size, 1, none⟩ = some (.int .i64 c) ∧ w'.cell? ⟨w.heap.size, 2, none⟩ = some (.slice (some ⟨g, 0, none⟩) N cap)) (by kernel_rfl) hS.out (fun hH => ?_)
      (try dsimp only at hH)
      generalize wd.drew = we at hS G f2 h3 IS2 h1 h2 f1 hH ⊢
      refine wpAnyH_take (i := 0) (v := ?_) (by simp only [List.getElem?_toArray, List.getElem?_cons_zero]; rfl) (by kernel_rfl) (by kernel_rfl) (by kernel_rfl) (by exact fun _ _ _ h => h) (Or.inl ⟨by rfl, ?_⟩) hH ?_
      rotate_left
      · (intro wS hS; clear hS; go_simp; try rfl)
      try simp only [Act.put, List.setIfInBounds_toArray, List.set_cons_zero, List.set_cons_succ]
      refine wpAnyH_take (i := 1) (v := ?_) (by simp only [List.getElem?_toArray, List.getElem?_cons_succ, List.getElem?_cons_zero]; rfl) (by kernel_rfl) (by kernel_rfl) (by kernel_rfl) (by exact fun _ _ _ h => h) (Or.inl ⟨by rfl, ?_⟩) hH ?_
      rotate_left
      · (intro wS hS; (try dsimp only at hS); obtain ⟨k0, k1, k2⟩ := hS; go_simp; try rfl)
      try simp only [Act.put, List.setIfInBounds_toArray, List.set_cons_zero, List.set_cons_succ]
      refine wpAnyH_take (i := 2) (v := ?_) (by simp only [List.getElem?_toArray, List.getElem?_cons_succ, List.getElem?_cons_zero]; rfl) (by kernel_rfl) (by kernel_rfl) (by kernel_rfl) (by exact fun _ _ _ h => h) (Or.inl ⟨by rfl, ?_⟩) hH ?_
      rotate_left
      · (intro wS hS; clear hS; go_simp; try rfl)
      try simp only [Act.put, List.setIfInBounds_toArray, List.set_cons_zero, List.set_cons_succ]
      refine wpAnyH_take (i := 3) (v := ?_) (by simp only [List.getElem?_toArray, List.getElem?_cons_succ, List.getElem?_cons_zero]; rfl) (by kernel_rfl) (by kernel_rfl) (by kernel_rfl) (by exact fun _ _ _ h => h) (Or.inl ⟨by rfl, ?_⟩) hH ?_
      rotate_left
      · (intro wS hS; clear hS; go_simp; try rfl)
      try simp only [Act.put, List.setIfInBounds_toArray, List.set_cons_zero, List.set_cons_succ]
      refine wpAnyH_take (i := 4) (v := ?_) (by simp only [List.getElem?_toArray, List.getElem?_cons_succ, List.getElem?_cons_zero]; rfl) (by kernel_rfl) (by kernel_rfl) (by kernel_rfl) (by exact fun _ _ _ h => h) (Or.inl ⟨by rfl, ?_⟩) hH ?_
      rotate_left
      · (intro wS hS; (try dsimp only at hS); obtain ⟨k0, k1, k2⟩ := hS; go_simp; try rfl)
      try simp only [Act.put, List.setIfInBounds_toArray, List.set_cons_zero, List.set_cons_succ]
      refine wpAnyH_take (i := 5) (v := ?_) (by simp only [List.getElem?_toArray, List.getElem?_cons_succ, List.getElem?_cons_zero]; rfl) (by kernel_rfl) (by kernel_rfl) (by kernel_rfl) (by exact fun _ _ _ h => h) (Or.inl ⟨by rfl, ?_⟩) hH ?_
      rotate_left
      · (intro wS hS; clear hS; go_simp; try rfl)
      try simp only [Act.put, List.setIfInBounds_toArray, List.set_cons_zero, List.set_cons_succ]
      refine wpAnyH_take (i := 6) (v := ?_) (by simp only [List.getElem?_toArray, List.getElem?_cons_succ, List.getElem?_cons_zero]; rfl) (by kernel_rfl) (by kernel_rfl) (by kernel_rfl) (by exact fun _ _ _ h => h) (Or.inl ⟨by rfl, ?_⟩) hH ?_
      rotate_left
      · (intro wS hS; clear hS; go_simp; try rfl)
      try simp only [Act.put, List.setIfInBounds_toArray, List.set_cons_zero, List.set_cons_succ]
      refine wpAnyH_take (i := 7) (v := ?_) (by simp only [List.getElem?_toArray, List.getElem?_cons_succ, List.getElem?_cons_zero]; rfl) (by kernel_rfl) (by kernel_rfl) (by kernel_rfl) (by exact fun _ _ _ h => h) (Or.inl ⟨by rfl, ?_⟩) hH ?_
      rotate_left
      · (intro wS hS; (try dsimp only at hS); obtain ⟨k0, k1, k2⟩ := hS; go_simp; try rfl)
      try simp only [Act.put, List.setIfInBounds_toArray, List.set_cons_zero, List.set_cons_succ]
      refine wpAnyH_take (i := 8) (v := ?_) (by simp only [List.getElem?_toArray, List.getElem?_cons_succ, List.getElem?_cons_zero]; rfl) (by kernel_rfl) (by kernel_rfl) (by kernel_rfl) (by exact fun _ _ _ h => h) (Or.inl ⟨by rfl, ?_⟩) hH ?_
      rotate_left
      · (intro wS hS; clear hS; go_simp; try rfl)
      try simp only [Act.put, List.setIfInBounds_toArray, List.set_cons_zero, List.set_cons_succ]
      refine wpAnyH_take (i := 9) (v := ?_) (by simp only [List.getElem?_toArray, List.getElem?_cons_succ, List.getElem?_cons_zero]; rfl) (by kernel_rfl) (by kernel_rfl) (by kernel_rfl) (by exact fun _ _ _ h => h) (Or.inl ⟨by rfl, ?_⟩) hH ?_
      rotate_left
      · (intro wS hS; (try dsimp only at hS); obtain ⟨k0, k1, k2⟩ := hS; go_simp; try rfl)
      try simp only [Act.put, List.setIfInBounds_toArray, List.set_cons_zero, List.set_cons_succ]
      refine wpAnyH_take (i := 11) (v := ?_) (by simp only [List.getElem?_toArray, List.getElem?_cons_succ, List.getElem?_cons_zero]; rfl) (by kernel_rfl) (by kernel_rfl) (by kernel_rfl) (by exact fun _ _ _ h => h) (Or.inl ⟨by rfl, ?_⟩) hH ?_
      rotate_left
      · (intro wS hS; clear hS; go_simp; try rfl)
      try simp only [Act.put, List.setIfInBounds_toArray, List.set_cons_zero, List.set_cons_succ]
      refine wpAnyH_take (i := 12) (v := ?_) (by simp only [List.getElem?_toArray, List.getElem?_cons_succ, List.getElem?_cons_zero]; rfl) (by kernel_rfl) (by kernel_rfl) (by kernel_rfl) (by exact fun _ _ _ h => h) (Or.inl ⟨by rfl, ?_⟩) hH ?_
      rotate_left
      · (intro wS hS; (try dsimp only at hS); obtain ⟨k0, k1, k2⟩ := hS; go_simp; try rfl)
      try simp only [Act.put, List.setIfInBounds_toArray, List.set_cons_zero, List.set_cons_succ]
      refine wpAnyH_take (i := 13) (v := ?_) (by simp only [List.getElem?_toArray, List.getElem?_cons_succ, List.getElem?_cons_zero]; rfl) (by kernel_rfl) (by kernel_rfl) (by kernel_rfl) (by exact fun _ _ _ h => h) (Or.inl ⟨by rfl, ?_⟩) hH ?_
      rotate_left
      · (intro wS hS; clear hS; go_simp; try rfl)
      try simp only [Act.put, List.setIfInBounds_toArray, List.set_cons_zero, List.set_cons_succ]
      refine wpAnyH_take (i := 14) (v := ?_) (by simp only [List.getElem?_toArray, List.getElem?_cons_succ, List.getElem?_cons_zero]; rfl) (by kernel_rfl) (by kernel_rfl) (by kernel_rfl) (by exact fun _ _ _ h => h) (Or.inl ⟨by rfl, ?_⟩) hH ?_
      rotate_left
      · (intro wS hS; (try dsimp only at hS); obtain ⟨k0, k1, k2⟩ := hS; go_simp; try rfl)
      try simp only [Act.put, List.setIfInBounds_toArray, List.set_cons_zero, List.set_cons_succ]
      refine wpAnyH_ready (rs := [10, 15]) (by kernel_rfl) (by simp) ?_
      refine AllReadyH.cons (by simp only [List.getElem?_toArray, List.getElem?_cons_succ, List.getElem?_cons_zero]; rfl) (fun KK hKK => ?_) (AllReadyH.cons (by simp only [List.getElem?_toArray, List.getElem?_cons_succ, List.getElem?_cons_zero]; rfl) (fun KK hKK => ?_) AllReadyH.nil)
      · go_simp
        try dsimp only
        refine hKK.out _ _ ?_ (fun hH2 => ?_)
        · exact hH
        clear hKK KK
        have hO := hH
        clear hH
        have hH := hH2
        clear hH2
        try simp only [Act.put, List.setIfInBounds_toArray, List.set_cons_zero, List.set_cons_succ]
        refine wpAnyH_ready (rs := [15]) (by kernel_rfl) (by simp) ?_
        refine AllReadyH.cons (by simp only [List.getElem?_toArray, List.getElem?_cons_succ, List.getElem?_cons_zero]; rfl) (fun KK hKK => ?_) AllReadyH.nil
        go_simp
        try dsimp only
        refine hKK.out _ _ ?_ (fun hH2 => ?_)
        · exact hH
        clear hKK KK
        have hO := hH
        clear hH
        have hH := hH2
        clear hH2
        try simp only [Act.put, List.setIfInBounds_toArray, List.set_cons_zero, List.set_cons_succ]
        refine wpAnyH_take (i := 16) (v := ?_) (by simp only [List.getElem?_toArray, List.getElem?_cons_succ, List.getElem?_cons_zero]; rfl) (by kernel_rfl) (by kernel_rfl) (by kernel_rfl) (by exact fun _ _ _ h => h) (Or.inl ⟨by rfl, ?_⟩) hH ?_
        rotate_left
        · (intro wS hS; (try dsimp only at hS); obtain ⟨k0, k1, k2⟩ := hS; go_simp; try rfl)
        try simp only [Act.put, List.setIfInBounds_toArray, List.set_cons_zero, List.set_cons_succ]
        refine wpAnyH_ready (rs := [17]) (by kernel_rfl) (by simp) ?_
        refine AllReadyH.cons (by simp only [List.getElem?_toArray, List.getElem?_cons_succ, List.getElem?_cons_zero]; rfl) (fun KK hKK => ?_) AllReadyH.nil
        go_simp
        try dsimp only
        refine hKK.out _ _ ?_ (fun hH2 => ?_)
        · exact keepC hH ng _ _
        clear hKK KK
        have hO := hH
        clear hH
        have hH := hH2
        clear hH2
        try simp only [Act.put, List.setIfInBounds_toArray, List.set_cons_zero, List.set_cons_succ]
        refine wpAnyH_take (i := 18) (v := ?_) (by simp only [List.getElem?_toArray, List.getElem?_cons_succ, List.getElem?_cons_zero]; rfl) (by kernel_rfl) (by kernel_rfl) (by kernel_rfl) (by exact fun _ _ _ h => h) (Or.inl ⟨by rfl, ?_⟩) hH ?_
        rotate_left
        · (intro wS hS; (try dsimp only at hS); obtain ⟨k0, k1, k2⟩ := hS; go_simp; try rfl)
        try simp only [Act.put, List.setIfInBounds_toArray, List.set_cons_zero, List.set_cons_succ]
        refine wpAnyH_ready (rs := [19]) (by kernel_rfl) (by simp) ?_
        refine AllReadyH.cons (by simp only [List.getElem?_toArray, List.getElem?_cons_succ, List.getElem?_cons_zero]; rfl) (fun KK hKK => ?_) AllReadyH.nil
        go_simp
        try dsimp only
        refine hKK.out _ _ ?_ (fun hH2 => ?_)
        · exact keepC hH ng _ _
        clear hKK KK
        have hO := hH
        clear hH
        have hH := hH2
        clear hH2
        try simp only [Act.put, List.setIfInBounds_toArray, List.set_cons_zero, List.set_cons_succ]
        refine wpAnyH_done (by kernel_rfl) ?_ _
        go_wp2_with fail
        go_roundw
        case rel => exact ⟨q + 1, by go_num, by omega, by rw [← S0.out]; exact IS2.out, grown_set_one (a := ⟨g, C, none⟩) (grown_set_one (a := ⟨g, A, none⟩) G.out rfl _) rfl _⟩
        case measure => simp [intOf]; omega
      · go_simp
        try dsimp only
        refine hKK.out _ _ ?_ (fun hH2 => ?_)
        · exact hH
        clear hKK KK
        have hO := hH
        clear hH
        have hH := hH2
        clear hH2
        try simp only [Act.put, List.setIfInBounds_toArray, List.set_cons_zero, List.set_cons_succ]
        refine wpAnyH_ready (rs := [10]) (by kernel_rfl) (by simp) ?_
        refine AllReadyH.cons (by simp only [List.getElem?_toArray, List.getElem?_cons_succ, List.getElem?_cons_zero]; rfl) (fun KK hKK => ?_) AllReadyH.nil
        go_simp
        try dsimp only
        refine hKK.out _ _ ?_ (fun hH2 => ?_)
        · exact hH
        clear hKK KK
        have hO := hH
        clear hH
        have hH := hH2
        clear hH2
        try simp only [Act.put, List.setIfInBounds_toArray, List.set_cons_zero, List.set_cons_succ]
        refine wpAnyH_take (i := 16) (v := ?_) (by simp only [List.getElem?_toArray, List.getElem?_cons_succ, List.getElem?_cons_zero]; rfl) (by kernel_rfl) (by kernel_rfl) (by kernel_rfl) (by exact fun _ _ _ h => h) (Or.inl ⟨by rfl, ?_⟩) hH ?_
        rotate_left
        · (intro wS hS; (try dsimp only at hS); obtain ⟨k0, k1, k2⟩ := hS; go_simp; try rfl)
        try simp only [Act.put, List.setIfInBounds_toArray, List.set_cons_zero, List.set_cons_succ]
        refine wpAnyH_ready (rs := [17]) (by kernel_rfl) (by simp) ?_
        refine AllReadyH.cons (by simp only [List.getElem?_toArray, List.getElem?_cons_succ, List.getElem?_cons_zero]; rfl) (fun KK hKK => ?_) AllReadyH.nil
        go_simp
        try dsimp only
        refine hKK.out _ _ ?_ (fun hH2 => ?_)
        · exact keepC hH ng _ _
        clear hKK KK
        have hO := hH
        clear hH
        have hH := hH2
        clear hH2
        try simp only [Act.put, List.setIfInBounds_toArray, List.set_cons_zero, List.set_cons_succ]
        refine wpAnyH_take (i := 18) (v := ?_) (by simp only [List.getElem?_toArray, List.getElem?_cons_succ, List.getElem?_cons_zero]; rfl) (by kernel_rfl) (by kernel_rfl) (by kernel_rfl) (by exact fun _ _ _ h => h) (Or.inl ⟨by rfl, ?_⟩) hH ?_
        rotate_left
        · (intro wS hS; (try dsimp only at hS); obtain ⟨k0, k1, k2⟩ := hS; go_simp; try rfl)
        try simp only [Act.put, List.setIfInBounds_toArray, List.set_cons_zero, List.set_cons_succ]
        refine wpAnyH_ready (rs := [19]) (by kernel_rfl) (by simp) ?_
        refine AllReadyH.cons (by simp only [List.getElem?_toArray, List.getElem?_cons_succ, List.getElem?_cons_zero]; rfl) (fun KK hKK => ?_) AllReadyH.nil
        go_simp
        try dsimp only
        refine hKK.out _ _ ?_ (fun hH2 => ?_)
        · exact keepC hH ng _ _
        clear hKK KK
        have hO := hH
        clear hH
        have hH := hH2
        clear hH2
        try simp only [Act.put, List.setIfInBounds_toArray, List.set_cons_zero, List.set_cons_succ]
        refine wpAnyH_done (by kernel_rfl) ?_ _
        go_wp2_with fail
        go_roundw
        case rel => exact ⟨q + 1, by go_num, by omega, by rw [← S0.out]; exact IS2.out, grown_set_one (a := ⟨g, C, none⟩) (grown_set_one (a := ⟨g, A, none⟩) G.out rfl _) rfl _⟩
        case measure => simp [intOf]; omega
    · obtain rfl : c = q := by omega
      clear hlt
      go_wp2_with fail
      go_end0
      exact ⟨rfl, by rw [← SE.out]; exact I.out, GW.out.trans G.out⟩
end Go.Proofs.Ytbdofgkcedpamaa
