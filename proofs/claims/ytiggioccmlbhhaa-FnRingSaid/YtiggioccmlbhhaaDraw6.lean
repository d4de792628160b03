/-
  The drawing of two matrices.
-/
import Derived.Test.YtiggioccmlbhhaaDraw5
import Derived.Test.YtiggioccmlbhhaaStp
namespace Go.Proofs.Ytiggioccmlbhhaa
open Go.RowKit

theorem l3DrawZ (w : World) (cb : Nat) (r c most : Int) (hc : Cur w cb) (hr0 : 0 ≤ r) (hr : r ≤ 24) (hc0 : 0 ≤ c) (hc' : c ≤ 24) (hm : 0 ≤ most ∧ most ≤ 100) :
    Calls Try.prog 51 #[.pointer (some ⟨cb, 0, none⟩), .int .i64 r, .int .i64 c, .int .i64 most] w (fun e w' => ∃ (g n : Nat) (zs : List Int), e = .returned (.agg #[.int .i64 r, .int .i64 c, .slice (some ⟨g, 0, none⟩) n n]) ∧ n ≤ 576 ∧ w.heap.size ≤ g ∧ zs.length = n ∧ IntsC w' g n zs ∧ Cur w' cb ∧ w.grownBy w' (some cb)) := by
  obtain ⟨R, rfl⟩ := Int.eq_ofNat_of_zero_le hr0
  obtain ⟨C, rfl⟩ := Int.eq_ofNat_of_zero_le hc0
  obtain ⟨M, rfl⟩ := Int.eq_ofNat_of_zero_le hm.1
  refine (l3Draw w cb R C M hc (by omega) (by omega) (by omega)).mono ?_
  rintro e w' ⟨g, zs, h1, h2, h3, h4, h5, h6⟩
  exact ⟨g, R * C, zs, h1, Nat.mul_le_mul (show R ≤ 24 by omega) (show C ≤ 24 by omega), h2, h3, h4, h5, h6⟩
def TwoMats (w : World) (e : Ending) (w' : World) : Prop := ∃ (r c : Int) (v : Value) (xs : List Int) (r' c' : Int) (v' : Value) (ys : List Int), e = .returned (.tuple #[.agg #[.int .i64 r, .int .i64 c, v], .agg #[.int .i64 r', .int .i64 c', v']]) ∧ Own w.heap.size w' v xs ∧ Own w.heap.size w' v' ys ∧ xs.length ≤ 601 ∧ ys.length ≤ 601 ∧ Below w.heap.size w w'

set_option maxHeartbeats 2000000 in
theorem drawMul (w : World) (a : Option Addr) (len cap : Nat) (hc : CodeIn w a len) : Calls Try.prog 13 #[.slice a len cap] w (TwoMats w) := by
  have HC := Lib.hid hc
  clear hc
  go_enter Try.func13, Try.ntmps13
  go_wp2_with fail
  refine (l1New _ a len cap (HC.out.below (((Below.refl _ _).alloc (Nat.le_refl _) _).alloc (by simp) _))).mono ?_
  rintro e w1 ⟨cb, rfl, hcb, hc1, hb1⟩
  have CB : w.heap.size + 1 < cb := by simp at hcb; exact hcb
  have K2 : Hid (Blk3 w1 w.heap.size 26 (.int .i64 0) (.int .i64 0) (.slice none 0 0)) := ((Blk3.at_ _ _ _ _ rfl).old _).keep hb1 (by simp; omega)
  have K3 : Hid (Blk3 w1 (w.heap.size + 1) 26 (.int .i64 0) (.int .i64 0) (.slice none 0 0)) := (Blk3.at_ _ _ _ _ (by simp)).keep hb1 (by simp)
  have F1 : Hid (FrS (fun k => w.heap.size ≤ k) w w1) := (((FrS.refl _ w).alloc _).alloc _).trans (FrS.of_below hb1)
  have C1 := Lib.hid hc1
  clear hcb hc1 hb1
  go_wp2_with fail
  refine (l3Any _ cb C1.out).mono ?_
  rintro e w2 ⟨r, c, v, xs, rfl, own, hl, hc2, hf⟩
  obtain ⟨q, qc, rfl, hrd, -⟩ := (own.own (by omega)).form
  obtain ⟨n, hn⟩ : ∃ n, xs.length = n := ⟨_, rfl⟩
  have HN := Lib.hid hn
  have hl : n ≤ 600 := by omega
  rw [hn] at own ⊢
  have NG : ∀ g0 : Nat, q = some ⟨g0, 0, none⟩ → w1.heap.size ≤ g0 ∧ g0 < w2.heap.size := by
    intro g0 e
    rcases own with ⟨h, -⟩ | ⟨g, cap, hv, hB, hi⟩
    · injection h with h1; rw [h1] at e; cases e
    · injection hv with h1
      rw [h1] at e
      injection e with e
      injection e with e
      subst e
      exact ⟨hB, hi.lt⟩
  have ls := F1.out.size
  have lk := K3.out.lt
  have K2 := Lib.hid ((K2.out.frs hf (by omega)).old (.cells #[.int .i64 r, .int .i64 c, .slice q n qc] 26))
  have K3 := Lib.hid ((K3.out.frs hf (by omega)).old (.cells #[.int .i64 r, .int .i64 c, .slice q n qc] 26))
  have K5 : Hid (Blk3 (w2.alloc (.cells #[.int .i64 r, .int .i64 c, .slice q n qc] 26)) w2.heap.size 26 (.int .i64 r) (.int .i64 c) (.slice q n qc)) := Blk3.at_ _ _ _ _ rfl
  have C2 := Lib.hid (hc2.alloc (.cells #[.int .i64 r, .int .i64 c, .slice q n qc] 26))
  have O2 : Hid (OwnC w1.heap.size (w2.alloc (.cells #[.int .i64 r, .int .i64 c, .slice q n qc] 26)) (.slice q n qc) xs) := own.frs ((FrS.refl (fun _ => False) w2).alloc _) (fun _ _ h => h)
  have F2 := Lib.hid ((F1.out.trans (hf.mono2 (q := fun k => w.heap.size ≤ k) (fun k _ hk => by omega))).alloc (.cells #[.int .i64 r, .int .i64 c, .slice q n qc] 26))
  have lc1 := C1.out.lt
  have l5 := hc2.lt
  have l12 := hf.size
  clear own hn hc2 hf hrd C1 F1
  obtain ⟨x0, x1, x2, -, -, -⟩ := K5.out.all
  go_wp2_with fail
  refine (l1Once _ cb 8 C2.out (by omega)).mono ?_
  rintro e w3 ⟨b, rfl, hc3, hg3⟩
  have K2 := Lib.hid (K2.out.keepOne hg3 (by omega))
  have K3 := Lib.hid (K3.out.keepOne hg3 (by omega))
  have K5 := Lib.hid (K5.out.keepOne hg3 (by omega))
  have O2 := Lib.hid (O2.out.frs (FrS.of_one (p := fun k => k = cb) hg3 rfl) (fun k hk => by omega))
  have F2 := Lib.hid (F2.out.trans (FrS.of_one hg3 (show w.heap.size ≤ cb by omega)))
  have C2 := Lib.hid hc3
  clear hc3 hg3 x0 x1 x2
  obtain ⟨x0, x1, x2, -, -, -⟩ := K5.out.all
  cases b with
  | true =>
    go_upto_region 4 with fail
    refine wp_region_held_drew (S := fun w' => FrS (fun k => k = cb ∨ k = w.heap.size ∨ k = w.heap.size + 1) w3 w') (by kernel_rfl) (FrS.refl _ _).drew (fun hH => ?_)
    refine wpAnyH_take (i := 0) (v := ?_) (by simp only [List.getElem?_toArray, List.getElem?_cons_zero]; rfl) (by kernel_rfl) (by kernel_rfl) (by kernel_rfl) (by exact fun _ _ _ h => h) (Or.inl ⟨by rfl, ?_⟩) hH ?_
    rotate_left
    · (intro wS hS; (try dsimp only at hS); obtain ⟨k1, k2, k3⟩ := sevenF K5.out hS (by omega); go_simp; try rfl)
    try simp only [Act.put, List.setIfInBounds_toArray, List.set_cons_zero, List.set_cons_succ]
    refine wpAnyH_take (i := 1) (v := ?_) (by simp only [List.getElem?_toArray, List.getElem?_cons_succ, List.getElem?_cons_zero]; rfl) (by kernel_rfl) (by kernel_rfl) (by kernel_rfl) (by exact fun _ _ _ h => h) (Or.inl ⟨by rfl, ?_⟩) hH ?_
    rotate_left
    · (intro wS hS; clear hS; go_simp; try rfl)
    try simp only [Act.put, List.setIfInBounds_toArray, List.set_cons_zero, List.set_cons_succ]
    refine wpAnyH_ready (rs := [2]) (by kernel_rfl) (by simp) ?_
    refine AllReadyH.cons (by simp only [List.getElem?_toArray, List.getElem?_cons_succ, List.getElem?_cons_zero]; rfl) (fun KK hKK => ?_) AllReadyH.nil
    go_simp
    refine (l3Any _ cb (by exact C2.out)).mono ?_
    rintro e w5 ⟨r9, c9, v9, ys, rfl, own, hl9, hc9, hf⟩
    obtain ⟨q9, qc9, rfl, -, -⟩ := (own.own (by omega)).form
    have hf : FrS (fun k => k = cb ∨ w3.heap.size ≤ k) w3 w5 := ((FrS.refl _ w3).drew).trans hf
    have FX : Hid (FrS (fun k => k = cb ∨ k = w.heap.size ∨ k = w.heap.size + 1) w3 w5) := (hf.mono2 (fun k hk h => by omega))
    have lw := F2.out.size
    have s2 := K3.out.lt
    have s5 := K5.out.lt
    have K2 := Lib.hid (K2.out.frs hf (by omega))
    have K3 := Lib.hid (K3.out.frs hf (by omega))
    have O2 := Lib.hid (O2.out.frs2 hf (fun k hk hk2 => by omega))
    have own : OwnC w3.heap.size w5 (.slice q9 ys.length qc9) ys := own
    have O9 := Lib.hid own
    have HL9 := Lib.hid hl9
    clear own hl9 hc9 hf
    try dsimp only
    refine hKK.out _ _ ?_ (fun hH2 => ?_)
    · exact FX.out
    clear hKK KK
    have hO := hH
    clear hH
    have hH := hH2
    clear hH2
    try simp only [Act.put, List.setIfInBounds_toArray, List.set_cons_zero, List.set_cons_succ]
    obtain ⟨y0, y1, y2, y3, y4, y5⟩ := K2.out.all
    refine wpAnyH_ready (rs := [3]) (by kernel_rfl) (by simp) ?_
    refine AllReadyH.cons (by simp only [List.getElem?_toArray, List.getElem?_cons_succ, List.getElem?_cons_zero]; rfl) (fun KK hKK => ?_) AllReadyH.nil
    go_simp
    have FX := Lib.hid (FX.out.set3 (b := w.heap.size) (.inl (.inr (.inl rfl))) (.int .i64 r) (.int .i64 c) (.slice q n qc))
    have O9 := Lib.hid (O9.out.out3 K2.out (.int .i64 r) (.int .i64 c) (.slice q n qc))
    have O2 := Lib.hid (O2.out.out3 K2.out (.int .i64 r) (.int .i64 c) (.slice q n qc))
    have K3 := Lib.hid (K3.out.far3 (c := w.heap.size) (by omega) (.int .i64 r) (.int .i64 c) (.slice q n qc))
    have K2 := Lib.hid (K2.out.set3 (.int .i64 r) (.int .i64 c) (.slice q n qc))
    try dsimp only
    refine hKK.out _ _ ?_ (fun hH2 => ?_)
    · exact FX.out
    clear hKK KK
    have hO := hH
    clear hH
    have hH := hH2
    clear hH2
    try simp only [Act.put, List.setIfInBounds_toArray, List.set_cons_zero, List.set_cons_succ]
    obtain ⟨z0, z1, z2, z3, z4, z5⟩ := K3.out.all
    refine wpAnyH_ready (rs := [4]) (by kernel_rfl) (by simp) ?_
    refine AllReadyH.cons (by simp only [List.getElem?_toArray, List.getElem?_cons_succ, List.getElem?_cons_zero]; rfl) (fun KK hKK => ?_) AllReadyH.nil
    go_simp
    have FX := Lib.hid (FX.out.set3 (b := w.heap.size + 1) (.inl (.inr (.inr rfl))) (.int .i64 r9) (.int .i64 c9) (.slice q9 ys.length qc9))
    have O9 := Lib.hid (O9.out.out3 K3.out (.int .i64 r9) (.int .i64 c9) (.slice q9 ys.length qc9))
    have O2 := Lib.hid (O2.out.out3 K3.out (.int .i64 r9) (.int .i64 c9) (.slice q9 ys.length qc9))
    have K2 := Lib.hid (K2.out.far3 (c := w.heap.size + 1) (by omega) (.int .i64 r9) (.int .i64 c9) (.slice q9 ys.length qc9))
    have K3 := Lib.hid (K3.out.set3 (.int .i64 r9) (.int .i64 c9) (.slice q9 ys.length qc9))
    try dsimp only
    refine hKK.out _ _ ?_ (fun hH2 => ?_)
    · exact FX.out
    clear hKK KK
    have hO := hH
    clear hH
    have hH := hH2
    clear hH2
    try simp only [Act.put, List.setIfInBounds_toArray, List.set_cons_zero, List.set_cons_succ]
    refine wpAnyH_done (by kernel_rfl) ?_ _
    go_wp2_with fail
    obtain ⟨E0, E1, E2, -, -, -⟩ := K2.out.all
    obtain ⟨G0, G1, G2, -, -, -⟩ := K3.out.all
    have FZ := F2.out.trans (FX.out.mono2 (q := fun k => w.heap.size ≤ k) (fun k _ hk => by omega))
    refine bodyPost_ret (v := .tuple #[.agg #[.int .i64 r, .int .i64 c, .slice q n qc], .agg #[.int .i64 r9, .int .i64 c9, .slice q9 ys.length qc9]]) (by simp [results, Try.results13, go_sem, E0, E1, E2, G0, G1, G2]) rfl ⟨_, _, _, xs, _, _, _, ys, rfl, (O2.out.own (by rw [HN.out]; omega)).le (by omega), (O9.out.own (by have := HL9.out; omega)).le (by omega), by rw [HN.out]; omega, by have := HL9.out; omega, FZ.below (fun k hk => hk) (Nat.le_refl _)⟩
  | false =>
    go_wp2_with fail
    have ST := sIsMat r c q qc xs _ (by have h := (O2.out.own (by rw [HN.out]; omega)).form; obtain ⟨a', c', e', r', -⟩ := h; injection e' with e1 e2 e3; rw [e1]; exact r') (by rw [HN.out]; omega)
    rw [HN.out] at ST
    refine ST.mono ?_
    clear ST
    rintro e w4 ⟨rfl, hb⟩
    have K2 := Lib.hid (K2.out.step hb)
    have K3 := Lib.hid (K3.out.step hb)
    have K5 := Lib.hid (K5.out.step hb)
    have O2 := Lib.hid (O2.out.frs2 (FrS.of_below (p := fun _ => False) hb) (fun _ _ _ h => h))
    have F2 := Lib.hid (F2.out.trans (FrS.of_below hb))
    have C2 := Lib.hid (C2.out.grown (grown_of_below hb none) (by simp))
    clear hb x0 x1 x2
    obtain ⟨x0, x1, x2, -, -, -⟩ := K5.out.all
    rcases Bool.eq_false_or_eq_true (isMat r c xs) with hm | hm
    · rw [hm]
      obtain ⟨-, ⟨c1, c2⟩, -, -⟩ := isMat_says hm
      clear hm
      go_upto_region 5 with fail
      refine wp_region_held_drew (S := fun w' => FrS (fun k => k = cb ∨ k = w.heap.size ∨ k = w.heap.size + 1) w4 w') (by kernel_rfl) (FrS.refl _ _).drew (fun hH => ?_)
      refine wpAnyH_take (i := 0) (v := ?_) (by simp only [List.getElem?_toArray, List.getElem?_cons_zero]; rfl) (by kernel_rfl) (by kernel_rfl) (by kernel_rfl) (by exact fun _ _ _ h => h) (Or.inl ⟨by rfl, ?_⟩) hH ?_
      rotate_left
      · (intro wS hS; (try dsimp only at hS); obtain ⟨k1, k2, k3⟩ := sevenF K5.out hS (by omega); go_simp; try rfl)
      try simp only [Act.put, List.setIfInBounds_toArray, List.set_cons_zero, List.set_cons_succ]
      refine wpAnyH_take (i := 1) (v := ?_) (by simp only [List.getElem?_toArray, List.getElem?_cons_succ, List.getElem?_cons_zero]; rfl) (by kernel_rfl) (by kernel_rfl) (by kernel_rfl) (by exact fun _ _ _ h => h) (Or.inl ⟨by rfl, ?_⟩) hH ?_
      rotate_left
      · (intro wS hS; clear hS; go_simp; try rfl)
      try simp only [Act.put, List.setIfInBounds_toArray, List.set_cons_zero, List.set_cons_succ]
      refine wpAnyH_take (i := 2) (v := ?_) (by simp only [List.getElem?_toArray, List.getElem?_cons_succ, List.getElem?_cons_zero]; rfl) (by kernel_rfl) (by kernel_rfl) (by kernel_rfl) (by exact fun _ _ _ h => h) (Or.inl ⟨by rfl, ?_⟩) hH ?_
      rotate_left
      · (intro wS hS; clear hS; go_simp; try rfl)
      try simp only [Act.put, List.setIfInBounds_toArray, List.set_cons_zero, List.set_cons_succ]
      refine wpAnyH_take (i := 3) (v := ?_) (by simp only [List.getElem?_toArray, List.getElem?_cons_succ, List.getElem?_cons_zero]; rfl) (by kernel_rfl) (by kernel_rfl) (by kernel_rfl) (by exact fun _ _ _ h => h) (Or.inl ⟨by rfl, ?_⟩) hH ?_
      rotate_left
      · (intro wS hS; clear hS; go_simp; try rfl)
      try simp only [Act.put, List.setIfInBounds_toArray, List.set_cons_zero, List.set_cons_succ]
      refine wpAnyH_take (i := 4) (v := ?_) (by simp only [List.getElem?_toArray, List.getElem?_cons_succ, List.getElem?_cons_zero]; rfl) (by kernel_rfl) (by kernel_rfl) (by kernel_rfl) (by exact fun _ _ _ h => h) (Or.inl ⟨by rfl, ?_⟩) hH ?_
      rotate_left
      · (intro wS hS; (try dsimp only at hS); obtain ⟨k1, k2, k3⟩ := sevenF K5.out hS (by omega); go_simp; try rfl)
      try simp only [Act.put, List.setIfInBounds_toArray, List.set_cons_zero, List.set_cons_succ]
      refine wpAnyH_take (i := 5) (v := ?_) (by simp only [List.getElem?_toArray, List.getElem?_cons_succ, List.getElem?_cons_zero]; rfl) (by kernel_rfl) (by kernel_rfl) (by kernel_rfl) (by exact fun _ _ _ h => h) (Or.inl ⟨by rfl, ?_⟩) hH ?_
      rotate_left
      · (intro wS hS; clear hS; go_simp; try rfl)
      try simp only [Act.put, List.setIfInBounds_toArray, List.set_cons_zero, List.set_cons_succ]
      refine wpAnyH_ready (rs := [6]) (by kernel_rfl) (by simp) ?_
      refine AllReadyH.cons (by simp only [List.getElem?_toArray, List.getElem?_cons_succ, List.getElem?_cons_zero]; rfl) (fun KK hKK => ?_) AllReadyH.nil
      go_simp
      refine (l1Below _ cb 5 (by exact C2.out) (by omega)).mono ?_
      rintro e w5 ⟨z, ⟨z0, z1⟩, rfl, hc5, hg5⟩
      have hg5 : w4.grownBy w5 (some cb) := (grown_drew_one (World.grownBy.refl w4 (some cb))).trans hg5
      have lw := F2.out.size
      have s2 := K3.out.lt
      have s5 := K5.out.lt
      have FX : Hid (FrS (fun k => k = cb ∨ k = w.heap.size ∨ k = w.heap.size + 1) w4 w5) := FrS.of_one hg5 (.inl rfl)
      have K2 := Lib.hid (K2.out.keepOne (w := w4) hg5 (by omega))
      have K3 := Lib.hid (K3.out.keepOne (w := w4) hg5 (by omega))
      have O2 := Lib.hid (O2.out.frs2 (FrS.of_one (p := fun k => k = cb) hg5 rfl) (fun k hk _ => by omega))
      have C2 := Lib.hid hc5
      clear hc5 hg5
      try dsimp only
      refine hKK.out _ _ ?_ (fun hH2 => ?_)
      · exact FX.out
      clear hKK KK
      have hO := hH
      clear hH
      have hH := hH2
      clear hH2
      try simp only [Act.put, List.setIfInBounds_toArray, List.set_cons_zero, List.set_cons_succ]
      refine wpAnyH_ready (rs := [7]) (by kernel_rfl) (by simp) ?_
      refine AllReadyH.cons (by simp only [List.getElem?_toArray, List.getElem?_cons_succ, List.getElem?_cons_zero]; rfl) (fun KK hKK => ?_) AllReadyH.nil
      go_simp
      refine (l3DrawZ _ cb c z 9 C2.out c1 c2 (by omega) (by omega) (by omega)).mono ?_
      rintro e w6 ⟨g, N, ys0, rfl, yl, hg, hz, hi, hc6, hg6⟩
      have s7 := FX.out.size
      have FX := Lib.hid (FX.out.trans (FrS.of_one hg6 (.inl rfl)))
      have K2 := Lib.hid (K2.out.keepOne hg6 (by omega))
      have K3 := Lib.hid (K3.out.keepOne hg6 (by omega))
      have O2 := Lib.hid (O2.out.frs2 (FrS.of_one (p := fun k => k = cb) hg6 rfl) (fun k hk _ => by omega))
      have C2 := Lib.hid hc6
      have I6 := Lib.hid hi
      have HZ := Lib.hid hz
      have lg6 := hi.lt
      clear hi hz hc6 hg6
      try dsimp only
      refine hKK.out _ _ ?_ (fun hH2 => ?_)
      · exact FX.out
      clear hKK KK
      have hO := hH
      clear hH
      have hH := hH2
      clear hH2
      try simp only [Act.put, List.setIfInBounds_toArray, List.set_cons_zero, List.set_cons_succ]
      refine wpAnyH_ready (rs := [8]) (by kernel_rfl) (by simp) ?_
      refine AllReadyH.cons (by simp only [List.getElem?_toArray, List.getElem?_cons_succ, List.getElem?_cons_zero]; rfl) (fun KK hKK => ?_) AllReadyH.nil
      go_simp
      refine (l3Spoil _ cb w5.heap.size g N N c z ys0 C2.out (by omega) (by omega) hg I6.out HZ.out (by omega)).mono ?_
      rintro e w7 ⟨r9, c9, v9, ys, rfl, own, hl9, hc9, hf⟩
      obtain ⟨q9, qc9, rfl, -, -⟩ := (own.own (by omega)).form
      have s8 := FX.out.size
      have FX : Hid (FrS (fun k => k = cb ∨ k = w.heap.size ∨ k = w.heap.size + 1) w4 w7) := FX.out.transR hf (fun k hk h => by omega)
      have K2 := Lib.hid (K2.out.frs hf (by omega))
      have K3 := Lib.hid (K3.out.frs hf (by omega))
      have O2 := Lib.hid (O2.out.frsN hf (fun g0 e => by have := NG g0 e; omega))
      have O9 := Lib.hid own
      have HL9 : Hid (ys.length ≤ 600) := by show ys.length ≤ 600; omega
      clear own hl9 hc9 hf
      try dsimp only
      refine hKK.out _ _ ?_ (fun hH2 => ?_)
      · exact FX.out
      clear hKK KK
      have hO := hH
      clear hH
      have hH := hH2
      clear hH2
      try simp only [Act.put, List.setIfInBounds_toArray, List.set_cons_zero, List.set_cons_succ]
      obtain ⟨y0, y1, y2, y3, y4, y5⟩ := K2.out.all
      refine wpAnyH_ready (rs := [9]) (by kernel_rfl) (by simp) ?_
      refine AllReadyH.cons (by simp only [List.getElem?_toArray, List.getElem?_cons_succ, List.getElem?_cons_zero]; rfl) (fun KK hKK => ?_) AllReadyH.nil
      go_simp
      have FX := Lib.hid (FX.out.set3 (b := w.heap.size) (.inl (.inr (.inl rfl))) (.int .i64 r) (.int .i64 c) (.slice q n qc))
      have O9 := Lib.hid (O9.out.out3 K2.out (.int .i64 r) (.int .i64 c) (.slice q n qc))
      have O2 := Lib.hid (O2.out.out3 K2.out (.int .i64 r) (.int .i64 c) (.slice q n qc))
      have K3 := Lib.hid (K3.out.far3 (c := w.heap.size) (by omega) (.int .i64 r) (.int .i64 c) (.slice q n qc))
      have K2 := Lib.hid (K2.out.set3 (.int .i64 r) (.int .i64 c) (.slice q n qc))
      try dsimp only
      refine hKK.out _ _ ?_ (fun hH2 => ?_)
      · exact FX.out
      clear hKK KK
      have hO := hH
      clear hH
      have hH := hH2
      clear hH2
      try simp only [Act.put, List.setIfInBounds_toArray, List.set_cons_zero, List.set_cons_succ]
      obtain ⟨z0, z1, z2, z3, z4, z5⟩ := K3.out.all
      refine wpAnyH_ready (rs := [10]) (by kernel_rfl) (by simp) ?_
      refine AllReadyH.cons (by simp only [List.getElem?_toArray, List.getElem?_cons_succ, List.getElem?_cons_zero]; rfl) (fun KK hKK => ?_) AllReadyH.nil
      go_simp
      have FX := Lib.hid (FX.out.set3 (b := w.heap.size + 1) (.inl (.inr (.inr rfl))) (.int .i64 r9) (.int .i64 c9) (.slice q9 ys.length qc9))
      have O9 := Lib.hid (O9.out.out3 K3.out (.int .i64 r9) (.int .i64 c9) (.slice q9 ys.length qc9))
      have O2 := Lib.hid (O2.out.out3 K3.out (.int .i64 r9) (.int .i64 c9) (.slice q9 ys.length qc9))
      have K2 := Lib.hid (K2.out.far3 (c := w.heap.size + 1) (by omega) (.int .i64 r9) (.int .i64 c9) (.slice q9 ys.length qc9))
      have K3 := Lib.hid (K3.out.set3 (.int .i64 r9) (.int .i64 c9) (.slice q9 ys.length qc9))
      try dsimp only
      refine hKK.out _ _ ?_ (fun hH2 => ?_)
      · exact FX.out
      clear hKK KK
      have hO := hH
      clear hH
      have hH := hH2
      clear hH2
      try simp only [Act.put, List.setIfInBounds_toArray, List.set_cons_zero, List.set_cons_succ]
      refine wpAnyH_done (by kernel_rfl) ?_ _
      go_wp2_with fail
      obtain ⟨E0, E1, E2, -, -, -⟩ := K2.out.all
      obtain ⟨G0, G1, G2, -, -, -⟩ := K3.out.all
      have FZ := F2.out.trans (FX.out.mono2 (q := fun k => w.heap.size ≤ k) (fun k _ hk => by omega))
      refine bodyPost_ret (v := .tuple #[.agg #[.int .i64 r, .int .i64 c, .slice q n qc], .agg #[.int .i64 r9, .int .i64 c9, .slice q9 ys.length qc9]]) (by simp [results, Try.results13, go_sem, E0, E1, E2, G0, G1, G2]) rfl ⟨_, _, _, xs, _, _, _, ys, rfl, (O2.out.own (by rw [HN.out]; omega)).le (by omega), (O9.out.own (by have := HL9.out; omega)).le (by omega), by rw [HN.out]; omega, by have := HL9.out; omega, FZ.below (fun k hk => hk) (Nat.le_refl _)⟩
    · rw [hm]
      clear hm
      go_upto_region 4 with fail
      refine wp_region_held_drew (S := fun w' => FrS (fun k => k = cb ∨ k = w.heap.size ∨ k = w.heap.size + 1) w4 w') (by kernel_rfl) (FrS.refl _ _).drew (fun hH => ?_)
      refine wpAnyH_take (i := 0) (v := ?_) (by simp only [List.getElem?_toArray, List.getElem?_cons_zero]; rfl) (by kernel_rfl) (by kernel_rfl) (by kernel_rfl) (by exact fun _ _ _ h => h) (Or.inl ⟨by rfl, ?_⟩) hH ?_
      rotate_left
      · (intro wS hS; (try dsimp only at hS); obtain ⟨k1, k2, k3⟩ := sevenF K5.out hS (by omega); go_simp; try rfl)
      try simp only [Act.put, List.setIfInBounds_toArray, List.set_cons_zero, List.set_cons_succ]
      refine wpAnyH_take (i := 1) (v := ?_) (by simp only [List.getElem?_toArray, List.getElem?_cons_succ, List.getElem?_cons_zero]; rfl) (by kernel_rfl) (by kernel_rfl) (by kernel_rfl) (by exact fun _ _ _ h => h) (Or.inl ⟨by rfl, ?_⟩) hH ?_
      rotate_left
      · (intro wS hS; clear hS; go_simp; try rfl)
      try simp only [Act.put, List.setIfInBounds_toArray, List.set_cons_zero, List.set_cons_succ]
      refine wpAnyH_ready (rs := [2]) (by kernel_rfl) (by simp) ?_
      refine AllReadyH.cons (by simp only [List.getElem?_toArray, List.getElem?_cons_succ, List.getElem?_cons_zero]; rfl) (fun KK hKK => ?_) AllReadyH.nil
      go_simp
      refine (l3Any _ cb (by exact C2.out)).mono ?_
      rintro e w5 ⟨r9, c9, v9, ys, rfl, own, hl9, hc9, hf⟩
      obtain ⟨q9, qc9, rfl, -, -⟩ := (own.own (by omega)).form
      have hf : FrS (fun k => k = cb ∨ w4.heap.size ≤ k) w4 w5 := ((FrS.refl _ w4).drew).trans hf
      have FX : Hid (FrS (fun k => k = cb ∨ k = w.heap.size ∨ k = w.heap.size + 1) w4 w5) := (hf.mono2 (fun k hk h => by omega))
      have lw := F2.out.size
      have s2 := K3.out.lt
      have s5 := K5.out.lt
      have K2 := Lib.hid (K2.out.frs hf (by omega))
      have K3 := Lib.hid (K3.out.frs hf (by omega))
      have O2 := Lib.hid (O2.out.frs2 hf (fun k hk hk2 => by omega))
      have own : OwnC w4.heap.size w5 (.slice q9 ys.length qc9) ys := own
      have O9 := Lib.hid own
      have HL9 := Lib.hid hl9
      clear own hl9 hc9 hf
      try dsimp only
      refine hKK.out _ _ ?_ (fun hH2 => ?_)
      · exact FX.out
      clear hKK KK
      have hO := hH
      clear hH
      have hH := hH2
      clear hH2
      try simp only [Act.put, List.setIfInBounds_toArray, List.set_cons_zero, List.set_cons_succ]
      obtain ⟨y0, y1, y2, y3, y4, y5⟩ := K2.out.all
      refine wpAnyH_ready (rs := [3]) (by kernel_rfl) (by simp) ?_
      refine AllReadyH.cons (by simp only [List.getElem?_toArray, List.getElem?_cons_succ, List.getElem?_cons_zero]; rfl) (fun KK hKK => ?_) AllReadyH.nil
      go_simp
      have FX := Lib.hid (FX.out.set3 (b := w.heap.size) (.inl (.inr (.inl rfl))) (.int .i64 r) (.int .i64 c) (.slice q n qc))
      have O9 := Lib.hid (O9.out.out3 K2.out (.int .i64 r) (.int .i64 c) (.slice q n qc))
      have O2 := Lib.hid (O2.out.out3 K2.out (.int .i64 r) (.int .i64 c) (.slice q n qc))
      have K3 := Lib.hid (K3.out.far3 (c := w.heap.size) (by omega) (.int .i64 r) (.int .i64 c) (.slice q n qc))
      have K2 := Lib.hid (K2.out.set3 (.int .i64 r) (.int .i64 c) (.slice q n qc))
      try dsimp only
      refine hKK.out _ _ ?_ (fun hH2 => ?_)
      · exact FX.out
      clear hKK KK
      have hO := hH
      clear hH
      have hH := hH2
      clear hH2
      try simp only [Act.put, List.setIfInBounds_toArray, List.set_cons_zero, List.set_cons_succ]
      obtain ⟨z0, z1, z2, z3, z4, z5⟩ := K3.out.all
      refine wpAnyH_ready (rs := [4]) (by kernel_rfl) (by simp) ?_
      refine AllReadyH.cons (by simp only [List.getElem?_toArray, List.getElem?_cons_succ, List.getElem?_cons_zero]; rfl) (fun KK hKK => ?_) AllReadyH.nil
      go_simp
      have FX := Lib.hid (FX.out.set3 (b := w.heap.size + 1) (.inl (.inr (.inr rfl))) (.int .i64 r9) (.int .i64 c9) (.slice q9 ys.length qc9))
      have O9 := Lib.hid (O9.out.out3 K3.out (.int .i64 r9) (.int .i64 c9) (.slice q9 ys.length qc9))
      have O2 := Lib.hid (O2.out.out3 K3.out (.int .i64 r9) (.int .i64 c9) (.slice q9 ys.length qc9))
      have K2 := Lib.hid (K2.out.far3 (c := w.heap.size + 1) (by omega) (.int .i64 r9) (.int .i64 c9) (.slice q9 ys.length qc9))
      have K3 := Lib.hid (K3.out.set3 (.int .i64 r9) (.int .i64 c9) (.slice q9 ys.length qc9))
      try dsimp only
      refine hKK.out _ _ ?_ (fun hH2 => ?_)
      · exact FX.out
      clear hKK KK
      have hO := hH
      clear hH
      have hH := hH2
      clear hH2
      try simp only [Act.put, List.setIfInBounds_toArray, List.set_cons_zero, List.set_cons_succ]
      refine wpAnyH_done (by kernel_rfl) ?_ _
      go_wp2_with fail
      obtain ⟨E0, E1, E2, -, -, -⟩ := K2.out.all
      obtain ⟨G0, G1, G2, -, -, -⟩ := K3.out.all
      have FZ := F2.out.trans (FX.out.mono2 (q := fun k => w.heap.size ≤ k) (fun k _ hk => by omega))
      refine bodyPost_ret (v := .tuple #[.agg #[.int .i64 r, .int .i64 c, .slice q n qc], .agg #[.int .i64 r9, .int .i64 c9, .slice q9 ys.length qc9]]) (by simp [results, Try.results13, go_sem, E0, E1, E2, G0, G1, G2]) rfl ⟨_, _, _, xs, _, _, _, ys, rfl, (O2.out.own (by rw [HN.out]; omega)).le (by omega), (O9.out.own (by have := HL9.out; omega)).le (by omega), by rw [HN.out]; omega, by have := HL9.out; omega, FZ.below (fun k hk => hk) (Nat.le_refl _)⟩
end Go.Proofs.Ytiggioccmlbhhaa
