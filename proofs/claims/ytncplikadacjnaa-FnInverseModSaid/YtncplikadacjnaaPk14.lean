/-
  Texts of this seat, joined: DrwR · DrawR · Mix · MixD · InvL · ShelfE · Same · MatI9
-/
import Derived.Shelf.Slices.Equal
import Derived.Ground.Names2Prog
import Derived.Shelf.Slices.Clone
import Derived.Shelf.Slices.Empties2
import Derived.Test.YtncplikadacjnaaProg
import Derived.Test.YtncplikadacjnaaPk3
import Derived.Test.YtncplikadacjnaaPk4
import Derived.Test.YtncplikadacjnaaPk6
import Derived.Test.YtncplikadacjnaaPk10
import Derived.Test.YtncplikadacjnaaPk11
import Derived.Test.YtncplikadacjnaaPk12

section
/-
  The drawing of a square matrix once more, with a bound on its number of rows.
-/
namespace Go.Proofs.Ytncplikadacjnaa
set_option maxRecDepth 100000
open Go.RowKit

def CurMatR (B L cb : Nat) (p : Nat → Prop) (w : World) (e : Ending) (w' : World) : Prop := ∃ (r c : Int) (v : Value) (zs : List Int), e = .returned (.agg #[.int .i64 r, .int .i64 c, v]) ∧ OwnC B w' v zs ∧ zs.length ≤ L ∧ r ≤ 30 ∧ Cur w' cb ∧ FrS p w w'
theorem CurMatR.end_ {B L cb b : Nat} {pr : Nat → Prop} {w W : World} {r c : Int} {v p q s : Value} {zs : List Int} (own : OwnC B W v zs) (hl : zs.length ≤ L) (k : Blk3 W b 26 p q s) (hc : Cur W cb) (hcb : cb < b) (hB : pr b) (f : FrS pr w W) (hr : r ≤ 30 := by omega) :
    CurMatR B L cb pr w (.returned (.agg #[.int .i64 r, .int .i64 c, v])) (((W.setCell ⟨b, 0, none⟩ (.int .i64 r)).setCell ⟨b, 1, none⟩ (.int .i64 c)).setCell ⟨b, 2, none⟩ v) :=
  ⟨r, c, v, zs, rfl, own.out3 k _ _ _, hl, hr, ((hc.setFar hcb _).setFar hcb _).setFar hcb _, ((f.set (.inl hB) _).set (.inl hB) _).set (.inl hB) _⟩
set_option maxHeartbeats 2000000 in
theorem l3SpoilR (w : World) (cb B g n cap : Nat) (r c : Int) (zs : List Int) (hc : Cur w cb) (hcB : cb < B) (hB : B ≤ w.heap.size) (hg : B ≤ g) (hi : IntsC w g cap zs) (hz : zs.length = n) (hn : n ≤ 600) (hr0 : 0 ≤ r) (hr1 : r ≤ 24) :
    Calls Try.prog 89 #[.pointer (some ⟨cb, 0, none⟩), .agg #[.int .i64 r, .int .i64 c, .slice (some ⟨g, 0, none⟩) n cap]] w (CurMatR B (n + 1) cb (fun k => k = cb ∨ k = g ∨ w.heap.size ≤ k) w) := by
  have hlt := hc.lt
  have gl := hi.lt
  have C0 := Lib.hid hc
  have I0 := Lib.hid hi
  have HZ := Lib.hid hz
  clear hc hi hz
  go_enter Try.func89, Try.ntmps89
  go_wp2_with fail
  refine (l1Below _ cb 40 ((C0.out.alloc (.cells #[.int .i64 r, .int .i64 c, .slice (some ⟨g, 0, none⟩) n cap] 26)).alloc (.cells #[.int .i64 0, .int .i64 0, .slice none 0 0] 26)) (by omega)).mono ?_
  rintro e w1 ⟨k, ⟨k0, k1⟩, rfl, hc1, hg1⟩
  have K0 : Hid (Blk3 w1 w.heap.size 26 (.int .i64 r) (.int .i64 c) (.slice (some ⟨g, 0, none⟩) n cap)) := ((Blk3.at_ _ _ _ _ rfl).old _).keepOne hg1 (by omega)
  have K2 : Hid (Blk3 w1 (w.heap.size + 1) 26 (.int .i64 0) (.int .i64 0) (.slice none 0 0)) := (Blk3.at_ _ _ _ _ (by simp)).keepOne hg1 (by omega)
  have C1 := Lib.hid hc1
  have F1 : Hid (FrS (fun k => k = cb ∨ k = g ∨ w.heap.size ≤ k) w w1) := ((((FrS.refl _ w).alloc _).alloc _).trans (FrS.of_one hg1 (.inl rfl)))
  have O1 : Hid (OwnC B w1 (.slice (some ⟨g, 0, none⟩) n cap) zs) := .inr ⟨g, cap, by rw [HZ.out], hg, (((I0.out.old _).old _)).move (hg1.block g (by simp; omega) (by simp; omega))⟩
  have I1 : Hid (IntsC w1 g cap zs) := (((I0.out.old _).old _)).move (hg1.block g (by simp; omega) (by simp; omega))
  have l1 : w.heap.size + 1 < w1.heap.size := K2.out.lt
  clear hc1 hg1 C0 I0
  obtain ⟨a0, a1, a2, a3, a4, a5⟩ := K0.out.all
  obtain ⟨b0, b1, b2, b3, b4, b5⟩ := K2.out.all
  by_cases e0 : k = 0
  · subst e0
    go_wp2_with fail
    refine (l1PickInt (fun t => t ≤ 30) _ cb w1.heap.size 4 (C1.out.alloc _) ?_ (by omega) (by omega) (by omega)).mono ?_
    · exact IntList.new (P := fun t => t ≤ 30) [-1, 0, 7, r + 1] (by intro z hz; simp at hz; show z ≤ 30; omega) w1 3
    rintro e w2 ⟨t, ht, rfl, hc2, hg2⟩
    have K0 := Lib.hid ((K0.out.old _).keepOne hg2 (by omega))
    have K2 := Lib.hid ((K2.out.old _).keepOne hg2 (by omega))
    have C2 := Lib.hid hc2
    have fx : FrS (fun k => k = cb) w1 w2 := (((FrS.refl _ w1).alloc _).trans (FrS.of_one hg2 rfl))
    have F2 := Lib.hid (F1.out.trans (fx.mono (fun k hk => .inl hk)))
    have O2 := Lib.hid (O1.out.frs fx (fun k hk => by omega))
    clear hc2 hg2 fx
    obtain ⟨s0, s1, s2, f0, f1, f2⟩ := K0.out.all
    obtain ⟨u0, u1, u2, v0, v1, v2⟩ := K2.out.all
    go_wp2_with fail
    obtain ⟨E0, E1, E2, -, -, -⟩ := ((((K2.out.far (a := ⟨w.heap.size, 0, none⟩) (by simp) (.int .i64 t)).set0 (.int .i64 t)).set1 (.int .i64 c)).set2 (.slice (some ⟨g, 0, none⟩) n cap)).all
    exact bodyPost_ret (v := .agg #[.int .i64 t, .int .i64 c, .slice (some ⟨g, 0, none⟩) n cap]) (by simp [results, Try.results89, go_sem, E0, E1, E2]) rfl (CurMatR.end_ (O2.out.out1 K0.out 0 _) (by rw [HZ.out]; omega) (K2.out.far (by simp) _) (C2.out.setFar (by show cb < w.heap.size; omega) _) (by omega) (by omega) (F2.out.set (.inl (.inr (.inr (Nat.le_refl _)))) _))
  by_cases e1 : k = 1
  · subst e1
    by_cases hn0 : 0 < n
    · go_upto_region 6 with fail
      refine wp_region_held_drew (S := fun w' => FrS (fun k => k = cb ∨ k = g) w1 w') (by kernel_rfl) (FrS.refl _ _).drew (fun hH => ?_)
      refine wpAnyH_take (i := 0) (v := ?_) (by simp only [List.getElem?_toArray, List.getElem?_cons_zero]; rfl) (by kernel_rfl) (by kernel_rfl) (by kernel_rfl) (by exact fun _ _ _ h => h) (Or.inl ⟨by rfl, ?_⟩) hH ?_
      rotate_left
      · (intro wS hS; clear hS; go_simp; try rfl)
      try simp only [Act.put, List.setIfInBounds_toArray, List.set_cons_zero, List.set_cons_succ]
      refine wpAnyH_take (i := 1) (v := ?_) (by simp only [List.getElem?_toArray, List.getElem?_cons_succ, List.getElem?_cons_zero]; rfl) (by kernel_rfl) (by kernel_rfl) (by kernel_rfl) (by exact fun _ _ _ h => h) (Or.inl ⟨by rfl, ?_⟩) hH ?_
      rotate_left
      · (intro wS hS; (try dsimp only at hS); obtain ⟨k1, k2, k3⟩ := sevenF K0.out hS (by rintro (h | h); omega; exact I1.out.ints.ne_blk K0.out h.symm); go_simp; try rfl)
      try simp only [Act.put, List.setIfInBounds_toArray, List.set_cons_zero, List.set_cons_succ]
      refine wpAnyH_take (i := 2) (v := ?_) (by simp only [List.getElem?_toArray, List.getElem?_cons_succ, List.getElem?_cons_zero]; rfl) (by kernel_rfl) (by kernel_rfl) (by kernel_rfl) (by exact fun _ _ _ h => h) (Or.inl ⟨by rfl, ?_⟩) hH ?_
      rotate_left
      · (intro wS hS; clear hS; go_simp; try rfl)
      try simp only [Act.put, List.setIfInBounds_toArray, List.set_cons_zero, List.set_cons_succ]
      refine wpAnyH_ready (rs := [3]) (by kernel_rfl) (by simp) ?_
      refine AllReadyH.cons (by simp only [List.getElem?_toArray, List.getElem?_cons_succ, List.getElem?_cons_zero]; rfl) (fun KK hKK => ?_) AllReadyH.nil
      go_simp
      refine (l1Odd _ cb (by exact C1.out)).mono ?_
      rintro e w2 ⟨z, hz, rfl, hc2, hg2⟩
      have I2 := Lib.hid (I1.out.move (hg2.block g I1.out.lt (by simp; omega)))
      have C2 := Lib.hid hc2
      have f2 : FrS (fun k => k = cb ∨ k = g) w1 w2 := (FrS.refl _ w1).drew.trans (FrS.of_one hg2 (.inl rfl))
      have FX := Lib.hid f2
      clear hc2 f2 hg2
      try dsimp only
      refine hKK.out _ _ ?_ (fun hH2 => ?_)
      · exact FX.out
      clear hKK KK
      have hO := hH
      clear hH
      have hH := hH2
      clear hH2
      try simp only [Act.put, List.setIfInBounds_toArray, List.set_cons_zero, List.set_cons_succ]
      refine wpAnyH_take (i := 4) (v := ?_) (by simp only [List.getElem?_toArray, List.getElem?_cons_succ, List.getElem?_cons_zero]; rfl) (by kernel_rfl) (by kernel_rfl) (by kernel_rfl) (by exact fun _ _ _ h => h) (Or.inl ⟨by rfl, ?_⟩) hH ?_
      rotate_left
      · (intro wS hS; clear hS; go_simp; try rfl)
      try simp only [Act.put, List.setIfInBounds_toArray, List.set_cons_zero, List.set_cons_succ]
      have hold := I2.out.ints.cell (i := 0) (by rw [HZ.out]; exact hn0)
      have hfr := I2.out.ints.free 0
      refine wpAnyH_ready (rs := [5]) (by kernel_rfl) (by simp) ?_
      refine AllReadyH.cons (by simp only [List.getElem?_toArray, List.getElem?_cons_succ, List.getElem?_cons_zero]; rfl) (fun KK hKK => ?_) AllReadyH.nil
      go_simp
      have I2 := Lib.hid (I2.out.set 0 (by rw [HZ.out]; exact hn0) z)
      have C2 := Lib.hid (C2.out.setFar (x := ⟨g, 0, none⟩) (by show cb < g; omega) (.int .i64 z))
      have FX : Hid (FrS (fun k => k = cb ∨ k = g) w1 (w2.setCell ⟨g, 0, none⟩ (.int .i64 z))) := FX.out.set (a := ⟨g, 0, none⟩) (.inl (.inr rfl)) _
      try dsimp only
      refine hKK.out _ _ ?_ (fun hH2 => ?_)
      · exact FX.out
      clear hKK KK
      have hO := hH
      clear hH
      have hH := hH2
      clear hH2
      try simp only [Act.put, List.setIfInBounds_toArray, List.set_cons_zero, List.set_cons_succ]
      have K0n : ¬ (w.heap.size = cb ∨ w.heap.size = g) := by rintro (h | h); omega; exact I1.out.ints.ne_blk K0.out h.symm
      have K2n : ¬ (w.heap.size + 1 = cb ∨ w.heap.size + 1 = g) := by rintro (h | h); omega; exact I1.out.ints.ne_blk K2.out h.symm
      have K0 := Lib.hid (K0.out.frs FX.out K0n)
      have K2 := Lib.hid (K2.out.frs FX.out K2n)
      have F2 := Lib.hid (F1.out.trans (FX.out.mono (q := fun k => k = cb ∨ k = g ∨ w.heap.size ≤ k) (fun k hk => by omega)))
      have O2 : Hid (OwnC B (w2.setCell ⟨g, 0, none⟩ (.int .i64 z)) (.slice (some ⟨g, 0, none⟩) n cap) (zs.set 0 z)) := .inr ⟨g, cap, by rw [List.length_set, HZ.out], hg, I2.out⟩
      obtain ⟨s0, s1, s2, f0, f1, f2⟩ := K0.out.all
      obtain ⟨u0, u1, u2, v0, v1, v2⟩ := K2.out.all
      refine wpAnyH_done (by kernel_rfl) ?_ _
      go_wp2_with fail
      obtain ⟨E0, E1, E2, -, -, -⟩ := (((K2.out.set0 (.int .i64 r)).set1 (.int .i64 c)).set2 (.slice (some ⟨g, 0, none⟩) n cap)).all
      exact bodyPost_ret (v := .agg #[.int .i64 r, .int .i64 c, .slice (some ⟨g, 0, none⟩) n cap]) (by simp [results, Try.results89, go_sem, E0, E1, E2]) rfl (CurMatR.end_ O2.out (by rw [List.length_set, HZ.out]; omega) K2.out C2.out (by omega) (by omega) F2.out)
    · obtain rfl : n = 0 := by omega
      go_wp2_with fail
      obtain ⟨E0, E1, E2, -, -, -⟩ := (((K2.out.set0 (.int .i64 r)).set1 (.int .i64 c)).set2 (.slice (some ⟨g, 0, none⟩) 0 cap)).all
      exact bodyPost_ret (v := .agg #[.int .i64 r, .int .i64 c, .slice (some ⟨g, 0, none⟩) 0 cap]) (by simp [results, Try.results89, go_sem, E0, E1, E2]) rfl (CurMatR.end_ O1.out (by rw [HZ.out]; omega) K2.out C1.out (by omega) (by omega) F1.out)
  by_cases e2 : k = 2
  · subst e2
    obtain ⟨fi, hfi, hz0, hz1, hz2⟩ := facts_int
    have hown : (w1.alloc (.cells #[.int .i64 1] 3)).ownsRow B 3 1 (.slice (some ⟨g, 0, none⟩) n cap) n (zs.map (Value.int .i64)) := by
      have := (I1.out.old (.cells #[.int .i64 1] 3)).row hg
      rw [HZ.out] at this
      exact this
    have news : ∀ (j : Nat) u, [Value.int .i64 1][j]? = some u → (w1.alloc (.cells #[.int .i64 1] 3)).cell? ((⟨w1.heap.size, 0, none⟩ : Addr).add j) = some u := by
      intro j u hu
      have hj : j = 0 := by
        rcases j with _ | j
        · rfl
        · simp at hu
      subst hj
      have := heap_alloc_new w1 (.cells #[Value.int .i64 1] 3)
      have hc : (w1.alloc (.cells #[Value.int .i64 1] 3)).cell? ⟨w1.heap.size, 0, none⟩ = some (.int .i64 1) := by
        unfold World.cell?
        simp only [this]
        rfl
      have ha : (⟨w1.heap.size, 0, none⟩ : Addr).add 0 = ⟨w1.heap.size, 0, none⟩ := rfl
      rw [ha, hc]
      simpa using hu
    have HO := Lib.hid hown
    have NS := Lib.hid news
    have bs : B ≤ w1.heap.size := Nat.le_trans hB F1.out.size
    clear hown news
    go_wp2_with (at_builtin; refine wpList_append_own_at _ rfl _ _ 24 rfl B 3 fi (.int .i64 0) 1 8 underlying_ints hfi hz0 hz1 hz2 rfl (by decide) _ _ _ rfl HO.out ⟨w1.heap.size, 0, none⟩ 1 1 [.int .i64 1] ?hx ?hl ?hnews ?h1 ?h63 ?hbytes ?hbase ?hnext)
    case hx => rfl
    case hl => rfl
    case hnews => exact NS.out
    case h1 => intro u hu; simp at hu; subst hu; rfl
    case h63 => unfold maxLen; omega
    case hbytes => omega
    case hbase => simp; omega
    case hnext =>
      rintro v' w2 ho hg2 - hbk
      have O2 : Hid (OwnC B w2 v' (zs ++ [1])) := OwnC.of_row (by rw [List.length_append, HZ.out, List.map_append]; exact ho)
      have K0 := Lib.hid ((K0.out.old (.cells #[.int .i64 1] 3)).keepOne (c := g) (by simpa [Value.ownBlock] using hg2) (Ne.symm (I1.out.ints.ne_blk K0.out)))
      have K2 := Lib.hid ((K2.out.old (.cells #[.int .i64 1] 3)).keepOne (c := g) (by simpa [Value.ownBlock] using hg2) (Ne.symm (I1.out.ints.ne_blk K2.out)))
      have fx : FrS (fun k => k = cb ∨ k = g ∨ w.heap.size ≤ k) (w1.alloc (.cells #[.int .i64 1] 3)) w2 := FrS.of_one (g := g) (by simpa [Value.ownBlock] using hg2) (.inr (.inl rfl))
      have F2 := Lib.hid ((F1.out.alloc _).trans fx)
      have C2 := Lib.hid ((C1.out.alloc (.cells #[.int .i64 1] 3)).frs (FrS.of_one (p := fun k => k = g) (g := g) (by simpa [Value.ownBlock] using hg2) rfl) (fun k hk => by omega))
      obtain ⟨q2, qc2, rfl, -, -⟩ := (O2.out.own (by rw [List.length_append, HZ.out]; simp; omega)).form
      clear ho hg2 hbk fx
      obtain ⟨s0, s1, s2, f0, f1, f2⟩ := K0.out.all
      obtain ⟨u0, u1, u2, v0, v1, v2⟩ := K2.out.all
      have EL : (zs ++ [(1 : Int)]).length = n + 1 := by rw [List.length_append, HZ.out]; rfl
      rw [EL] at O2 ⊢
      go_wp2_with fail
      obtain ⟨E0, E1, E2, -, -, -⟩ := ((((K2.out.far (a := ⟨w.heap.size, 2, none⟩) (by simp) (.slice q2 (n + 1) qc2)).set0 (.int .i64 r)).set1 (.int .i64 c)).set2 (.slice q2 (n + 1) qc2)).all
      exact bodyPost_ret (v := .agg #[.int .i64 r, .int .i64 c, .slice q2 (n + 1) qc2]) (by simp [results, Try.results89, go_sem, E0, E1, E2]) rfl (CurMatR.end_ (O2.out.out1 K0.out 2 _) (by rw [EL]; omega) (K2.out.far (by simp) _) (C2.out.setFar (by show cb < w.heap.size; omega) _) (by omega) (by omega) (F2.out.set (.inl (.inr (.inr (Nat.le_refl _)))) _))
  · have n0 : (k == 0) = false := by simpa using e0
    have n1 : (k == 1) = false := by simpa using e1
    have n2 : (k == 2) = false := by simpa using e2
    go_wp2_with fail
    obtain ⟨E0, E1, E2, -, -, -⟩ := (((K2.out.set0 (.int .i64 r)).set1 (.int .i64 c)).set2 (.slice (some ⟨g, 0, none⟩) n cap)).all
    exact bodyPost_ret (v := .agg #[.int .i64 r, .int .i64 c, .slice (some ⟨g, 0, none⟩) n cap]) (by simp [results, Try.results89, go_sem, E0, E1, E2]) rfl (CurMatR.end_ O1.out (by rw [HZ.out]; omega) K2.out C1.out (by omega) (by omega) F1.out)

set_option maxRecDepth 100000 in
set_option maxHeartbeats 2000000 in
theorem l3SquareR (w : World) (cb : Nat) (hc : Cur w cb) :
    Calls Try.prog 52 #[.pointer (some ⟨cb, 0, none⟩)] w (CurMatR w.heap.size 17 cb (fun k => k = cb ∨ w.heap.size ≤ k) w) := by
  have hlt := hc.lt
  have C0 := Lib.hid hc
  clear hc
  go_enter Try.func52, Try.ntmps52
  go_wp2_with fail
  refine (l1Below _ cb 5 (C0.out.alloc (.cells #[.int .i64 0, .int .i64 0, .slice none 0 0] 26)) (by omega)).mono ?_
  rintro e w1 ⟨R, ⟨r0, r1⟩, rfl, hc1, hg1⟩
  have K2 : Hid (Blk3 w1 w.heap.size 26 (.int .i64 0) (.int .i64 0) (.slice none 0 0)) := (Blk3.at_ _ _ _ _ rfl).keepOne hg1 (by omega)
  have C1 := Lib.hid hc1
  have F1 : Hid (FrS (fun k => k = cb ∨ w.heap.size ≤ k) w w1) := ((FrS.refl _ w).alloc _).trans (FrS.of_one hg1 (.inl rfl))
  clear hc1 hg1 C0
  have lk := K2.out.lt
  have lc := C1.out.lt
  go_wp2_with fail
  refine (l1PickInt (fun z => 1 ≤ z ∧ z ≤ 9) _ cb w1.heap.size 3 (C1.out.alloc _) ?_ (by omega) (by omega) (by omega)).mono ?_
  · exact IntList.new [1, 3, 9] (by decide) w1 3
  rintro e w3 ⟨z, ⟨z0, z1⟩, rfl, hc3, hg3⟩
  have K2 := Lib.hid ((K2.out.old _).keepOne hg3 (by omega))
  have C3 := Lib.hid hc3
  have F3 := Lib.hid ((F1.out.alloc _).trans (FrS.of_one hg3 (.inl rfl)))
  clear hc3 hg3 C1 F1 lk lc
  obtain ⟨R, rfl⟩ := Int.eq_ofNat_of_zero_le r0
  obtain ⟨z, rfl⟩ := Int.eq_ofNat_of_zero_le (show 0 ≤ z by omega)
  have lk := K2.out.lt
  have lc := C3.out.lt
  go_wp2_with fail
  refine (l3Draw _ cb R R z C3.out (by omega) (by omega) (by omega)).mono ?_
  rintro e w4 ⟨g, zs, rfl, hg, hz, hi, hc4, hg4⟩
  obtain ⟨N, hN⟩ : ∃ N, R * R = N := ⟨_, rfl⟩
  have hNle : N ≤ 16 := by rw [← hN]; exact Nat.mul_le_mul (show R ≤ 4 by omega) (show R ≤ 4 by omega)
  have HN := Lib.hid hN
  rw [hN] at hz hi ⊢
  have HZ := Lib.hid hz
  have K2 := Lib.hid ((K2.out.keepOne hg4 (by omega)).old (.cells #[.int .i64 R, .int .i64 R, .slice (some ⟨g, 0, none⟩) N N] 26))
  have K6 : Hid (Blk3 (w4.alloc (.cells #[.int .i64 R, .int .i64 R, .slice (some ⟨g, 0, none⟩) N N] 26)) w4.heap.size 26 (.int .i64 R) (.int .i64 R) (.slice (some ⟨g, 0, none⟩) N N)) := Blk3.at_ _ _ _ _ rfl
  have CU := Lib.hid (hc4.alloc (.cells #[.int .i64 R, .int .i64 R, .slice (some ⟨g, 0, none⟩) N N] 26))
  have FR := Lib.hid ((F3.out.trans (FrS.of_one hg4 (.inl rfl))).alloc (.cells #[.int .i64 R, .int .i64 R, .slice (some ⟨g, 0, none⟩) N N] 26))
  have I := Lib.hid (hi.old (.cells #[.int .i64 R, .int .i64 R, .slice (some ⟨g, 0, none⟩) N N] 26))
  have gp := hi.lt
  have wg : w.heap.size < g := by omega
  have wp : w.heap.size < w4.heap.size := by omega
  have hw4 := FR.out.size
  clear hN hz hi hc4 hg4 hg F3 C3 lk lc
  obtain ⟨x0, x1, x2, -, -, -⟩ := K6.out.all
  by_cases h1 : (1 : Int) < R
  · go_wp2_with fail
    refine (l1Once _ cb 6 CU.out (by omega)).mono ?_
    rintro e w5 ⟨b, rfl, hc5, hg5⟩
    have K2 := Lib.hid (K2.out.keepOne hg5 (by omega))
    have K6 := Lib.hid (K6.out.keepOne hg5 (by omega))
    have CU := Lib.hid hc5
    have FR := Lib.hid (FR.out.trans (FrS.of_one hg5 (.inl rfl)))
    have I := Lib.hid (I.out.move (hg5.block g I.out.lt (by simp; omega)))
    clear hc5 hg5 x0 x1 x2
    obtain ⟨x0, x1, x2, -, -, -⟩ := K6.out.all
    cases b with
    | false =>
      go_wp2_with fail
      refine (l3SpoilR _ cb w.heap.size g N N R R zs CU.out hlt FR.out.size (by omega) I.out HZ.out (by omega) (by omega) (by omega)).mono ?_
      rintro e w9 ⟨r', c', v', zs', rfl, own, hl, hr9, hc9, hf⟩
      obtain ⟨q9, qc9, rfl, -, -⟩ := (own.own (by omega)).form
      have lk9 := K2.out.lt
      have K2 := Lib.hid (K2.out.frs hf (by omega))
      have F9 := Lib.hid (FR.out.trans ((hf.mono (q := fun k => k = cb ∨ w.heap.size ≤ k) (fun k hk => by have := FR.out.size; omega))))
      have O9 := Lib.hid own
      have C9 := Lib.hid hc9
      have HL := Lib.hid hl
      clear own hl hc9 hf
      obtain ⟨y0, y1, y2, y3, y4, y5⟩ := K2.out.all
      go_wp2_with fail
      obtain ⟨E0, E1, E2, -, -, -⟩ := (((K2.out.set0 (.int .i64 r')).set1 (.int .i64 c')).set2 (.slice q9 zs'.length qc9)).all
      exact bodyPost_ret (v := .agg #[.int .i64 r', .int .i64 c', .slice q9 zs'.length qc9]) (by simp [results, Try.results52, go_sem, E0, E1, E2]) rfl (CurMatR.end_ O9.out (by have := HL.out; omega) K2.out C9.out hlt (.inr (Nat.le_refl _)) F9.out)
    | true =>
      go_wp2_with fail
      go_loopw [5] (fun i wr => ∃ (k : Nat) (zs : List Int), i = .int .i64 k ∧ k ≤ R ∧ zs.length = N ∧ IntsC wr g N zs ∧ FrS (fun k => k = g) w5 wr) (fun i _ => R - (intOf i).toNat)
      case atStart => exact ⟨0, zs, rfl, by omega, HZ.out, I.out, FrS.refl _ _⟩
      case round =>
        clear HZ
        obtain ⟨k, zs, rfl, hk, hz, hi, hfr⟩ := hrel
        have HZ := Lib.hid hz
        have I := Lib.hid hi
        have FG := Lib.hid hfr
        clear hz hi hfr x0 x1 x2
        have K6 := Lib.hid (K6.out.frs FG.out (by omega))
        obtain ⟨x0, x1, x2, -, -, -⟩ := K6.out.all
        by_cases hk2 : k < R
        · have q0 : 2 * R ≤ N := by rw [← HN.out]; exact Nat.mul_le_mul_right R (by omega)
          have q1 : R + k < N := by omega
          have q2 : k < N := by omega
          have hc1 := I.out.ints.cell (i := R + k) (by rw [HZ.out]; exact q1)
          have hc2 := I.out.ints.cell (i := k) (by rw [HZ.out]; exact q2)
          have hfr := I.out.ints.free k
          obtain ⟨x, hx⟩ : ∃ x, zs.getD (R + k) 0 = x := ⟨_, rfl⟩
          rw [hx] at hc1
          obtain ⟨y, hy⟩ : ∃ y, zs.getD k 0 = y := ⟨_, rfl⟩
          rw [hy] at hc2
          have e1 : 0 ≤ (R : Int) + (k : Int) := by omega
          have e2 : (R : Int) + (k : Int) < (N : Int) := by omega
          have e3 : ((R : Int) + (k : Int)).toNat = R + k := by omega
          have v2 : IntKind.i64.wrap ((R : Int) + (k : Int)) = (R : Int) + (k : Int) := IntWalk.i64_in _ (by omega)
          clear hx hy
          go_wp2_with fail
          go_still_tail 11, (by kernel_rfl)
          go_wp2_with fail
          go_roundw
          case rel =>
            refine ⟨k + 1, zs.set k x, by go_num, by omega, by rw [List.length_set]; exact HZ.out, ?_, ?_⟩
            · exact I.out.drew.set k (by rw [HZ.out]; exact q2) _
            · exact (FG.out.drew).set (a := ⟨g, k, none⟩) (.inl rfl) _
          case measure => simp [intOf]; omega
        · have hk3 : decide (k < R) = false := by simpa using hk2
          have K2 := Lib.hid (K2.out.frs FG.out (by omega))
          have CU := Lib.hid (CU.out.frs FG.out (fun k hk => by omega))
          have FR := Lib.hid (FR.out.trans (FG.out.mono (q := fun k => k = cb ∨ w.heap.size ≤ k) (fun k hk => by omega)))
          go_wp2_with fail
          refine (l3SpoilR _ cb w.heap.size g N N R R zs CU.out hlt FR.out.size (by omega) I.out HZ.out (by omega) (by omega) (by omega)).mono ?_
          rintro e w9 ⟨r', c', v', zs', rfl, own, hl, hr9, hc9, hf⟩
          obtain ⟨q9, qc9, rfl, -, -⟩ := (own.own (by omega)).form
          have lk9 := K2.out.lt
          have K2 := Lib.hid (K2.out.frs hf (by omega))
          have F9 := Lib.hid (FR.out.trans ((hf.mono (q := fun k => k = cb ∨ w.heap.size ≤ k) (fun k hk => by have := FR.out.size; omega))))
          have O9 := Lib.hid own
          have C9 := Lib.hid hc9
          have HL := Lib.hid hl
          clear own hl hc9 hf
          obtain ⟨y0, y1, y2, y3, y4, y5⟩ := K2.out.all
          go_wp2_with fail
          obtain ⟨E0, E1, E2, -, -, -⟩ := (((K2.out.set0 (.int .i64 r')).set1 (.int .i64 c')).set2 (.slice q9 zs'.length qc9)).all
          exact bodyPost_ret (v := .agg #[.int .i64 r', .int .i64 c', .slice q9 zs'.length qc9]) (by simp [results, Try.results52, go_sem, E0, E1, E2]) rfl (CurMatR.end_ O9.out (by have := HL.out; omega) K2.out C9.out hlt (.inr (Nat.le_refl _)) F9.out)
  · have h1' : decide ((1 : Int) < (R : Int)) = false := by simpa using h1
    go_wp2_with fail
    refine (l3SpoilR _ cb w.heap.size g N N R R zs CU.out hlt FR.out.size (by omega) I.out HZ.out (by omega) (by omega) (by omega)).mono ?_
    rintro e w9 ⟨r', c', v', zs', rfl, own, hl, hr9, hc9, hf⟩
    obtain ⟨q9, qc9, rfl, -, -⟩ := (own.own (by omega)).form
    have lk9 := K2.out.lt
    have K2 := Lib.hid (K2.out.frs hf (by omega))
    have F9 := Lib.hid (FR.out.trans ((hf.mono (q := fun k => k = cb ∨ w.heap.size ≤ k) (fun k hk => by have := FR.out.size; omega))))
    have O9 := Lib.hid own
    have C9 := Lib.hid hc9
    have HL := Lib.hid hl
    clear own hl hc9 hf
    obtain ⟨y0, y1, y2, y3, y4, y5⟩ := K2.out.all
    go_wp2_with fail
    obtain ⟨E0, E1, E2, -, -, -⟩ := (((K2.out.set0 (.int .i64 r')).set1 (.int .i64 c')).set2 (.slice q9 zs'.length qc9)).all
    exact bodyPost_ret (v := .agg #[.int .i64 r', .int .i64 c', .slice q9 zs'.length qc9]) (by simp [results, Try.results52, go_sem, E0, E1, E2]) rfl (CurMatR.end_ O9.out (by have := HL.out; omega) K2.out C9.out hlt (.inr (Nat.le_refl _)) F9.out)
end Go.Proofs.Ytncplikadacjnaa
end

section
/-
  The drawing of a system over residues.
-/
namespace Go.Proofs.Ytncplikadacjnaa
set_option maxRecDepth 100000
open Go.RowKit

theorem l1Num9 (w : World) (cb : Nat) (hc : Cur w cb) : Calls Try.prog 90 #[.pointer (some ⟨cb, 0, none⟩), .int .i64 9] w (CurInt (fun _ => True) cb w) := by
  have C0 := Lib.hid hc
  clear hc
  go_enter Try.func90, Try.ntmps90
  go_wp2_with fail
  refine (l1Once _ cb 40 C0.out (by omega)).mono ?_
  rintro e w1 ⟨b, rfl, hc1, hg1⟩
  cases b with
  | true =>
    go_wp2_with fail
    refine (l1Odd _ cb hc1).mono ?_
    rintro e w2 h
    obtain ⟨r, -, rfl, hc2, hg2⟩ := h
    have C2 := Lib.hid hc2
    have G2 := Lib.hid (hg1.trans hg2)
    clear hc1 hg1 hc2 hg2
    go_wp2_with fail
    go_ret
    exact ⟨r, trivial, rfl, C2.out, G2.out⟩
  | false =>
    go_wp2_with fail
    refine (l1Below _ cb 19 hc1 (by omega)).mono ?_
    rintro e w2 ⟨r, ⟨r0, r1⟩, rfl, hc2, hg2⟩
    have C2 := Lib.hid hc2
    have G2 := Lib.hid (hg1.trans hg2)
    have v : IntKind.i64.wrap (r - 9) = r - 9 := IntWalk.i64_in _ (by omega)
    clear hc1 hg1 hc2 hg2
    go_wp2_with fail
    go_ret
    exact ⟨r - 9, trivial, rfl, C2.out, G2.out⟩

/-- Some ints in memory of the call's own. -/
def CurLis (cb : Nat) (w : World) (e : Ending) (w' : World) : Prop := ∃ (v : Value) (l : List Int), e = .returned v ∧ w'.ownsRow w.heap.size 3 1 v l.length (l.map (Value.int .i64)) ∧ l.length ≤ 31 ∧ Cur w' cb ∧ FrS (fun k => k = cb ∨ w.heap.size ≤ k) w w'
theorem ownI_far {w : World} {B cb n : Nat} {e : TypeId} {size : Nat} {v : Value} {xs : List Value} (h : w.ownsRow B e size v n xs) (hB : cb < B) : v.ownBlock = none ∨ v.ownBlock ≠ some cb := by
  cases hv : v.ownBlock with
  | none => exact .inl rfl
  | some k => exact .inr (fun h' => by have := (h.lt k hv).1; injection h' with h'; omega)
theorem rowsI_form {w : World} {base n : Nat} {e : TypeId} {size : Nat} {v : Value} {xs : List Value} (h : w.ownsRow base e size v n xs) : ∃ a m c, v = .slice a m c := by
  obtain ⟨h1, ⟨h2, h3⟩ | ⟨g, cap, cur, e, hB, hg, rest⟩⟩ := h
  · exact ⟨_, _, _, h2⟩
  · exact ⟨_, _, _, e⟩
theorem cellI_new (w : World) (t : TypeId) (z : Int) : ∀ (j : Nat) u, [Value.int .i64 z][j]? = some u → (w.alloc (.cells #[.int .i64 z] t)).cell? ((⟨w.heap.size, 0, none⟩ : Addr).add j) = some u := by
  intro j u hu
  have hj : j = 0 := by
    rcases j with _ | j
    · rfl
    · simp at hu
  subst hj
  have := heap_alloc_new w (.cells #[Value.int .i64 z] t)
  have hc : (w.alloc (.cells #[Value.int .i64 z] t)).cell? ⟨w.heap.size, 0, none⟩ = some (.int .i64 z) := by
    unfold World.cell?
    simp only [this]
    rfl
  have ha : (⟨w.heap.size, 0, none⟩ : Addr).add 0 = ⟨w.heap.size, 0, none⟩ := rfl
  rw [ha, hc]
  simpa using hu
set_option maxHeartbeats 4000000 in
theorem l8Right (w : World) (cb : Nat) (n : Int) (hc : Cur w cb) (hn : n ≤ 30) : Calls Try.prog 53 #[.pointer (some ⟨cb, 0, none⟩), .int .i64 n] w (CurLis cb w) := by
  have hlt := hc.lt
  have C0 := Lib.hid (hc.alloc (.cells #[] 3))
  have own0 : (w.alloc (.cells #[] 3)).ownsRow w.heap.size 3 1 (.slice (some ⟨w.heap.size, 0, none⟩) 0 0) 0 (([] : List Int).map (Value.int .i64)) := ⟨rfl, .inr ⟨w.heap.size, 0, #[], rfl, Nat.le_refl _, heap_alloc_new w _, Nat.le_refl _, by decide, rfl, rfl⟩⟩
  have O0 := Lib.hid own0
  have F0 : Hid (FrS (fun k => k = cb ∨ w.heap.size ≤ k) w (w.alloc (.cells #[] 3))) := (FrS.refl _ w).alloc _
  clear hc own0
  obtain ⟨fi, hfi, hz0, hz1, hz2⟩ := facts_int
  go_enter Try.func53, Try.ntmps53
  go_wp2_with fail
  go_loopw [5, 6] (fun v5 v6 wr => ∃ (i : Nat) (l : List Int), v6 = .int .i64 i ∧ l.length = i ∧ i ≤ n.toNat ∧ wr.ownsRow w.heap.size 3 1 v5 l.length (l.map (Value.int .i64)) ∧ Cur wr cb ∧ FrS (fun k => k = cb ∨ w.heap.size ≤ k) w wr) (fun _ v6 _ => n.toNat - (intOf v6).toNat)
  case atStart => exact ⟨0, [], rfl, rfl, by omega, O0.out, C0.out, F0.out⟩
  case round =>
    obtain ⟨i, l, rfl, hl, hi, ho, hcu, hf⟩ := hrel
    have O := Lib.hid ho
    have CU := Lib.hid hcu
    have FR := Lib.hid hf
    have s0 := hf.size
    obtain ⟨va, vm, vc, rfl⟩ := rowsI_form ho
    have LE : Hid (l.length = i) := hl
    have l30 : l.length ≤ 30 := by omega
    clear ho hcu hf C0 O0 F0 hl
    by_cases hgo : (i : Int) < n
    · go_wp2_with fail
      refine (l1Num9 _ cb CU.out).mono ?_
      rintro e w2 ⟨z, -, rfl, hc2, hg2⟩
      have s2 := hg2.size
      have O2 := Lib.hid ((O.out.kept hg2 (ownI_far O.out hlt)).kept (World.grownBy_alloc w2 (.cells #[.int .i64 z] 3) none) (by cases (Value.slice va vm vc).ownBlock <;> simp))
      have F2 := Lib.hid ((FR.out.trans (FrS.of_one (p := fun k => k = cb ∨ w.heap.size ≤ k) hg2 (.inl rfl))).alloc (.cells #[.int .i64 z] 3))
      have C2 := Lib.hid (hc2.alloc (.cells #[.int .i64 z] 3))
      clear hc2 hg2
      go_wp2_with (at_builtin; refine wpList_append_own_at _ rfl _ _ 24 rfl w.heap.size 3 fi (.int .i64 0) 1 8 underlying_ints hfi hz0 hz1 hz2 rfl (by decide) _ _ _ rfl O2.out ⟨w2.heap.size, 0, none⟩ 1 1 [.int .i64 z] ?hx ?hl ?hnews ?h1 ?h63 ?hbytes ?hbase ?hnext)
      case hx => rfl
      case hl => rfl
      case hnews => exact cellI_new _ _ _
      case h1 => intro v hv; simp at hv; subst hv; rfl
      case h63 => unfold maxLen; omega
      case hbytes => omega
      case hbase => exact F2.out.size
      case hnext =>
        rintro v2 wr2 ho2 hg2 - -
        obtain ⟨ua, um, uc, rfl⟩ := rowsI_form ho2
        have hfr : FrS (fun k => w.heap.size ≤ k) (w2.alloc (.cells #[.int .i64 z] 3)) wr2 := ⟨hg2.os, hg2.tape, hg2.output, hg2.size, fun k hk hn => hg2.block k hk (fun h => hn (O2.out.lt k h.symm).1)⟩
        have O3 : Hid (wr2.ownsRow w.heap.size 3 1 (.slice ua um uc) (l ++ [z]).length ((l ++ [z]).map (Value.int .i64))) := by
          refine Lib.hid ?_
          rw [List.map_append, List.length_append]
          exact ho2
        have C3 := Lib.hid (C2.out.frs hfr (fun k hk => by omega))
        have F3 := Lib.hid (F2.out.trans (hfr.mono (q := fun k => k = cb ∨ w.heap.size ≤ k) (fun k hk => .inr hk)))
        clear ho2 hg2 hfr
        go_wp2_with fail
        go_roundw
        case rel => exact ⟨i + 1, l ++ [z], by go_num, by rw [List.length_append, LE.out]; rfl, by omega, O3.out, C3.out, F3.out⟩
        case measure => simp [intOf]; omega
    · have n1 : decide ((i : Int) < n) = false := by simp; omega
      go_wp2_with fail
      refine (l1Once _ cb 24 CU.out (by omega)).mono ?_
      rintro e w2 ⟨b, rfl, hc2, hg2⟩
      have s2 := hg2.size
      have O1 := Lib.hid (O.out.kept hg2 (ownI_far O.out hlt))
      have F1 := Lib.hid (FR.out.trans (FrS.of_one (p := fun k => k = cb ∨ w.heap.size ≤ k) hg2 (.inl rfl)))
      have C1 := Lib.hid hc2
      clear hc2 hg2
      cases b with
      | false =>
        go_wp2_with fail
        go_ret
        exact ⟨_, l, rfl, O1.out, by omega, C1.out, F1.out⟩
      | true =>
        have O2 := Lib.hid (O1.out.kept (World.grownBy_alloc w2 (.cells #[.int .i64 1] 3) none) (by cases (Value.slice va vm vc).ownBlock <;> simp))
        have F2 := Lib.hid (F1.out.alloc (.cells #[.int .i64 1] 3))
        have C2 := Lib.hid (C1.out.alloc (.cells #[.int .i64 1] 3))
        go_wp2_with (at_builtin; refine wpList_append_own_at _ rfl _ _ 24 rfl w.heap.size 3 fi (.int .i64 0) 1 8 underlying_ints hfi hz0 hz1 hz2 rfl (by decide) _ _ _ rfl O2.out ⟨w2.heap.size, 0, none⟩ 1 1 [.int .i64 1] ?hx ?hl ?hnews ?h1 ?h63 ?hbytes ?hbase ?hnext)
        case hx => rfl
        case hl => rfl
        case hnews => exact cellI_new _ _ _
        case h1 => intro v hv; simp at hv; subst hv; rfl
        case h63 => unfold maxLen; omega
        case hbytes => omega
        case hbase => exact F2.out.size
        case hnext =>
          rintro v2 wr2 ho2 hg2 - -
          obtain ⟨ua, um, uc, rfl⟩ := rowsI_form ho2
          have hfr : FrS (fun k => w.heap.size ≤ k) (w2.alloc (.cells #[.int .i64 1] 3)) wr2 := ⟨hg2.os, hg2.tape, hg2.output, hg2.size, fun k hk hn => hg2.block k hk (fun h => hn (O2.out.lt k h.symm).1)⟩
          have O3 : Hid (wr2.ownsRow w.heap.size 3 1 (.slice ua um uc) (l ++ [1]).length ((l ++ [1]).map (Value.int .i64))) := by
            refine Lib.hid ?_
            rw [List.map_append, List.length_append]
            exact ho2
          have C3 := Lib.hid (C2.out.frs hfr (fun k hk => by omega))
          have F3 := Lib.hid (F2.out.trans (hfr.mono (q := fun k => k = cb ∨ w.heap.size ≤ k) (fun k hk => .inr hk)))
          clear ho2 hg2 hfr
          go_wp2_with fail
          go_ret
          exact ⟨_, l ++ [1], rfl, O3.out, by rw [List.length_append]; simp; omega, C3.out, F3.out⟩
/-- A matrix, a list and a number, in memory of the call's own. -/
def MatSv (w : World) (e : Ending) (w' : World) : Prop := ∃ (r c : Int) (q : Option Addr) (qc : Nat) (xs : List Int) (qb : Option Addr) (qbc : Nat) (bs : List Int) (p : Int), e = .returned (.tuple #[.agg #[.int .i64 r, .int .i64 c, .slice q xs.length qc], .slice qb bs.length qbc, .int .i64 p]) ∧ Own w.heap.size w' (.slice q xs.length qc) xs ∧ xs.length ≤ 17 ∧ Own w.heap.size w' (.slice qb bs.length qbc) bs ∧ bs.length ≤ 31 ∧ (-1 ≤ p ∧ p ≤ 10007) ∧ Below w.heap.size w w'
theorem Own.far8 {B : Nat} {w : World} {v : Value} {zs : List Int} (h : Own B w v zs) {b : Nat} (hb : b < B) (x y z : Value) : Own B (((w.setCell ⟨b, 0, none⟩ x).setCell ⟨b, 1, none⟩ y).setCell ⟨b, 2, none⟩ z) v zs := ((h.far (by exact hb) _).far (by exact hb) _).far (by exact hb) _
set_option maxHeartbeats 4000000 in
theorem drawSv (w : World) (a : Option Addr) (len cap : Nat) (hc : CodeIn w a len) : Calls Try.prog 19 #[.slice a len cap] w (MatSv w) := by
  have HC := Lib.hid hc
  clear hc
  go_enter Try.func19, Try.ntmps19
  go_wp2_with fail
  refine (l1New _ a len cap (HC.out.below ((Below.refl _ _).alloc (Nat.le_refl _) _))).mono ?_
  rintro e w1 ⟨cb, rfl, hcb, hc1, hb1⟩
  have CB : w.heap.size < cb := by simp at hcb; omega
  have K2 : Hid (Blk3 w1 w.heap.size 26 (.int .i64 0) (.int .i64 0) (.slice none 0 0)) := (Blk3.at_ _ _ _ _ rfl).keep hb1 (by simp)
  have F1 : Hid (FrS (fun k => w.heap.size ≤ k) w w1) := ((FrS.refl _ w).alloc _).trans (FrS.of_below hb1)
  have C1 := Lib.hid hc1
  clear hcb hc1 hb1
  go_wp2_with fail
  refine (l3SquareR _ cb C1.out).mono ?_
  rintro e w2 ⟨r, c, v, xs, rfl, own, hl, hr, hc2, hf⟩
  have s1 := F1.out.size
  have lk := K2.out.lt
  have c1 := C1.out.lt
  obtain ⟨q, qc, rfl, -, -⟩ := (own.own (by omega)).form
  have K2 := Lib.hid ((K2.out.frs hf (by omega)).old (.cells #[.int .i64 r, .int .i64 c, .slice q xs.length qc] 26))
  have F2 := Lib.hid ((F1.out.trans (hf.mono2 (q := fun k => w.heap.size ≤ k) (fun k _ hk => by omega))).alloc (.cells #[.int .i64 r, .int .i64 c, .slice q xs.length qc] 26))
  have C2 := Lib.hid (hc2.alloc (.cells #[.int .i64 r, .int .i64 c, .slice q xs.length qc] 26))
  have O2 : Hid (OwnC w1.heap.size (w2.alloc (.cells #[.int .i64 r, .int .i64 c, .slice q xs.length qc] 26)) (.slice q xs.length qc) xs) := own.frs ((FrS.refl (fun _ => False) w2).alloc _) (fun _ _ h => h)
  have K5 : Hid (Blk3 (w2.alloc (.cells #[.int .i64 r, .int .i64 c, .slice q xs.length qc] 26)) w2.heap.size 26 (.int .i64 r) (.int .i64 c) (.slice q xs.length qc)) := Blk3.at_ _ _ _ _ rfl
  have s2 := hf.size
  have HL := Lib.hid hl
  have HR := Lib.hid hr
  clear own hc2 hf hl hr
  go_upto_region 3 with fail
  obtain ⟨pb, hpb⟩ : ∃ pb, w2.heap.size = pb := ⟨_, rfl⟩
  generalize w2.alloc (.cells #[.int .i64 r, .int .i64 c, .slice q xs.length qc] 26) = W at K2 F2 C2 O2 K5 ⊢
  rw [hpb] at K5 s2 ⊢
  clear hpb
  have lW := K5.out.lt
  refine wp_region_held_drew (S := fun w' => FrS (fun k => k = cb ∨ k = w.heap.size ∨ W.heap.size ≤ k) W w') (by kernel_rfl) (FrS.refl _ _).drew (fun hH => ?_)
  refine wpAnyH_take (i := 0) (v := ?_) (by simp only [List.getElem?_toArray, List.getElem?_cons_zero]; rfl) (by kernel_rfl) (by kernel_rfl) (by kernel_rfl) (by exact fun _ _ _ h => h) (Or.inl ⟨by rfl, ?_⟩) hH ?_
  rotate_left
  · (intro wS hS; (try dsimp only at hS); obtain ⟨k1, k2, k3⟩ := sevenF K5.out hS (by omega); go_simp; try rfl)
  try simp only [Act.put, List.setIfInBounds_toArray, List.set_cons_zero, List.set_cons_succ]
  refine wpAnyH_take (i := 1) (v := ?_) (by simp only [List.getElem?_toArray, List.getElem?_cons_succ, List.getElem?_cons_zero]; rfl) (by kernel_rfl) (by kernel_rfl) (by kernel_rfl) (by exact fun _ _ _ h => h) (Or.inl ⟨by rfl, ?_⟩) hH ?_
  rotate_left
  · (intro wS hS; clear hS; go_simp; try rfl)
  try simp only [Act.put, List.setIfInBounds_toArray, List.set_cons_zero, List.set_cons_succ]
  refine wpAnyH_take (i := 2) (v := ?_) (by simp only [List.getElem?_toArray, List.getElem?_cons_succ, List.getElem?_cons_zero]; rfl) (by kernel_rfl) (by kernel_rfl) (by kernel_rfl) (by exact fun _ _ _ h => h) (Or.inl ⟨by rfl, ?_⟩) hH ?_
  rotate_left
  · (intro wS hS; clear hS; go_simp; try rfl)
  try simp only [Act.put, List.setIfInBounds_toArray, List.set_cons_zero, List.set_cons_succ]
  refine wpAnyH_take (i := 3) (v := ?_) (by simp only [List.getElem?_toArray, List.getElem?_cons_succ, List.getElem?_cons_zero]; rfl) (by kernel_rfl) (by kernel_rfl) (by kernel_rfl) (by exact fun _ _ _ h => h) (Or.inl ⟨by rfl, ?_⟩) hH ?_
  rotate_left
  · (intro wS hS; (try dsimp only at hS); obtain ⟨k1, k2, k3⟩ := sevenF K5.out hS (by omega); go_simp; try rfl)
  try simp only [Act.put, List.setIfInBounds_toArray, List.set_cons_zero, List.set_cons_succ]
  refine wpAnyH_take (i := 5) (v := ?_) (by simp only [List.getElem?_toArray, List.getElem?_cons_succ, List.getElem?_cons_zero]; rfl) (by kernel_rfl) (by kernel_rfl) (by kernel_rfl) (by exact fun _ _ _ h => h) (Or.inl ⟨by rfl, ?_⟩) hH ?_
  rotate_left
  · (intro wS hS; clear hS; go_simp; try rfl)
  try simp only [Act.put, List.setIfInBounds_toArray, List.set_cons_zero, List.set_cons_succ]
  refine wpAnyH_ready (rs := [4]) (by kernel_rfl) (by simp) ?_
  refine AllReadyH.cons (by simp only [List.getElem?_toArray, List.getElem?_cons_succ, List.getElem?_cons_zero]; rfl) (fun K hK => ?_) AllReadyH.nil
  go_simp
  have CD : Cur W.drew cb := C2.out
  (with_reducible refine (l8Right _ cb _ CD HR.out).mono ?_)
  rintro e v6 ⟨v, bs, rfl, own6, hl6, hc6, hf6⟩
  obtain ⟨qb, qbc, rfl, -, -⟩ := (Own.of_row own6 (by omega)).form
  try dsimp only
  refine hK.out _ _ ?_ (fun hH2 => ?_)
  · exact hH.trans (hf6.mono (fun k hk => by have := hH.size; simp at hk ⊢; omega))
  clear hK K hH
  have hH := hH2
  clear hH2
  try simp only [Act.put, List.setIfInBounds_toArray, List.set_cons_zero, List.set_cons_succ]
  have hf7 : FrS (fun k => k = cb ∨ W.heap.size ≤ k) W v6 := ⟨hf6.os, hf6.tape, hf6.output, hf6.size, hf6.block⟩
  have s6 := hf7.size
  have K2 := Lib.hid (K2.out.frs hf7 (by omega))
  have O6 := Lib.hid (O2.out.frs2 hf7 (fun k hk hk2 => by omega))
  have L6 := Lib.hid own6
  have HL6 := Lib.hid hl6
  have C6 := Lib.hid hc6
  have F6 := Lib.hid (F2.out.trans (hf7.mono2 (q := fun k => w.heap.size ≤ k) (fun k _ hk => by omega)))
  have cW : cb < W.drew.heap.size := C2.out.lt
  clear own6 hl6 hc6 hf6 hf7
  refine wpAnyH_ready (rs := [6]) (by kernel_rfl) (by simp) ?_
  refine AllReadyH.cons (by simp only [List.getElem?_toArray, List.getElem?_cons_succ, List.getElem?_cons_zero]; rfl) (fun K hK => ?_) AllReadyH.nil
  go_simp
  (with_reducible refine (l8Prime _ cb C6.out).mono ?_)
  rintro e w7 ⟨p, hp, rfl, hc7, hg7⟩
  try dsimp only
  refine hK.out _ _ ?_ (fun hH2 => ?_)
  · exact hH.trans (FrS.of_one hg7 (.inl rfl))
  clear hK K hH
  have hH := hH2
  clear hH2
  try simp only [Act.put, List.setIfInBounds_toArray, List.set_cons_zero, List.set_cons_succ]
  have HP := Lib.hid hp
  have K2 := Lib.hid (K2.out.keepOne hg7 (by omega))
  have O6 := Lib.hid (O6.out.frs (FrS.of_one (p := fun k => k = cb) hg7 rfl) (fun k hk e => by omega))
  have L6 := Lib.hid (L6.out.kept hg7 (ownI_far L6.out cW))
  have F6 := Lib.hid (F6.out.trans (FrS.of_one hg7 (show w.heap.size ≤ cb by omega)))
  clear hp hc7 hg7
  refine wpAnyH_ready (rs := [7]) (by kernel_rfl) (by simp) ?_
  refine AllReadyH.cons (by simp only [List.getElem?_toArray, List.getElem?_cons_succ, List.getElem?_cons_zero]; rfl) (fun K hK => ?_) AllReadyH.nil
  obtain ⟨y0, y1, y2, y3, y4, y5⟩ := K2.out.all
  have FX := Lib.hid (hH.set3 (b := w.heap.size) (.inl (.inr (.inl rfl))) (.int .i64 r) (.int .i64 c) (.slice q xs.length qc))
  clear hH
  go_simp
  refine hK.out _ _ ?_ (fun hH2 => ?_)
  · exact FX.out
  clear hK K
  have hH := hH2
  clear hH2
  try simp only [Act.put, List.setIfInBounds_toArray, List.set_cons_zero, List.set_cons_succ]
  refine wpAnyH_take (i := 8) (v := ?_) (by simp only [List.getElem?_toArray, List.getElem?_cons_succ, List.getElem?_cons_zero]; rfl) (by kernel_rfl) (by kernel_rfl) (by kernel_rfl) (by exact fun _ _ _ h => h) (Or.inl ⟨by rfl, ?_⟩) hH ?_
  rotate_left
  · (intro wS hS; clear hS; go_simp; try rfl)
  try simp only [Act.put, List.setIfInBounds_toArray, List.set_cons_zero, List.set_cons_succ]
  refine wpAnyH_take (i := 9) (v := ?_) (by simp only [List.getElem?_toArray, List.getElem?_cons_succ, List.getElem?_cons_zero]; rfl) (by kernel_rfl) (by kernel_rfl) (by kernel_rfl) (by exact fun _ _ _ h => h) (Or.inl ⟨by rfl, ?_⟩) hH ?_
  rotate_left
  · (intro wS hS; clear hS; go_simp; try rfl)
  try simp only [Act.put, List.setIfInBounds_toArray, List.set_cons_zero, List.set_cons_succ]
  refine wpAnyH_done (by kernel_rfl) ?_ _
  have FIN : Hid (MatSv w (.returned (.tuple #[.agg #[.int .i64 r, .int .i64 c, .slice q xs.length qc], .slice qb bs.length qbc, .int .i64 p])) (((w7.setCell ⟨w.heap.size, 0, none⟩ (.int .i64 r)).setCell ⟨w.heap.size, 1, none⟩ (.int .i64 c)).setCell ⟨w.heap.size, 2, none⟩ (.slice q xs.length qc))) := by
    have hw : w.heap.size < W.drew.heap.size := by show w.heap.size < W.heap.size; omega
    refine ⟨r, c, q, qc, xs, qb, qbc, bs, p, rfl, ((O6.out.out3 K2.out (.int .i64 r) (.int .i64 c) (.slice q xs.length qc)).own (by have := HL.out; omega)).le (by omega), HL.out, ?_, HL6.out, HP.out, ?_⟩
    · exact ((Own.of_row L6.out (by have := HL6.out; omega)).far8 hw _ _ _).le (Nat.le_of_lt hw)
    · exact (((F6.out.below (fun k hk => hk) (Nat.le_refl _)).setCell (Nat.le_refl _) _).setCell (Nat.le_refl _) _).setCell (Nat.le_refl _) _
  obtain ⟨E0, E1, E2, -, -, -⟩ := (K2.out.set3 (.int .i64 r) (.int .i64 c) (.slice q xs.length qc)).all
  go_wp2_with fail
  all_goals exact bodyPost_ret (v := .tuple #[.agg #[.int .i64 r, .int .i64 c, .slice q xs.length qc], .slice qb bs.length qbc, .int .i64 p]) (by simp [results, Try.results19, go_sem, E0, E1, E2]) rfl FIN.out
end Go.Proofs.Ytncplikadacjnaa
end

section
/-
  The laws' unit and mix: some matrix is returned; nothing that was there changes.
-/
namespace Go.Proofs.Ytncplikadacjnaa
set_option maxRecDepth 100000
open Go.RowKit

/-- A matrix, whatever it is, that has cells or no rows. -/
def SomeMat (w : World) (e : Ending) (w' : World) : Prop := ∃ (r c : Int) (q : Option Addr) (qc : Nat) (zs : List Int), e = .returned (.agg #[.int .i64 r, .int .i64 c, .slice q zs.length qc]) ∧ Own w.heap.size w' (.slice q zs.length qc) zs ∧ (0 < zs.length ∨ r = 0) ∧ zs.length ≤ 600 ∧ Below w.heap.size w w'
theorem Own.addr {B : Nat} {w : World} {q : Option Addr} {n qc : Nat} {zs : List Int} (h : Own B w (.slice q n qc) zs) (hz : 0 < zs.length) : ∃ g o : Nat, q = some ⟨g, o, none⟩ := by
  rcases h with ⟨_, h⟩ | ⟨g, cap, hv, -⟩
  · rw [h] at hz; simp at hz
  · injection hv with h1; exact ⟨g, 0, h1⟩
theorem Own.rd2 {B : Nat} {w : World} {q : Option Addr} {n qc : Nat} {zs : List Int} (h : Own B w (.slice q n qc) zs) : Rd w q zs := by
  obtain ⟨a', c', e, hr, -⟩ := h.form
  injection e with e1 e2 e3
  rw [e1]; exact hr
theorem Own.old2 {B : Nat} {w : World} {v : Value} {zs : List Int} (h : Own B w v zs) (o : Obj) : Own B (w.alloc o) v zs := h.keep ((Below.refl _ _).alloc (Nat.le_refl _) o)
theorem idM_some (n : Int) : (0 < (idM n).zs.length ∨ (idM n).r = 0) ∧ (idM n).zs.length ≤ 600 := by
  unfold idM
  by_cases h : 0 ≤ n ∧ n ≤ 24
  · rw [if_pos h]
    obtain ⟨k, rfl⟩ := Int.eq_ofNat_of_zero_le h.1
    have hk : k ≤ 24 := by omega
    have : k * k ≤ 24 * 24 := Nat.mul_le_mul hk hk
    refine ⟨?_, ?_⟩
    · rcases Nat.eq_zero_or_pos k with e | e
      · right; simp [e]
      · left
        show 0 < (idL k k).length
        rw [idL_length]; exact Nat.mul_pos e e
    · show (idL k k).length ≤ 600
      rw [idL_length]; omega
  · rw [if_neg h]
    exact ⟨.inr rfl, by simp [MR.no]⟩
theorem opM_some (k i j t r c : Int) (xs : List Int) (h : 0 < xs.length ∨ r = 0) (hl : xs.length ≤ 600) : (0 < (opM k i j t r c xs).zs.length ∨ (opM k i j t r c xs).r = 0) ∧ (opM k i j t r c xs).zs.length ≤ 600 := by
  unfold opM MR.done
  split
  · rename_i h1
    simp only [Bool.and_eq_true] at h1
    have h2 := isOp_says h1.2
    split
    · refine ⟨?_, ?_⟩
      · left
        show 0 < (opL k i.toNat j.toNat t c.toNat xs).length
        rw [opL_length]
        rcases h with h | h
        · exact h
        · omega
      · show (opL k i.toNat j.toNat t c.toNat xs).length ≤ 600
        rw [opL_length]; exact hl
    · exact ⟨.inr rfl, by simp [MR.no]⟩
  · exact ⟨.inr rfl, by simp [MR.no]⟩
theorem Own.spot2 {B n c : Nat} {w : World} {a : Option Addr} {zs : List Int} (h : Own B w (.slice a n c) zs) : Spot a := by
  rcases h with ⟨hv, -⟩ | ⟨g, cap, hv, -⟩
  · simp only [Value.slice.injEq] at hv
    exact .inl hv.1
  · simp only [Value.slice.injEq] at hv
    exact .inr ⟨_, _, hv.1⟩
theorem fourF {W w' : World} {b : Nat} {t : TypeId} {p q r v : Value} {x : Addr} (h0 : Blk3 W b t p q r) (hx : W.cell? x = some v) (hb : Below W.heap.size W w') :
    w'.cell? ⟨b, 0, none⟩ = some p ∧ w'.cell? ⟨b, 1, none⟩ = some q ∧ w'.cell? ⟨b, 2, none⟩ = some r ∧ w'.cell? x = some v :=
  ⟨(h0.keep hb h0.lt).cell0, (h0.keep hb h0.lt).cell1, (h0.keep hb h0.lt).cell2, (hb.cell (World.block_lt_of_cell? W _ hx)).trans hx⟩
theorem In.own {B T : Nat} {w : World} {v : Value} {zs : List Int} (h : In B T w v zs) : Own B w v zs := by
  rcases h with h | ⟨g, cap, hv, hB, -, hi, hl, hk⟩
  · exact .inl h
  · exact .inr ⟨g, cap, hv, hB, hi, hl, hk⟩
theorem Own.far2 {B : Nat} {w : World} {v : Value} {zs : List Int} (h : Own B w v zs) {a : Addr} (ha : a.block < B) (u : Value) : Own B (w.setCell a u) v zs := by
  rcases h with h | ⟨g, cap, hv, hB, hi, hl, hk⟩
  · exact .inl h
  · exact .inr ⟨g, cap, hv, hB, hi.far (by omega) u, hl, hk⟩
theorem lUnit (n : Int) (w : World) : Calls Try.prog 26 #[.int .i64 n] w (SomeMat w) := by
  obtain ⟨mr, hmr⟩ : ∃ mr, idM n = mr := ⟨_, rfl⟩
  have hs := idM_some n
  rw [hmr] at hs
  have MRH := Lib.hid hmr
  have HS := Lib.hid hs
  clear hmr hs
  go_enter Try.func26, Try.ntmps26
  go_wp2_with fail
  refine (sIdent n _).mono ?_
  rintro e w1 ⟨v, rfl, own, hb⟩
  rw [MRH.out] at own ⊢
  obtain ⟨q, qc, rfl, -, -⟩ := own.form
  have K2 : Hid (Blk3 w1 w.heap.size 26 (.int .i64 0) (.int .i64 0) (.slice none 0 0)) := (Blk3.at_ _ _ _ _ rfl).keep hb (by simp)
  have B : Hid (Below w.heap.size w w1) := ((Below.refl _ _).alloc (Nat.le_refl _) _).trans (hb.mono (by simp))
  have O := Lib.hid (own.le (show w.heap.size ≤ _ by simp))
  have OI : Hid (∀ x y z, Own w.heap.size ((((w1.alloc (.cells #[.int .i64 mr.r, .int .i64 mr.c, .slice q mr.zs.length qc] 26)).setCell ⟨w.heap.size, 0, none⟩ x).setCell ⟨w.heap.size, 1, none⟩ y).setCell ⟨w.heap.size, 2, none⟩ z) (.slice q mr.zs.length qc) mr.zs) := fun x y z => by
    rcases (own.old2 (.cells #[.int .i64 mr.r, .int .i64 mr.c, .slice q mr.zs.length qc] 26)) with h | ⟨g, cap, hv, hB, hi, hl, hc⟩
    · exact .inl h
    · have hB : w.heap.size + 1 ≤ g := by simpa using hB
      exact .inr ⟨g, cap, hv, by omega, ((hi.far (by show g ≠ w.heap.size; omega) _).far (by show g ≠ w.heap.size; omega) _).far (by show g ≠ w.heap.size; omega) _, hl, hc⟩
  clear own hb
  have K2 := Lib.hid (K2.out.old (.cells #[.int .i64 mr.r, .int .i64 mr.c, .slice q mr.zs.length qc] 26))
  obtain ⟨s0, s1, s2, f0, f1, f2⟩ := K2.out.all
  go_wp2_with fail
  obtain ⟨E0, E1, E2, -, -, -⟩ := (K2.out.set3 (.int .i64 mr.r) (.int .i64 mr.c) (.slice q mr.zs.length qc)).all
  refine bodyPost_ret (v := .agg #[.int .i64 mr.r, .int .i64 mr.c, .slice q mr.zs.length qc]) (by simp [results, Try.results26, go_sem, E0, E1, E2]) rfl ⟨_, _, q, qc, mr.zs, rfl, OI.out _ _ _, HS.out.1, HS.out.2, ?_⟩
  exact ((((B.out.alloc B.out.size _).setCell (Nat.le_refl _) _).setCell (Nat.le_refl _) _).setCell (Nat.le_refl _) _)

end Go.Proofs.Ytncplikadacjnaa
end

section
/-
  The laws' unit and mix: mix is a matrix whose determinant is 1, or it is empty.
-/
namespace Go.Proofs.Ytncplikadacjnaa
open Go.RowKit

/-- What mix makes: its determinant is 1, or it is empty. -/
def MixP (n r c : Int) (zs : List Int) : Prop := (r = n ∧ c = n ∧ 0 ≤ n ∧ zs.length = n.toNat * n.toNat ∧ nums zs = true ∧ det n.toNat (mxL n.toNat zs) = 1) ∨ (r = 0 ∧ c = 0 ∧ zs = [] ∧ 1 < n)
def UniOf (n : Int) (w : World) (e : Ending) (w' : World) : Prop := ∃ (r c : Int) (q : Option Addr) (qc : Nat) (zs : List Int), e = .returned (.agg #[.int .i64 r, .int .i64 c, .slice q zs.length qc]) ∧ Own w.heap.size w' (.slice q zs.length qc) zs ∧ MixP n r c zs ∧ zs.length ≤ 600 ∧ Below w.heap.size w w'
theorem idM_D (n : Int) (h0 : 0 ≤ n) (h6 : n ≤ 24) : MixP n (idM n).r (idM n).c (idM n).zs ∧ (idM n).zs.length ≤ 600 := by
  unfold idM
  rw [if_pos ⟨h0, by omega⟩]
  refine ⟨.inl ⟨rfl, rfl, h0, idL_length _ _, idL_nums _, idL_det _⟩, ?_⟩
  show (idL n.toNat n.toNat).length ≤ 600
  rw [idL_length]
  have : n.toNat * n.toNat ≤ 24 * 24 := Nat.mul_le_mul (by omega) (by omega)
  omega
theorem opM_len (k i j t r c : Int) (xs : List Int) (hl : xs.length ≤ 600) : (opM k i j t r c xs).zs.length ≤ 600 := by
  unfold opM MR.done
  split
  · split
    · show (opL k i.toNat j.toNat t c.toNat xs).length ≤ 600
      rw [opL_length]; exact hl
    · simp [MR.no]
  · simp [MR.no]
theorem opM_D (n i j t r c : Int) (xs : List Int) (h : MixP n r c xs) (hn : 1 < n) (hl : xs.length ≤ 600) : MixP n (opM 2 i j t r c xs).r (opM 2 i j t r c xs).c (opM 2 i j t r c xs).zs ∧ (opM 2 i j t r c xs).zs.length ≤ 600 := by
  refine ⟨?_, (opM_len 2 i j t r c xs hl)⟩
  rcases Bool.eq_false_or_eq_true (opM 2 i j t r c xs).ok with ho | ho
  · rcases h with ⟨rfl, rfl, h0, hz, hx, hd⟩ | ⟨rfl, rfl, rfl, -⟩
    · obtain ⟨N, rfl⟩ := Int.eq_ofNat_of_zero_le h0
      obtain ⟨ys, e, -, -, hy, ny, dy⟩ := opM_det ho
      rw [e]
      refine .inl ⟨rfl, rfl, h0, hy, ny, ?_⟩
      show det N (mxL N ys) = 1
      rw [dy]
      have hd : det N (mxL N xs) = 1 := hd
      rw [hd]; rfl
    · exfalso
      unfold opM at ho
      by_cases h1 : (isMat 0 0 [] && isOp 2 i j t 0) = true
      · simp only [Bool.and_eq_true] at h1
        have := isOp_says h1.2
        omega
      · rw [if_neg h1] at ho; exact absurd ho (by simp [MR.no])
  · have e : opM 2 i j t r c xs = MR.no := by
      unfold opM at ho ⊢
      split
      · rename_i h1
        rw [if_pos h1] at ho
        unfold MR.done at ho ⊢
        split
        · rename_i h2; rw [if_pos h2] at ho; exact absurd ho (by simp)
        · rfl
      · rfl
    rw [e]
    exact .inr ⟨rfl, rfl, rfl, hn⟩
theorem lUnitX (n : Int) (w : World) : Calls Try.prog 26 #[.int .i64 n] w (fun e w' => ∃ (q : Option Addr) (qc : Nat), e = .returned (.agg #[.int .i64 (idM n).r, .int .i64 (idM n).c, .slice q (idM n).zs.length qc]) ∧ Own w.heap.size w' (.slice q (idM n).zs.length qc) (idM n).zs ∧ Below w.heap.size w w') := by
  obtain ⟨mr, hmr⟩ : ∃ mr, idM n = mr := ⟨_, rfl⟩
  rw [hmr]
  have MRH := Lib.hid hmr
  clear hmr
  go_enter Try.func26, Try.ntmps26
  go_wp2_with fail
  refine (sIdent n _).mono ?_
  rintro e w1 ⟨v, rfl, own, hb⟩
  rw [MRH.out] at own ⊢
  obtain ⟨q, qc, rfl, -, -⟩ := own.form
  have K2 : Hid (Blk3 w1 w.heap.size 26 (.int .i64 0) (.int .i64 0) (.slice none 0 0)) := (Blk3.at_ _ _ _ _ rfl).keep hb (by simp)
  have B : Hid (Below w.heap.size w w1) := ((Below.refl _ _).alloc (Nat.le_refl _) _).trans (hb.mono (by simp))
  have O := Lib.hid (own.le (show w.heap.size ≤ _ by simp))
  have OI : Hid (∀ x y z, Own w.heap.size ((((w1.alloc (.cells #[.int .i64 mr.r, .int .i64 mr.c, .slice q mr.zs.length qc] 26)).setCell ⟨w.heap.size, 0, none⟩ x).setCell ⟨w.heap.size, 1, none⟩ y).setCell ⟨w.heap.size, 2, none⟩ z) (.slice q mr.zs.length qc) mr.zs) := fun x y z => by
    rcases (own.old2 (.cells #[.int .i64 mr.r, .int .i64 mr.c, .slice q mr.zs.length qc] 26)) with h | ⟨g, cap, hv, hB, hi, hl, hc⟩
    · exact .inl h
    · have hB : w.heap.size + 1 ≤ g := by simpa using hB
      exact .inr ⟨g, cap, hv, by omega, ((hi.far (by show g ≠ w.heap.size; omega) _).far (by show g ≠ w.heap.size; omega) _).far (by show g ≠ w.heap.size; omega) _, hl, hc⟩
  clear own hb
  have K2 := Lib.hid (K2.out.old (.cells #[.int .i64 mr.r, .int .i64 mr.c, .slice q mr.zs.length qc] 26))
  obtain ⟨s0, s1, s2, f0, f1, f2⟩ := K2.out.all
  go_wp2_with fail
  obtain ⟨E0, E1, E2, -, -, -⟩ := (K2.out.set3 (.int .i64 mr.r) (.int .i64 mr.c) (.slice q mr.zs.length qc)).all
  refine bodyPost_ret (v := .agg #[.int .i64 mr.r, .int .i64 mr.c, .slice q mr.zs.length qc]) (by simp [results, Try.results26, go_sem, E0, E1, E2]) rfl ⟨q, qc, rfl, OI.out _ _ _, ?_⟩
  exact ((((B.out.alloc B.out.size _).setCell (Nat.le_refl _) _).setCell (Nat.le_refl _) _).setCell (Nat.le_refl _) _)

end Go.Proofs.Ytncplikadacjnaa
end

section
/-
  Plain mathematics of chapter 8: what the law of inverses says.
-/
namespace Go.Proofs.Ytncplikadacjnaa

/-- Where a small matrix has no inverse, it has no determinant, or that is 0. -/
theorem inv_none {r c p : Int} {xs : List Int} (lx : xs.length ≤ 17) (h : (ivX r c p xs).ok = false) : (dtM r c p xs).2 = false ∨ (dtM r c p xs).1 = 0 := by
  rcases Bool.eq_false_or_eq_true (isMat r c xs && prmB p) with hh | hh
  rotate_left
  · exact .inl (by rw [(rkM_no hh).2.2])
  obtain ⟨R, C, N, rfl, rfl, hN, hR, hC, hx, hl, hp, -, -, -, e3⟩ := rkM_yes hh
  by_cases hRC : R = C
  rotate_left
  · exact .inl (by rw [e3, if_neg hRC])
  subst hRC
  rw [hN] at hx
  have h4 : R ≤ 4 := by
    refine Classical.byContradiction fun hn => ?_
    have : 5 * 5 ≤ R * R := Nat.mul_le_mul (by omega) (by omega)
    omega
  have P := (prmB_says hp).1
  have e1 := ivX_at (p := p) hh (by omega : R ≤ 12)
  have hlt : (elW p R xs).2.1.length < R := by
    refine Classical.byContradiction fun hn => ?_
    rw [e1, if_neg hn] at h
    exact absurd h (by simp)
  have d0 := (elW_inv P hx).1.mp hlt
  rw [if_pos rfl, (elM_det P hx).2, d0] at e3
  exact .inr (by rw [e3])
/-- Where there is an inverse. -/
theorem inv_found {r c p : Int} {xs : List Int} (h : (ivX r c p xs).ok = true) : ∃ n : Nat, r = n ∧ c = n ∧ n ≤ 12 ∧ 2 ≤ p ∧ p ≤ 10000 ∧ xs.length = n * n ∧ nums xs = true ∧ prmB p = true ∧ (dtM r c p xs).2 = true ∧ (dtM r c p xs).1 ≠ 0 ∧ redM r c p xs = ⟨true, n, n, resL p xs⟩ ∧ ivX r c p xs = ⟨true, n, n, ivL p n xs⟩ ∧ InvX p n (mxC n xs) (mxC n (ivL p n xs)) := by
  obtain ⟨n, rfl, rfl, h12, hp, hx, hh, hge, e, -, -⟩ := ivX_says h
  obtain ⟨P, p1⟩ := prmB_says hp
  obtain ⟨R, C, N, hR, hC, hN, -, -, hx2, -, -, -, e1, -, e3⟩ := rkM_yes hh
  obtain rfl : n = R := by omega
  obtain rfl : n = C := by omega
  obtain ⟨w1, w2, -, -⟩ := elW_inv P hx
  rw [if_pos rfl, (elM_det P hx).2] at e3
  have hne : det n (mxC n xs) % p ≠ 0 := fun h0 => by have := w1.mpr h0; omega
  have nx : nums xs = true := by
    have : isMat n n xs = true := by rw [Bool.and_eq_true] at hh; exact hh.1
    exact (isMat_says this).2.2.2
  exact ⟨n, rfl, rfl, h12, P.1, p1, hx, nx, hp, by rw [e3], by rw [e3]; exact hne, e1, e, w2 (by omega)⟩
/-- The product, reduced, is the unit matrix. -/
theorem inv_prod {p : Int} {n : Nat} {xs : List Int} {m : MR} (hp : prmB p = true) (h12 : n ≤ 12) (hI : InvX p n (mxC n xs) (mxC n (ivL p n xs))) (hm : mulM n n (resL p xs) n n (ivL p n xs) = m) (ho : m.ok = true) : redM m.r m.c p m.zs = idM n := by
  obtain ⟨P, -⟩ := prmB_says hp
  rcases mul_cases n n (resL p xs) n n (ivL p n xs) with e | ⟨R, K, C, hR, hK, -, hC, -, -, h3, e⟩
  · rw [← hm, e] at ho
    exact absurd ho (by decide)
  obtain rfl : n = R := by omega
  obtain rfl : n = K := by omega
  obtain rfl : n = C := by omega
  rw [← hm, e]
  show redM n n p (mulL n n n (resL p xs) (ivL p n xs)) = idM n
  have ei : idM n = ⟨true, n, n, idL n n⟩ := by unfold idM; rw [if_pos ⟨by omega, by omega⟩]; rfl
  unfold redM
  rw [h3, hp, ei, if_pos (show (true && true) = true from rfl)]
  have el : resL p (mulL n n n (resL p xs) (ivL p n xs)) = idL n n := by
    have h1 : idL n n = tab n n idX := tab_ext (idL_length n n) fun i j hi hj => mxL_idL n i j hi hj
    rw [h1]
    refine tab_ext (by rw [resL_length]; exact mulL_length _ _ _ _ _) fun i j hi hj => ?_
    rw [resL_at, mulL_at n n n _ _ hi hj, dot_sum]
    exact prod_unit P hI hi hj
  rw [el]
/-- Where a system is solved. -/
theorem sv_found {p : Int} {n : Nat} {xs bs : List Int} (hi : ivX n n p xs = ⟨true, n, n, ivL p n xs⟩) (h : (svX n n p xs bs).2 = true) : bs.length = n ∧ nums bs = true ∧ (svX n n p xs bs).1 = solL p n (ivL p n xs) bs := by
  by_cases hl : (bs.length : Int) = (n : Int)
  · rcases Bool.eq_false_or_eq_true (nums bs) with hn | hn
    · have := svX_yes (p := p) (xs := xs) (r := n) (c := n) rfl (by rw [hi]) (by omega) hn
      rw [this, hi]
      exact ⟨by omega, hn, rfl⟩
    · rw [svX_no (.inr (.inr hn))] at h
      exact absurd h (by decide)
  · rw [svX_no (.inr (.inl hl))] at h
    exact absurd h (by decide)
/-- The sum in one row of the law. -/
def lwS (p : Int) (n : Nat) (xs us bs : List Int) (i j : Nat) : Int := lwF p (fun k => xs.getD (i * n + k) 0) (fun k => us.getD k 0) (bs.getD i 0) j
theorem lwS_zero (p : Int) (n : Nat) (xs us bs : List Int) (i : Nat) : lwS p n xs us bs i 0 = Int.tmod (-(bs.getD i 0)) p := rfl
theorem lwS_step (p : Int) (n : Nat) (xs us bs : List Int) (i j : Nat) : lwS p n xs us bs i (j + 1) = Int.tmod (lwS p n xs us bs i j + Int.tmod (xs.getD (i * n + j) 0) p * us.getD j 0) p := rfl
theorem lwS_small {p : Int} (hp : 0 < p) (n : Nat) (xs us bs : List Int) (i j : Nat) : -p < lwS p n xs us bs i j ∧ lwS p n xs us bs i j < p := lwF_small hp _ _ _ _
theorem lwS_end {p : Int} {n : Nat} {xs bs : List Int} {i : Nat} (hp : 0 < p) (hI : InvX p n (mxC n xs) (mxC n (ivL p n xs))) (hi : i < n) : lwS p n xs (solL p n (ivL p n xs) bs) bs i n = 0 := lwF_zero hp hI hi
/-- A product of small numbers. -/
theorem mul_small {p x y : Int} (hp : 0 < p) (hb : p ≤ 10000) (hx : -p < x ∧ x < p) (hy : 0 ≤ y ∧ y < p) : -100000000 ≤ x * y ∧ x * y ≤ 100000000 := by
  have q1 : p * y ≤ 10000 * 10000 := Int.mul_le_mul hb (by omega) hy.1 (by omega)
  have q2 : x * y ≤ p * y := Int.mul_le_mul_of_nonneg_right (by omega) hy.1
  have q3 : -p * y ≤ x * y := Int.mul_le_mul_of_nonneg_right (by omega) hy.1
  rw [Int.neg_mul] at q3
  omega
end Go.Proofs.Ytncplikadacjnaa
end

section
/-
  Contracts of Go's library at this translation, each one application of a theorem of the guide's library: slices_Equal_int, slices_Equal_int_empty, slices_Equal_int_lens.
-/
namespace Go.Proofs
open Go.Shelf
def Try.lays111_ren : Go.Shelf.Ren := ⟨fun | 111 => 63 | n => n, fun | 28 => 24 | 3 => 3 | 4 => 4 | 0 => 0 | n => n, fun | n => n⟩
theorem Try.lays111 : Go.Proofs.Lays.n111 Try.prog Try.lays111_ren := {
  mixed := by kernel_rfl
  f111 := Try.func63.trans (congrArg some (by kernel_rfl))
  t0 := Try.underlying0
  a0 := Try.isAgg0
  z0 := Try.sizeOf0
  v0 := Try.zeroValue0
  t3 := Try.underlying3
  a3 := Try.isAgg3
  z3 := Try.sizeOf3
  v3 := Try.zeroValue3
  t4 := Try.underlying4
  a4 := Try.isAgg4
  z4 := Try.sizeOf4
  v4 := Try.zeroValue4
  t28 := Try.underlying24
  a28 := Try.isAgg24
  z28 := Try.sizeOf24
  v28 := Try.zeroValue24 }
open Go.RowKit Go.Lib in
theorem Try.slices_Equal_int (b1 o1 n c b2 o2 m d : Nat) (xs ys : List Int) (w : World) (hx : n ≤ xs.length) (hy : m ≤ ys.length) (hbig : n ≤ 9223372036854775807) (hbig2 : m ≤ 9223372036854775807) (hc1 : ∀ j, j < xs.length → w.cell? ⟨b1, o1 + j, none⟩ = some (.int .i64 (xs.getD j 0))) (hc2 : ∀ j, j < ys.length → w.cell? ⟨b2, o2 + j, none⟩ = some (.int .i64 (ys.getD j 0))) :
    Calls Try.prog 63 #[.slice (some ⟨b1, o1, none⟩) n c, .slice (some ⟨b2, o2, none⟩) m d] w fun e w' => e = .returned (.bool (xs.take n == ys.take m)) ∧ ∃ q, w' = w.drewN q := Any.slices_Equal_int Try.lays111 b1 o1 n c b2 o2 m d xs ys w hx hy hbig hbig2 hc1 hc2
open Go.RowKit Go.Lib in
theorem Try.slices_Equal_int_empty (a1 a2 : Option Addr) (c m d : Nat) (w : World) (hbig2 : m ≤ 9223372036854775807) :
    Calls Try.prog 63 #[.slice a1 0 c, .slice a2 m d] w fun e w' => e = .returned (.bool (decide (m = 0))) ∧ w' = w := Any.slices_Equal_int_empty Try.lays111 a1 a2 c m d w hbig2
open Go.RowKit Go.Lib in
theorem Try.slices_Equal_int_lens (a1 a2 : Option Addr) (n c m d : Nat) (w : World) (hnm : n ≠ m) :
    Calls Try.prog 63 #[.slice a1 n c, .slice a2 m d] w fun e w' => e = .returned (.bool false) ∧ w' = w := Any.slices_Equal_int_lens Try.lays111 a1 a2 n c m d w hnm
end Go.Proofs
end

section
/-
  Chapter 3, in the program: slices.Equal over slices of ints; SameMatrix.
-/
namespace Go.Proofs.Ytncplikadacjnaa
open Go.RowKit

theorem iEqual (a b : Option Addr) (m n : Nat) (xs ys : List Int) (w : World) (h : Rd w a xs) (h' : Rd w b ys) (hn : xs.length ≤ 16777216) (hn' : ys.length ≤ 16777216) :
    Calls Try.prog 63 #[.slice a xs.length m, .slice b ys.length n] w fun e w' => e = .returned (.bool (decide (xs = ys))) ∧ ∃ q, w' = w.drewN q := by
  by_cases el : xs.length = ys.length
  · rcases Nat.eq_zero_or_pos xs.length with e | hz
    · obtain rfl : xs = [] := List.eq_nil_of_length_eq_zero e
      obtain rfl : ys = [] := List.eq_nil_of_length_eq_zero (by rw [← el]; rfl)
      exact (Try.slices_Equal_int_empty a b m 0 n w (by omega)).mono fun e w' ⟨h1, h2⟩ => ⟨by rw [h1]; simp, 0, by rw [h2]; rfl⟩
    · obtain ⟨b1, o1, rfl⟩ := h.addr hz
      obtain ⟨b2, o2, rfl⟩ := h'.addr (by omega)
      refine (Try.slices_Equal_int b1 o1 xs.length m b2 o2 ys.length n xs ys w (Nat.le_refl _) (Nat.le_refl _) (by omega) (by omega) h.cells h'.cells).mono fun e w' ⟨h1, h2⟩ => ⟨?_, h2⟩
      rw [h1, List.take_length, List.take_length]
      congr 2
      by_cases e : xs = ys <;> simp [e]
  · refine (Try.slices_Equal_int_lens a b xs.length m ys.length n w el).mono fun e w' ⟨h1, h2⟩ => ⟨?_, 0, by rw [h2]; rfl⟩
    rw [h1, decide_eq_false (fun e => el (by rw [e]))]

set_option maxHeartbeats 400000 in
theorem iSame (r c r' c' : Int) (a b : Option Addr) (m n : Nat) (xs ys : List Int) (w : World) (h : Rd w a xs) (h' : Rd w b ys) (hn : xs.length ≤ 16777216) (hn' : ys.length ≤ 16777216) :
    Calls Try.prog 25 #[.agg #[.int .i64 r, .int .i64 c, .slice a xs.length m], .agg #[.int .i64 r', .int .i64 c', .slice b ys.length n]] w (Gives (.bool (sameM r c xs r' c' ys)) w) := by
  have B0 : ∀ o1 o2, Below w.heap.size w ((w.alloc o1).alloc o2) := fun o1 o2 => ((Below.refl _ _).alloc (Nat.le_refl _) _).alloc (by simp) _
  have BH := Lib.hid B0
  clear B0
  have H := Lib.hid h
  have H' := Lib.hid h'
  clear h h'
  by_cases e1 : r = r'
  · by_cases e2 : c = c'
    · subst e1 e2
      have E : Hid (sameM r c xs r c ys = decide (xs = ys)) := by show sameM r c xs r c ys = _; unfold sameM; simp
      have n1 : (r == r) = true := by simp
      have n2 : (c == c) = true := by simp
      go_enter Try.func25, Try.ntmps25
      go_wp2_with fail
      refine (iEqual a b m n xs ys _ (H.out.below (BH.out _ _)) (H'.out.below (BH.out _ _)) hn hn').mono ?_
      rintro e w1 ⟨rfl, q, rfl⟩
      go_wp2_with fail
      go_ret
      exact ⟨by rw [E.out]; rfl, below_drewN (BH.out _ _) _⟩
    · have E : Hid (sameM r c xs r' c' ys = false) := decide_eq_false (fun t => e2 t.2.1)
      subst e1
      have n1 : (c == c') = false := by simpa using e2
      have n2 : (c != c') = true := by simpa using e2
      clear e2
      go_enter Try.func25, Try.ntmps25
      go_wp2_with fail
      go_ret
      exact ⟨by rw [E.out]; rfl, BH.out _ _⟩
  · have E : Hid (sameM r c xs r' c' ys = false) := decide_eq_false (fun t => e1 t.1)
    have n1 : (r == r') = false := by simpa using e1
    have n2 : (r != r') = true := by simpa using e1
    clear e1
    go_enter Try.func25, Try.ntmps25
    go_wp2_with fail
    go_ret
    exact ⟨by rw [E.out]; rfl, BH.out _ _⟩
end Go.Proofs.Ytncplikadacjnaa
end

section
/-
  Chapter 3, in the program: MultiplyMatrices.
-/
namespace Go.Proofs.Ytncplikadacjnaa
set_option maxRecDepth 100000
open Go.RowKit

/-! ### One step: a row of the second matrix, times a cell of the first one, is added to a row of the sums -/
def mrTo (L ys : List Int) (C i p : Nat) (t : Int) (j : Nat) : List Int := (List.range L.length).map fun q => if q / C = i ∧ q % C < j then L.getD q 0 + t * ys.getD (p * C + q % C) 0 else L.getD q 0
theorem mrTo_length (L ys : List Int) (C i p : Nat) (t : Int) (j : Nat) : (mrTo L ys C i p t j).length = L.length := by simp [mrTo]
theorem mrTo_getD (L ys : List Int) (C i p : Nat) (t : Int) (j q : Nat) (hq : q < L.length) : (mrTo L ys C i p t j).getD q 0 = if q / C = i ∧ q % C < j then L.getD q 0 + t * ys.getD (p * C + q % C) 0 else L.getD q 0 := by
  simp [mrTo, List.getD, hq]
theorem mrTo_zero (L ys : List Int) (C i p : Nat) (t : Int) : mrTo L ys C i p t 0 = L := by
  refine list_getD (mrTo_length _ _ _ _ _ _ _) fun q hq => ?_
  rw [mrTo_length] at hq
  rw [mrTo_getD _ _ _ _ _ _ _ _ hq, if_neg (by omega)]
theorem mrTo_at (L ys : List Int) (C i p : Nat) (t : Int) (j : Nat) (hj : j < C) (hq : i * C + j < L.length) : (mrTo L ys C i p t j).getD (i * C + j) 0 = L.getD (i * C + j) 0 := by
  rw [mrTo_getD _ _ _ _ _ _ _ _ hq, idx_mod hj, if_neg (by omega)]
theorem mrTo_step (L ys : List Int) (C i p : Nat) (t : Int) (j : Nat) (hj : j < C) (hq : i * C + j < L.length) : (mrTo L ys C i p t j).set (i * C + j) (L.getD (i * C + j) 0 + t * ys.getD (p * C + j) 0) = mrTo L ys C i p t (j + 1) := by
  refine list_getD (by rw [List.length_set, mrTo_length, mrTo_length]) fun q hq' => ?_
  rw [List.length_set, mrTo_length] at hq'
  rw [getD_set _ _ _ _ (by rw [mrTo_length]; exact hq), mrTo_getD _ _ _ _ _ _ _ _ hq', mrTo_getD _ _ _ _ _ _ _ _ hq']
  by_cases e : q = i * C + j
  · subst e
    rw [if_pos rfl, idx_div hj, idx_mod hj, if_pos ⟨rfl, by omega⟩]
  · rw [if_neg e]
    have hC : 0 < C := by omega
    by_cases h1 : q / C = i ∧ q % C < j
    · rw [if_pos h1, if_pos ⟨h1.1, by omega⟩]
    · rw [if_neg h1, if_neg]
      rintro ⟨h2, h3⟩
      have : q % C = j := by omega
      have hh : q / C * C + q % C = q := by rw [Nat.mul_comm]; exact Nat.div_add_mod q C
      rw [h2, this] at hh
      exact e hh.symm

set_option maxRecDepth 100000 in
set_option maxHeartbeats 1000000 in
theorem iMulStep (pb K C : Nat) (r : Value) (b : Option Addr) (nb : Nat) (ys : List Int) (n : Nat) (g m mc i p : Nat) (t : Int) (L : List Int) (w : World) (hp : Blk3 w pb 26 r (.int .i64 C) (.slice b n nb)) (hd : Rd w b ys) (hn : ys.length = n) (hy : n = K * C) (hC : C ≤ 24) (hK : K ≤ 24) (ny : nums ys = true)
    (hz : ∀ b' o : Nat, b = some ⟨b', o, none⟩ → 0 < n → b' ≠ g) (hne : pb ≠ g) (hI : Ints w g L) (hpK : p < K) (hm : ∀ j, j < C → i * C + j < m) (hl : m = L.length) (hb : m ≤ 576) (t1 : -400000000 ≤ t) (t2 : t ≤ 400000000)
    (bd : ∀ q : Nat, -4000000000000000000 ≤ L.getD q 0 ∧ L.getD q 0 ≤ 4000000000000000000) :
    Calls Try.prog 61 #[.slice (some ⟨g, 0, none⟩) m mc, .int .i64 (i : Int), .int .i64 (p : Int), .int .i64 t, .pointer (some ⟨pb, 0, none⟩)] w
      (fun e w2 => e = .returned (.slice (some ⟨g, 0, none⟩) m mc) ∧ Ints w2 g (mrTo L ys C i p t C) ∧ w.grownBy w2 (some g)) := by
  have I0 := Lib.hid hI
  have D := Lib.hid hd
  have HN := Lib.hid hn
  have HY := Lib.hid hy
  have NY := Lib.hid ny
  have HZ := Lib.hid hz
  have HM := Lib.hid hm
  have HL := Lib.hid hl
  have BD := Lib.hid bd
  have KP := Lib.hid hp
  obtain ⟨p0, p1, p2, -, -, -⟩ := hp.all
  clear hI hd hn hy ny hz hm hl bd hp
  go_enter Try.func61, Try.ntmps61
  go_wp2_with fail
  clear p0 p1 p2
  go_loopw [10, 13] (fun _ i' wr => ∃ j : Nat, i' = .int .i64 j ∧ j ≤ C ∧ Ints wr g (mrTo L ys C i p t j) ∧ w.grownBy wr (some g)) (fun _ i' _ => C - (intOf i').toNat)
  case atStart => exact ⟨0, rfl, by omega, by rw [mrTo_zero]; exact I0.out, World.grownBy.refl _ _⟩
  case round =>
    obtain ⟨j, rfl, hj, hi, hgr⟩ := hrel
    have I := Lib.hid hi
    have G := Lib.hid hgr
    clear hi hgr
    obtain ⟨p0, p1, p2, -, -, -⟩ := (KP.out.keepOne G.out hne).all
    by_cases hlt : j < C
    · have q1 : i * C + j < m := HM.out j hlt
      have q2 : p * C + j < n := by rw [HY.out]; exact idx_lt hpK hlt
      obtain ⟨b', o, rfl, hc2⟩ := D.out (p * C + j) (by rw [HN.out]; exact q2)
      have hbg : b' ≠ g := HZ.out b' o rfl (by omega)
      have hc2 := G.out.cell hc2 (by simpa using hbg)
      have hold := I.out.cell (i := i * C + j) (by rw [mrTo_length, ← HL.out]; exact q1)
      rw [mrTo_at L ys C i p t j hlt (by rw [← HL.out]; exact q1)] at hold
      have v1 := BD.out (i * C + j)
      have v2 := nums_at NY.out (j := p * C + j) (by rw [HN.out]; exact q2)
      obtain ⟨x, hx⟩ : ∃ x, L.getD (i * C + j) 0 = x := ⟨_, rfl⟩
      obtain ⟨y, hy⟩ : ∃ y, ys.getD (p * C + j) 0 = y := ⟨_, rfl⟩
      rw [hx] at hold v1
      rw [hy] at hc2 v2
      obtain ⟨v11, v12⟩ := v1
      obtain ⟨m1, m2⟩ := mul_num t y ⟨t1, t2⟩ v2
      have hfr := I.out.free (i * C + j)
      have XX := Lib.hid hx
      have YY := Lib.hid hy
      have n576 : n ≤ 576 := by rw [HY.out]; exact Nat.mul_le_mul hK hC
      have c1 : (i : Int) * (C : Int) = ((i * C : Nat) : Int) := (Int.natCast_mul _ _).symm
      have c2 : (p : Int) * (C : Int) = ((p * C : Nat) : Int) := (Int.natCast_mul _ _).symm
      have d1 : 0 ≤ (i : Int) * (C : Int) ∧ (i : Int) * (C : Int) ≤ 600 := by rw [c1]; omega
      have d2 : 0 ≤ (p : Int) * (C : Int) ∧ (p : Int) * (C : Int) ≤ 600 := by rw [c2]; omega
      have e1 : 0 ≤ (i : Int) * (C : Int) + (j : Int) := by omega
      have e2 : (i : Int) * (C : Int) + (j : Int) < (m : Int) := by rw [c1]; omega
      have e3 : ((i : Int) * (C : Int) + (j : Int)).toNat = i * C + j := by rw [c1]; omega
      have f1 : 0 ≤ (p : Int) * (C : Int) + (j : Int) := by omega
      have f2 : (p : Int) * (C : Int) + (j : Int) < (n : Int) := by rw [c2]; omega
      have f3 : ((p : Int) * (C : Int) + (j : Int)).toNat = p * C + j := by rw [c2]; omega
      obtain ⟨d11, d12⟩ := d1
      obtain ⟨d21, d22⟩ := d2
      have w1 : IntKind.i64.wrap ((i : Int) * (C : Int)) = (i : Int) * (C : Int) := IntWalk.i64_in _ (by omega)
      have w2 : IntKind.i64.wrap ((i : Int) * (C : Int) + (j : Int)) = (i : Int) * (C : Int) + (j : Int) := IntWalk.i64_in _ (by omega)
      have w3 : IntKind.i64.wrap ((p : Int) * (C : Int)) = (p : Int) * (C : Int) := IntWalk.i64_in _ (by omega)
      have w4 : IntKind.i64.wrap ((p : Int) * (C : Int) + (j : Int)) = (p : Int) * (C : Int) + (j : Int) := IntWalk.i64_in _ (by omega)
      have w5 : IntKind.i64.wrap (t * y) = t * y := IntWalk.i64_in _ (by omega)
      have w6 : IntKind.i64.wrap (x + t * y) = x + t * y := IntWalk.i64_in _ (by omega)
      clear c1 c2 hx hy v2 q1 q2
      go_wp2_with fail
      go_still_tail 23, (by kernel_rfl)
      go_wp2_with fail
      go_roundw
      case rel =>
        refine ⟨j + 1, by go_num, by omega, ?_, ?_⟩
        · rw [← mrTo_step L ys C i p t j hlt (by rw [← HL.out]; exact HM.out j hlt)]
          rw [XX.out, YY.out]
          first | exact I.out.set (i * C + j) _ | exact I.out.drew.set (i * C + j) _
        · first | exact grown_set_one G.out rfl _ | exact grown_drew_one (grown_set_one G.out rfl _)
      case measure => simp [intOf]; omega
    · obtain rfl : C = j := by omega
      go_wp2_with fail
      go_ret
      exact ⟨rfl, I.out, G.out⟩

/-! ### The sums after k cells -/
def mulTo (R K C : Nat) (xs ys : List Int) (k : Nat) : List Int := tab R C fun i j => dot K C xs ys i j (min K (k - i * K))
theorem mulTo_length (R K C : Nat) (xs ys : List Int) (k : Nat) : (mulTo R K C xs ys k).length = R * C := tab_length _ _ _
theorem mulTo_zero (R K C : Nat) (xs ys : List Int) : mulTo R K C xs ys 0 = List.replicate (R * C) 0 := by
  apply List.ext_getElem (by simp [mulTo, tab])
  intro i h1 h2
  simp [mulTo, tab, dot]
theorem mulTo_all (R K C : Nat) (xs ys : List Int) : mulTo R K C xs ys (R * K) = mulL R K C xs ys := by
  refine tab_ext (mulTo_length _ _ _ _ _ _) fun i j hi hj => ?_
  unfold mulTo
  rw [tab_at R C _ hi hj]
  have h : (i + 1) * K ≤ R * K := Nat.mul_le_mul_right K hi
  rw [Nat.add_mul, Nat.one_mul] at h
  rw [show min K (R * K - i * K) = K by omega]
theorem mulTo_step (R K C : Nat) (xs ys : List Int) {i p : Nat} (hi : i < R) (hp : p < K) : mrTo (mulTo R K C xs ys (i * K + p)) ys C i p (xs.getD (i * K + p) 0) C = mulTo R K C xs ys (i * K + p + 1) := by
  refine tab_ext (by rw [mrTo_length, mulTo_length]) fun i' j' hi' hj' => ?_
  rw [mrTo_getD _ _ _ _ _ _ _ _ (by rw [mulTo_length]; exact idx_lt hi' hj'), idx_div hj', idx_mod hj']
  have e0 : (mulTo R K C xs ys (i * K + p)).getD (i' * C + j') 0 = dot K C xs ys i' j' (min K (i * K + p - i' * K)) := by unfold mulTo; rw [tab_at R C _ hi' hj']
  rw [e0]
  by_cases e : i' = i
  · subst e
    rw [if_pos ⟨rfl, hj'⟩, show min K (i' * K + p - i' * K) = p by omega, show min K (i' * K + p + 1 - i' * K) = p + 1 by omega]
    rfl
  · rw [if_neg (fun h => e h.1)]
    rcases Nat.lt_or_gt_of_ne e with h | h
    · have : (i' + 1) * K ≤ i * K := Nat.mul_le_mul_right K h
      rw [Nat.add_mul, Nat.one_mul] at this
      rw [show min K (i * K + p - i' * K) = K by omega, show min K (i * K + p + 1 - i' * K) = K by omega]
    · have : (i + 1) * K ≤ i' * K := Nat.mul_le_mul_right K h
      rw [Nat.add_mul, Nat.one_mul] at this
      rw [show min K (i * K + p - i' * K) = 0 by omega, show min K (i * K + p + 1 - i' * K) = 0 by omega]
theorem mulTo_bd (R K C : Nat) (xs ys : List Int) (hx : nums xs = true) (hy : nums ys = true) (lx : xs.length = R * K) (ly : ys.length = K * C) (hK : K ≤ 24) (k q : Nat) : -4000000000000000000 ≤ (mulTo R K C xs ys k).getD q 0 ∧ (mulTo R K C xs ys k).getD q 0 ≤ 4000000000000000000 := by
  rcases Nat.lt_or_ge q (R * C) with hq | hq
  · have hC : 0 < C := by
      rcases Nat.eq_zero_or_pos C with e | e
      · rw [e, Nat.mul_zero] at hq; omega
      · exact e
    have hi : q / C < R := Nat.div_lt_of_lt_mul (by rw [Nat.mul_comm]; exact hq)
    have hj : q % C < C := Nat.mod_lt q hC
    have e : q / C * C + q % C = q := by rw [Nat.mul_comm]; exact Nat.div_add_mod q C
    have := dot_bd (K := K) (C := C) (xs := xs) (ys := ys) (i := q / C) (j := q % C) (fun p hp => nums_at hx (by rw [lx]; exact idx_lt hi hp)) (fun p hp => nums_at hy (by rw [ly]; exact idx_lt hp hj)) (min K (k - q / C * K)) (Nat.min_le_left _ _)
    have e0 : (mulTo R K C xs ys k).getD q 0 = dot K C xs ys (q / C) (q % C) (min K (k - q / C * K)) := by
      rw [← e]
      unfold mulTo
      rw [tab_at R C _ hi hj, e]
    rw [e0]
    have hmin : min K (k - q / C * K) ≤ 24 := Nat.le_trans (Nat.min_le_left _ _) hK
    omega
  · have e0 : (mulTo R K C xs ys k).getD q 0 = 0 := by
      simp [List.getD, mulTo_length, hq]
    rw [e0]; omega
theorem mulStepOf (pb R K C nx n g m : Nat) (r : Value) (b : Option Addr) (nb : Nat) (xs ys : List Int) (w : World) (hp : Blk3 w pb 26 r (.int .i64 C) (.slice b n nb)) (hd : Rd w b ys) (hx : xs.length = nx) (hnx : nx = R * K) (hn : ys.length = n) (hy : n = K * C) (hR : R ≤ 24) (hK : K ≤ 24) (hC : C ≤ 24) (mx : nums xs = true) (ny : nums ys = true)
    (hz : ∀ b' o : Nat, b = some ⟨b', o, none⟩ → 0 < n → b' ≠ g) (hne : pb ≠ g) (hm : m = R * C) :
    ∀ (k : Nat) (w1 : World), k < nx → w.grownBy w1 (some g) → Ints w1 g (mulTo R K C xs ys k) → Calls Try.prog 61 #[.slice (some ⟨g, 0, none⟩) m m, .int .i64 ((k : Int) / (K : Int)), .int .i64 ((k : Int) % (K : Int)), .int .i64 (xs.getD k 0), .pointer (some ⟨pb, 0, none⟩)] w1
      (fun e w2 => e = .returned (.slice (some ⟨g, 0, none⟩) m m) ∧ Ints w2 g (mulTo R K C xs ys (k + 1)) ∧ w1.grownBy w2 (some g)) := by
  intro k w1 hk hg hI
  have hK0 : 0 < K := by
    rcases Nat.eq_zero_or_pos K with e | e
    · rw [e, Nat.mul_zero] at hnx; omega
    · exact e
  have e1 : k / K * K + k % K = k := by rw [Nat.mul_comm]; exact Nat.div_add_mod k K
  have hj : k % K < K := Nat.mod_lt k hK0
  have hi : k / K < R := Nat.div_lt_of_lt_mul (by rw [Nat.mul_comm, ← hnx]; exact hk)
  have st := mulTo_step R K C xs ys hi hj
  rw [e1] at st
  rw [← Int.natCast_ediv, ← Int.natCast_emod]
  have mle : m ≤ 576 := by rw [hm]; exact Nat.mul_le_mul hR hC
  have tb := nums_at mx (j := k) (by rw [hx]; exact hk)
  have hd1 : Rd w1 b ys := fun i hi => by
    obtain ⟨b', o, rfl, hc⟩ := hd i hi
    exact ⟨b', o, rfl, hg.cell hc (by simpa using hz b' o rfl (by omega))⟩
  refine (iMulStep pb K C r b nb ys n g m m (k / K) (k % K) (xs.getD k 0) _ w1 (hp.keepOne hg hne) hd1 hn hy hC hK ny hz hne hI hj (fun j hj' => by rw [hm]; exact idx_lt hi hj') (by rw [mulTo_length, hm]) mle tb.1 tb.2 (mulTo_bd R K C xs ys mx ny (by rw [hx, hnx]) (by rw [hn, hy]) hK k)).mono ?_
  rintro e w2 ⟨h1, h2, h3⟩
  rw [st] at h2
  exact ⟨h1, h2, h3⟩

set_option maxRecDepth 100000 in
set_option maxHeartbeats 1000000 in
theorem iMul_t (R K C : Nat) (a b : Option Addr) (m n : Nat) (xs ys : List Int) (w : World) (h : Rd w a xs) (h' : Rd w b ys) (hn : xs.length ≤ 16777216) (hn' : ys.length ≤ 16777216)
    (hm : isMat R K xs = true) (hm' : isMat K C ys = true) :
    Calls Try.prog 24 #[.agg #[.int .i64 R, .int .i64 K, .slice a xs.length m], .agg #[.int .i64 K, .int .i64 C, .slice b ys.length n]] w (MatRes (MR.done R C (mulL R K C xs ys)) w) := by
  obtain ⟨⟨r1, r2⟩, ⟨k1, k2⟩, l1, nx⟩ := isMat_says hm
  obtain ⟨-, ⟨c1, c2⟩, l2, ny⟩ := isMat_says hm'
  rw [← Int.natCast_mul] at l1 l2
  have hR : R ≤ 24 := by omega
  have hK : K ≤ 24 := by omega
  have hC : C ≤ 24 := by omega
  have hle : R * C ≤ 24 * 24 := Nat.mul_le_mul hR hC
  obtain ⟨nxs, hx⟩ : ∃ n, xs.length = n := ⟨_, rfl⟩
  obtain ⟨nys, hy⟩ : ∃ n, ys.length = n := ⟨_, rfl⟩
  have HX := Lib.hid hx
  have HY := Lib.hid hy
  have HXN : Hid (nxs = R * K) := by show nxs = R * K; omega
  have HYN : Hid (nys = K * C) := by show nys = K * C; omega
  have hmk := makeProd R C (by omega)
  have hp1 : (0 : Int) ≤ (R : Int) * (C : Int) := by rw [← Int.natCast_mul]; omega
  have hp2 : (R : Int) * (C : Int) ≤ 16777216 := by rw [← Int.natCast_mul]; omega
  have hp3 : IntKind.i64.wrap ((R : Int) * (C : Int)) = (R : Int) * (C : Int) := IntWalk.i64_in _ (by omega)
  obtain ⟨N, hN⟩ : ∃ N, R * C = N := ⟨_, rfl⟩
  have HN := Lib.hid hN
  rw [hN] at hmk hle
  have NX := Lib.hid nx
  have NY := Lib.hid ny
  have M := Lib.hid hm
  have M' := Lib.hid hm'
  rw [hx] at hn ⊢
  rw [hy] at hn' ⊢
  have B0 : ∀ o1 o2 o3, Below w.heap.size w (((w.alloc o1).alloc o2).alloc o3) := fun o1 o2 o3 => (((Below.refl _ _).alloc (Nat.le_refl _) _).alloc (by simp) _).alloc (by simp <;> omega) _
  have BH := Lib.hid B0
  have H := Lib.hid h
  have H' := Lib.hid h'
  clear r1 r2 k1 k2 c1 c2 l1 l2 nx ny hm hm' hx hy hN h h' B0
  go_enter Try.func24, Try.ntmps24
  go_wp2_with fail
  have ST := iIsMat R K a m xs _ (H.out.below (BH.out (.cells #[.int .i64 R, .int .i64 K, .slice a nxs m] 26) (.cells #[.int .i64 K, .int .i64 C, .slice b nys n] 26) (.cells #[.int .i64 0, .int .i64 0, .slice none 0 0] 26))) (by rw [HX.out]; omega)
  rw [HX.out] at ST
  refine ST.mono ?_
  clear ST
  rintro e w1 ⟨rfl, hb⟩
  have K0 : Hid (Blk3 w1 w.heap.size 26 (.int .i64 R) (.int .i64 K) (.slice a nxs m)) := (((Blk3.at_ _ _ _ _ rfl).old _).old _).keep hb (by simp <;> omega)
  have K1 : Hid (Blk3 w1 (w.heap.size + 1) 26 (.int .i64 K) (.int .i64 C) (.slice b nys n)) := ((Blk3.at_ _ _ _ _ (by simp)).old _).keep hb (by simp <;> omega)
  have K2 : Hid (Blk3 w1 (w.heap.size + 1 + 1) 26 (.int .i64 0) (.int .i64 0) (.slice none 0 0)) := (Blk3.at_ _ _ _ _ (by simp)).keep hb (by simp)
  have B : Hid (Below w.heap.size w w1) := (BH.out _ _ _).trans (hb.mono (by simp <;> omega))
  clear hb
  obtain ⟨c0, c1, c2, -, -, -⟩ := K0.out.all
  obtain ⟨d0, d1, d2, -, -, -⟩ := K1.out.all
  rw [M.out]
  go_wp2_with fail
  have ST := iIsMat K C b n ys _ (H'.out.below B.out) (by rw [HY.out]; omega)
  rw [HY.out] at ST
  refine ST.mono ?_
  clear ST
  rintro e w2 ⟨rfl, hb⟩
  have K0 := Lib.hid (K0.out.step hb)
  have K1 := Lib.hid (K1.out.step hb)
  have K2 := Lib.hid (K2.out.step hb)
  have B := Lib.hid (stepB B.out hb)
  clear hb
  obtain ⟨e0, e1, e2, -, -, -⟩ := K0.out.all
  obtain ⟨g0, g1, g2, -, -, -⟩ := K1.out.all
  rw [M'.out]
  go_upto_region 3 with fail
  refine wp_region_held_drew (S := fun w' => Below w2.heap.size w2 w') (by kernel_rfl) (Below.refl _ _).drew (fun hH => ?_)
  refine wpAnyH_take (i := 0) (v := ?_) (by simp only [List.getElem?_toArray, List.getElem?_cons_zero]; rfl) (by kernel_rfl) (by kernel_rfl) (by kernel_rfl) (by exact fun _ _ _ h => h) (Or.inl ⟨by rfl, ?_⟩) hH ?_
  rotate_left
  · (intro wS hS; (try dsimp only at hS); obtain ⟨k1, k2, k3, k4, k5, k6⟩ := six K0.out K1.out hS; go_simp; try rfl)
  try simp only [Act.put, List.setIfInBounds_toArray, List.set_cons_zero, List.set_cons_succ]
  refine wpAnyH_take (i := 1) (v := ?_) (by simp only [List.getElem?_toArray, List.getElem?_cons_succ, List.getElem?_cons_zero]; rfl) (by kernel_rfl) (by kernel_rfl) (by kernel_rfl) (by exact fun _ _ _ h => h) (Or.inl ⟨by rfl, ?_⟩) hH ?_
  rotate_left
  · (intro wS hS; (try dsimp only at hS); obtain ⟨k1, k2, k3, k4, k5, k6⟩ := six K0.out K1.out hS; go_simp; try rfl)
  try simp only [Act.put, List.setIfInBounds_toArray, List.set_cons_zero, List.set_cons_succ]
  refine wpAnyH_take (i := 2) (v := ?_) (by simp only [List.getElem?_toArray, List.getElem?_cons_succ, List.getElem?_cons_zero]; rfl) (by kernel_rfl) (by kernel_rfl) (by kernel_rfl) (by exact fun _ _ _ h => h) (Or.inl ⟨by rfl, ?_⟩) hH ?_
  rotate_left
  · (intro wS hS; (try dsimp only at hS); obtain ⟨k1, k2, k3, k4, k5, k6⟩ := six K0.out K1.out hS; go_simp; try rfl)
  try simp only [Act.put, List.setIfInBounds_toArray, List.set_cons_zero, List.set_cons_succ]
  refine wpAnyH_take (i := 3) (v := ?_) (by simp only [List.getElem?_toArray, List.getElem?_cons_succ, List.getElem?_cons_zero]; rfl) (by kernel_rfl) (by kernel_rfl) (by kernel_rfl) (by exact fun _ _ _ h => h) (Or.inl ⟨by rfl, ?_⟩) hH ?_
  rotate_left
  · (intro wS hS; (try dsimp only at hS); obtain ⟨k1, k2, k3, k4, k5, k6⟩ := six K0.out K1.out hS; go_simp; try rfl)
  try simp only [Act.put, List.setIfInBounds_toArray, List.set_cons_zero, List.set_cons_succ]
  refine wpAnyH_take (i := 4) (v := ?_) (by simp only [List.getElem?_toArray, List.getElem?_cons_succ, List.getElem?_cons_zero]; rfl) (by kernel_rfl) (by kernel_rfl) (by kernel_rfl) (by exact fun _ _ _ h => h) (Or.inl ⟨by rfl, ?_⟩) hH ?_
  rotate_left
  · (intro wS hS; (try dsimp only at hS); obtain ⟨k1, k2, k3, k4, k5, k6⟩ := six K0.out K1.out hS; go_simp; try rfl)
  try simp only [Act.put, List.setIfInBounds_toArray, List.set_cons_zero, List.set_cons_succ]
  refine wpAnyH_take (i := 5) (v := ?_) (by simp only [List.getElem?_toArray, List.getElem?_cons_succ, List.getElem?_cons_zero]; rfl) (by kernel_rfl) (by kernel_rfl) (by kernel_rfl) (by exact fun _ _ _ h => h) (Or.inl ⟨by rfl, ?_⟩) hH ?_
  rotate_left
  · (intro wS hS; clear hS; go_simp; try rfl)
  try simp only [Act.put, List.setIfInBounds_toArray, List.set_cons_zero, List.set_cons_succ]
  refine wpAnyH_take (i := 7) (v := ?_) (by simp only [List.getElem?_toArray, List.getElem?_cons_succ, List.getElem?_cons_zero]; rfl) (by kernel_rfl) (by kernel_rfl) (by kernel_rfl) (by exact fun _ _ _ h => h) (Or.inl ⟨by rfl, ?_⟩) hH ?_
  rotate_left
  · (intro wS hS; clear hS; go_simp; try rfl)
  try simp only [Act.put, List.setIfInBounds_toArray, List.set_cons_zero, List.set_cons_succ]
  refine wpAnyH_ready (rs := [6]) (by kernel_rfl) (by simp) ?_
  refine AllReadyH.cons (by simp only [List.getElem?_toArray, List.getElem?_cons_succ, List.getElem?_cons_zero]; rfl) (fun KK hKK => ?_) AllReadyH.nil
  go_simp
  have I0 : Hid (Ints (w2.alloc (.cells (madeCells #[.int .i64 0] N) 3)) w2.heap.size (List.replicate N 0)) := Ints.made N rfl
  try dsimp only
  refine hKK.out _ _ ?_ (fun hH2 => ?_)
  · exact hH.alloc hH.size _
  clear hKK KK
  have hO := hH
  clear hH
  have hH := hH2
  clear hH2
  try simp only [Act.put, List.setIfInBounds_toArray, List.set_cons_zero, List.set_cons_succ]
  refine wpAnyH_ready (rs := [8]) (by kernel_rfl) (by simp) ?_
  refine AllReadyH.cons (by simp only [List.getElem?_toArray, List.getElem?_cons_succ, List.getElem?_cons_zero]; rfl) (fun KK hKK => ?_) AllReadyH.nil
  go_simp
  refine (iFoldM (w.heap.size + 1) R K nxs a m xs w2.heap.size N N (mulTo R K C xs ys) _ HX.out (H.out.below (B.out.trans (hH.mono B.out.size))) HXN.out hR hK (by rw [mulTo_zero, HN.out]; first | exact I0.out | exact I0.out.drew) (far_of (H.out.below B.out) HX.out) (mulStepOf (w.heap.size + 1) R K C nxs nys w2.heap.size N _ b n xs ys _ (K1.out.keep hH K1.out.lt) (H'.out.below (B.out.trans (hH.mono B.out.size))) HX.out HXN.out HY.out HYN.out hR hK hC NX.out NY.out (far_of (H'.out.below B.out) HY.out) (Nat.ne_of_lt K1.out.lt) HN.out.symm)).mono ?_
  rintro e v1 ⟨rfl, hi, hg⟩
  have I2 := Lib.hid hi
  clear hi
  try dsimp only
  refine hKK.out _ _ ?_ (fun hH2 => ?_)
  · exact hH.trans (below_of_one hg (Nat.le_refl _) hH.size)
  clear hKK KK
  have hO := hH
  clear hH
  have hH := hH2
  clear hH2
  try simp only [Act.put, List.setIfInBounds_toArray, List.set_cons_zero, List.set_cons_succ]
  refine wpAnyH_take (i := 9) (v := ?_) (by simp only [List.getElem?_toArray, List.getElem?_cons_succ, List.getElem?_cons_zero]; rfl) (by kernel_rfl) (by kernel_rfl) (by kernel_rfl) (by exact fun _ _ _ h => h) (Or.inl ⟨by rfl, ?_⟩) hH ?_
  rotate_left
  · (intro wS hS; clear hS; go_simp; try rfl)
  try simp only [Act.put, List.setIfInBounds_toArray, List.set_cons_zero, List.set_cons_succ]
  refine wpAnyH_done (by kernel_rfl) ?_ _
  have hb := hH
  clear hH hO hg
  have EQ : mulTo R K C xs ys nxs = mulL R K C xs ys := by rw [HXN.out]; exact mulTo_all R K C xs ys
  rw [EQ] at I2
  have HL : Hid ((mulL R K C xs ys).length = N) := by show (mulL R K C xs ys).length = N; unfold mulL; rw [tab_length, HN.out]
  have gl := K2.out.lt
  have K0 := Lib.hid (K0.out.step hb)
  have K1 := Lib.hid (K1.out.step hb)
  have R2 := Lib.hid (K2.out.step hb)
  have B := Lib.hid (stepB B.out hb)
  clear hb EQ
  obtain ⟨u0, u1, u2, -, -, -⟩ := K0.out.all
  obtain ⟨y0, y1, y2, -, -, -⟩ := K1.out.all
  go_wp2_with fail
  have ST := iDone R C (some ⟨w2.heap.size, 0, none⟩) N (mulL R K C xs ys) _ I2.out.rd (by rw [HL.out]; omega)
  rw [HL.out] at ST
  refine ST.mono ?_
  clear ST
  rintro e w4 ⟨rfl, hb⟩
  have R2 := Lib.hid (R2.out.step hb)
  have I2 := Lib.hid (I2.out.keep hb I2.out.lt)
  have B := Lib.hid (stepB B.out hb)
  clear hb
  obtain ⟨s0, s1, s2, t0, t1, t2⟩ := R2.out.all
  have be : ∀ x y z, Below w.heap.size w (((w4.setCell ⟨w.heap.size + 1 + 1, 0, none⟩ x).setCell ⟨w.heap.size + 1 + 1, 1, none⟩ y).setCell ⟨w.heap.size + 1 + 1, 2, none⟩ z) := fun x y z =>
    (((B.out.setCell (by show w.heap.size ≤ w.heap.size + 1 + 1; omega) _).setCell (by show w.heap.size ≤ w.heap.size + 1 + 1; omega) _).setCell (by show w.heap.size ≤ w.heap.size + 1 + 1; omega) _)
  have BE := Lib.hid be
  clear be
  rcases Bool.eq_false_or_eq_true (isMat R C (mulL R K C xs ys)) with hd | hd
  · have E : Hid (MR.done R C (mulL R K C xs ys) = ⟨true, R, C, mulL R K C xs ys⟩) := by show MR.done R C (mulL R K C xs ys) = _; unfold MR.done; rw [hd]; rfl
    rw [hd]
    clear hd
    unfold DoneRes
    go_wp2_with fail
    obtain ⟨E0, E1, E2, -, -, -⟩ := (((R2.out.set0 (.int .i64 R)).set1 (.int .i64 C)).set2 (.slice (some ⟨w2.heap.size, 0, none⟩) N N)).all
    rw [E.out]
    refine bodyPost_ret (v := .tuple #[.agg #[.int .i64 R, .int .i64 C, .slice (some ⟨w2.heap.size, 0, none⟩) N N], .bool true]) (by simp [results, Try.results24, go_sem, E0, E1, E2]) rfl ⟨_, rfl, ?_, ?_⟩
    · refine .inr ⟨w2.heap.size, N, by rw [HL.out], by omega, ?_, by rw [HL.out]; omega, by rw [HL.out]; omega⟩
      exact ((I2.out.far (by show w2.heap.size ≠ w.heap.size + 1 + 1; omega) _).far (by show w2.heap.size ≠ w.heap.size + 1 + 1; omega) _).far (by show w2.heap.size ≠ w.heap.size + 1 + 1; omega) _
    · exact BE.out _ _ _
  · have E : Hid (MR.done R C (mulL R K C xs ys) = MR.no) := by show MR.done R C (mulL R K C xs ys) = _; unfold MR.done; rw [hd]; rfl
    rw [hd]
    clear hd
    unfold DoneRes
    go_wp2_with fail
    obtain ⟨E0, E1, E2, -, -, -⟩ := (((R2.out.set0 (.int .i64 0)).set1 (.int .i64 0)).set2 (.slice none 0 0)).all
    rw [E.out]
    exact bodyPost_ret (v := .tuple #[.agg #[.int .i64 0, .int .i64 0, .slice none 0 0], .bool false]) (by simp [results, Try.results24, go_sem, E0, E1, E2]) rfl ⟨_, rfl, .inl ⟨rfl, rfl⟩, BE.out _ _ _⟩
set_option maxRecDepth 100000 in
set_option maxHeartbeats 1000000 in
theorem iMul (r c r' c' : Int) (a b : Option Addr) (m n : Nat) (xs ys : List Int) (w : World) (h : Rd w a xs) (h' : Rd w b ys) (hn : xs.length ≤ 16777216) (hn' : ys.length ≤ 16777216) :
    Calls Try.prog 24 #[.agg #[.int .i64 r, .int .i64 c, .slice a xs.length m], .agg #[.int .i64 r', .int .i64 c', .slice b ys.length n]] w (MatRes (mulM r c xs r' c' ys) w) := by
  rcases Bool.eq_false_or_eq_true (isMat r c xs) with hm | hm
  · rcases Bool.eq_false_or_eq_true (isMat r' c' ys) with hm' | hm'
    · by_cases e1 : c = r'
      · subst e1
        obtain ⟨⟨r1, r2⟩, ⟨k1, k2⟩, -, -⟩ := isMat_says hm
        obtain ⟨-, ⟨c1, c2⟩, -, -⟩ := isMat_says hm'
        obtain ⟨R, rfl⟩ := Int.eq_ofNat_of_zero_le r1
        obtain ⟨K, rfl⟩ := Int.eq_ofNat_of_zero_le k1
        obtain ⟨C, rfl⟩ := Int.eq_ofNat_of_zero_le c1
        have E : mulM R K xs K C ys = MR.done R C (mulL R K C xs ys) := by unfold mulM; rw [hm, hm']; simp
        rw [E]
        exact iMul_t R K C a b m n xs ys w h h' hn hn' hm hm'
      · have E : Hid (mulM r c xs r' c' ys = MR.no) := by show mulM r c xs r' c' ys = _; unfold mulM; rw [hm, hm']; simp [e1]
        have n1 : (c == r') = false := by simpa using e1
        have n2 : (c != r') = true := by simpa using e1
        have B0 : ∀ o1 o2 o3, Below w.heap.size w (((w.alloc o1).alloc o2).alloc o3) := fun o1 o2 o3 => (((Below.refl _ _).alloc (Nat.le_refl _) _).alloc (by simp) _).alloc (by simp <;> omega) _
        have BH := Lib.hid B0
        have H := Lib.hid h
        have H' := Lib.hid h'
        clear B0 h h'
        have M := Lib.hid hm
        have M' := Lib.hid hm'
        clear hm hm' e1
        go_enter Try.func24, Try.ntmps24
        go_wp2_with fail
        refine (iIsMat r c a m xs _ (H.out.below (BH.out (.cells #[.int .i64 r, .int .i64 c, .slice a xs.length m] 26) (.cells #[.int .i64 r', .int .i64 c', .slice b ys.length n] 26) (.cells #[.int .i64 0, .int .i64 0, .slice none 0 0] 26))) hn).mono ?_
        rintro e w1 ⟨rfl, hb⟩
        have K0 : Hid (Blk3 w1 w.heap.size 26 (.int .i64 r) (.int .i64 c) (.slice a xs.length m)) := (((Blk3.at_ _ _ _ _ rfl).old _).old _).keep hb (by simp <;> omega)
        have K1 : Hid (Blk3 w1 (w.heap.size + 1) 26 (.int .i64 r') (.int .i64 c') (.slice b ys.length n)) := ((Blk3.at_ _ _ _ _ (by simp)).old _).keep hb (by simp <;> omega)
        have K2 : Hid (Blk3 w1 (w.heap.size + 1 + 1) 26 (.int .i64 0) (.int .i64 0) (.slice none 0 0)) := (Blk3.at_ _ _ _ _ (by simp)).keep hb (by simp)
        have B : Hid (Below w.heap.size w w1) := (BH.out _ _ _).trans (hb.mono (by simp <;> omega))
        clear hb
        obtain ⟨ca0, ca1, ca2, -, -, -⟩ := K0.out.all
        obtain ⟨cb0, cb1, cb2, -, -, -⟩ := K1.out.all
        obtain ⟨cc0, cc1, cc2, ff0, ff1, ff2⟩ := K2.out.all
        rw [M.out]
        go_wp2_with fail
        refine (iIsMat r' c' b n ys _ (H'.out.below B.out) hn').mono ?_
        rintro e w2 ⟨rfl, hb⟩
        have K0 := Lib.hid (K0.out.keep hb K0.out.lt)
        have K1 := Lib.hid (K1.out.keep hb K1.out.lt)
        have K2 := Lib.hid (K2.out.keep hb K2.out.lt)
        have B := Lib.hid (B.out.trans (hb.mono B.out.size))
        clear hb
        obtain ⟨da0, da1, da2, -, -, -⟩ := K0.out.all
        obtain ⟨db0, db1, db2, -, -, -⟩ := K1.out.all
        obtain ⟨dc0, dc1, dc2, gf0, gf1, gf2⟩ := K2.out.all
        rw [M'.out]
        go_wp2_with fail
        obtain ⟨E0, E1, E2, -, -, -⟩ := (((K2.out.set0 (.int .i64 0)).set1 (.int .i64 0)).set2 (.slice none 0 0)).all
        rw [E.out]
        exact bodyPost_ret (v := .tuple #[.agg #[.int .i64 0, .int .i64 0, .slice none 0 0], .bool false]) (by simp [results, Try.results24, go_sem, E0, E1, E2]) rfl ⟨_, rfl, .inl ⟨rfl, rfl⟩, ((B.out.setCell (by show w.heap.size ≤ w.heap.size + 1 + 1; omega) _).setCell (by show w.heap.size ≤ w.heap.size + 1 + 1; omega) _).setCell (by show w.heap.size ≤ w.heap.size + 1 + 1; omega) _⟩
    · have E : Hid (mulM r c xs r' c' ys = MR.no) := by show mulM r c xs r' c' ys = _; unfold mulM; rw [hm, hm']; simp
      have B0 : ∀ o1 o2 o3, Below w.heap.size w (((w.alloc o1).alloc o2).alloc o3) := fun o1 o2 o3 => (((Below.refl _ _).alloc (Nat.le_refl _) _).alloc (by simp) _).alloc (by simp <;> omega) _
      have BH := Lib.hid B0
      have H := Lib.hid h
      have H' := Lib.hid h'
      clear B0 h h'
      have M := Lib.hid hm
      have M' := Lib.hid hm'
      clear hm hm'
      go_enter Try.func24, Try.ntmps24
      go_wp2_with fail
      refine (iIsMat r c a m xs _ (H.out.below (BH.out (.cells #[.int .i64 r, .int .i64 c, .slice a xs.length m] 26) (.cells #[.int .i64 r', .int .i64 c', .slice b ys.length n] 26) (.cells #[.int .i64 0, .int .i64 0, .slice none 0 0] 26))) hn).mono ?_
      rintro e w1 ⟨rfl, hb⟩
      have K0 : Hid (Blk3 w1 w.heap.size 26 (.int .i64 r) (.int .i64 c) (.slice a xs.length m)) := (((Blk3.at_ _ _ _ _ rfl).old _).old _).keep hb (by simp <;> omega)
      have K1 : Hid (Blk3 w1 (w.heap.size + 1) 26 (.int .i64 r') (.int .i64 c') (.slice b ys.length n)) := ((Blk3.at_ _ _ _ _ (by simp)).old _).keep hb (by simp <;> omega)
      have K2 : Hid (Blk3 w1 (w.heap.size + 1 + 1) 26 (.int .i64 0) (.int .i64 0) (.slice none 0 0)) := (Blk3.at_ _ _ _ _ (by simp)).keep hb (by simp)
      have B : Hid (Below w.heap.size w w1) := (BH.out _ _ _).trans (hb.mono (by simp <;> omega))
      clear hb
      obtain ⟨ca0, ca1, ca2, -, -, -⟩ := K0.out.all
      obtain ⟨cb0, cb1, cb2, -, -, -⟩ := K1.out.all
      obtain ⟨cc0, cc1, cc2, ff0, ff1, ff2⟩ := K2.out.all
      rw [M.out]
      go_wp2_with fail
      refine (iIsMat r' c' b n ys _ (H'.out.below B.out) hn').mono ?_
      rintro e w2 ⟨rfl, hb⟩
      have K0 := Lib.hid (K0.out.keep hb K0.out.lt)
      have K1 := Lib.hid (K1.out.keep hb K1.out.lt)
      have K2 := Lib.hid (K2.out.keep hb K2.out.lt)
      have B := Lib.hid (B.out.trans (hb.mono B.out.size))
      clear hb
      obtain ⟨da0, da1, da2, -, -, -⟩ := K0.out.all
      obtain ⟨db0, db1, db2, -, -, -⟩ := K1.out.all
      obtain ⟨dc0, dc1, dc2, gf0, gf1, gf2⟩ := K2.out.all
      rw [M'.out]
      go_wp2_with fail
      obtain ⟨E0, E1, E2, -, -, -⟩ := (((K2.out.set0 (.int .i64 0)).set1 (.int .i64 0)).set2 (.slice none 0 0)).all
      rw [E.out]
      exact bodyPost_ret (v := .tuple #[.agg #[.int .i64 0, .int .i64 0, .slice none 0 0], .bool false]) (by simp [results, Try.results24, go_sem, E0, E1, E2]) rfl ⟨_, rfl, .inl ⟨rfl, rfl⟩, ((B.out.setCell (by show w.heap.size ≤ w.heap.size + 1 + 1; omega) _).setCell (by show w.heap.size ≤ w.heap.size + 1 + 1; omega) _).setCell (by show w.heap.size ≤ w.heap.size + 1 + 1; omega) _⟩
  · have E : Hid (mulM r c xs r' c' ys = MR.no) := by show mulM r c xs r' c' ys = _; unfold mulM; rw [hm]; simp
    have B0 : ∀ o1 o2 o3, Below w.heap.size w (((w.alloc o1).alloc o2).alloc o3) := fun o1 o2 o3 => (((Below.refl _ _).alloc (Nat.le_refl _) _).alloc (by simp) _).alloc (by simp <;> omega) _
    have BH := Lib.hid B0
    have H := Lib.hid h
    have H' := Lib.hid h'
    clear B0 h h'
    have M := Lib.hid hm
    clear hm hn'
    go_enter Try.func24, Try.ntmps24
    go_wp2_with fail
    refine (iIsMat r c a m xs _ (H.out.below (BH.out (.cells #[.int .i64 r, .int .i64 c, .slice a xs.length m] 26) (.cells #[.int .i64 r', .int .i64 c', .slice b ys.length n] 26) (.cells #[.int .i64 0, .int .i64 0, .slice none 0 0] 26))) hn).mono ?_
    rintro e w1 ⟨rfl, hb⟩
    have K0 : Hid (Blk3 w1 w.heap.size 26 (.int .i64 r) (.int .i64 c) (.slice a xs.length m)) := (((Blk3.at_ _ _ _ _ rfl).old _).old _).keep hb (by simp <;> omega)
    have K1 : Hid (Blk3 w1 (w.heap.size + 1) 26 (.int .i64 r') (.int .i64 c') (.slice b ys.length n)) := ((Blk3.at_ _ _ _ _ (by simp)).old _).keep hb (by simp <;> omega)
    have K2 : Hid (Blk3 w1 (w.heap.size + 1 + 1) 26 (.int .i64 0) (.int .i64 0) (.slice none 0 0)) := (Blk3.at_ _ _ _ _ (by simp)).keep hb (by simp)
    have B : Hid (Below w.heap.size w w1) := (BH.out _ _ _).trans (hb.mono (by simp <;> omega))
    clear hb
    obtain ⟨ca0, ca1, ca2, -, -, -⟩ := K0.out.all
    obtain ⟨cb0, cb1, cb2, -, -, -⟩ := K1.out.all
    obtain ⟨cc0, cc1, cc2, ff0, ff1, ff2⟩ := K2.out.all
    rw [M.out]
    go_wp2_with fail
    obtain ⟨E0, E1, E2, -, -, -⟩ := (((K2.out.set0 (.int .i64 0)).set1 (.int .i64 0)).set2 (.slice none 0 0)).all
    rw [E.out]
    exact bodyPost_ret (v := .tuple #[.agg #[.int .i64 0, .int .i64 0, .slice none 0 0], .bool false]) (by simp [results, Try.results24, go_sem, E0, E1, E2]) rfl ⟨_, rfl, .inl ⟨rfl, rfl⟩, ((B.out.setCell (by show w.heap.size ≤ w.heap.size + 1 + 1; omega) _).setCell (by show w.heap.size ≤ w.heap.size + 1 + 1; omega) _).setCell (by show w.heap.size ≤ w.heap.size + 1 + 1; omega) _⟩
end Go.Proofs.Ytncplikadacjnaa
end
