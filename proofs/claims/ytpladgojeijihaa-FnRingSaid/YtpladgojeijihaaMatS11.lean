/-
  Chapter 3, in the model: StackRows.
-/
import Derived.Test.YtpladgojeijihaaMatS10
import Derived.Test.YtpladgojeijihaaMatS8
import Derived.Test.YtpladgojeijihaaMem
import Derived.Deep.RegionHeld3
import Derived.Deep.DeepCutAuto
namespace Go.Proofs.Ytpladgojeijihaa
open Go.RowKit

theorem ownBlock_ge {w : World} {base n k : Nat} {e : TypeId} {size : Nat} {v : Value} {xs : List Value} (h : w.ownsRow base e size v n xs) (hk : v.ownBlock = some k) : base ≤ k := by
  rcases h.2 with ⟨rfl, -⟩ | ⟨g, cap, cur, rfl, hB, -⟩
  · cases hk
  · simp [Value.ownBlock] at hk; omega
theorem Own.far {B : Nat} {w : World} {v : Value} {zs : List Int} (h : Own B w v zs) {a : Addr} (ha : a.block < B) (u : Value) : Own B (w.setCell a u) v zs := by
  rcases h with h | ⟨g, cap, hv, hB, hi, hl, hc⟩
  · exact .inl h
  · exact .inr ⟨g, cap, hv, hB, hi.far (by omega) u, hl, hc⟩
def stackM (r c : Int) (xs : List Int) (r' c' : Int) (ys : List Int) : MR := if (isMat r c xs && isMat r' c' ys && decide (c = c') && decide (r + r' ≤ 24)) = true then ⟨true, r + r', c, xs ++ ys⟩ else MR.no
theorem sixG {W w' : World} {b c g : Nat} {t t' : TypeId} {p q r x y z : Value} (h0 : Blk3 W b t p q r) (h1 : Blk3 W c t' x y z) (hg : W.grownBy w' (some g)) (n0 : b ≠ g) (n1 : c ≠ g) :
    w'.cell? ⟨b, 0, none⟩ = some p ∧ w'.cell? ⟨b, 1, none⟩ = some q ∧ w'.cell? ⟨b, 2, none⟩ = some r ∧ w'.cell? ⟨c, 0, none⟩ = some x ∧ w'.cell? ⟨c, 1, none⟩ = some y ∧ w'.cell? ⟨c, 2, none⟩ = some z :=
  ⟨(h0.keepOne hg n0).cell0, (h0.keepOne hg n0).cell1, (h0.keepOne hg n0).cell2, (h1.keepOne hg n1).cell0, (h1.keepOne hg n1).cell1, (h1.keepOne hg n1).cell2⟩
theorem step_append {P : Program} {ops : Array Oper} {o : Oper} {a : Act} {w : World} {K : Act → World → Prop} {Q : Exit → Act → World → Prop} {E : Prop}
    (hg : o.guard = none) (s x : Operand) (t : TypeId) (hop : o.op = Op.call { callee := Callee.builtin Builtin.append, args := #[s, x], argTypes := #[t, t] }) (v1 v2 : Value) (hs : a.eval s = v1) (hx : a.eval x = v2) (v' : Value) (w' : World)
    (hr : (Builtin.append_ #[t, t] o.type #[v1, v2]).run P w = .ok v' w') (hK : K (a.put o.dst v') w') : if Region.wanted o (yielded ops a.tmps) = true then Oper.wp P o a w K Q else E := by
  have hw : Region.wanted o (yielded ops a.tmps) = true := by simp [Region.wanted, hg]
  rw [if_pos hw]
  unfold Oper.wp
  simp only [execOp, hop, resolve, invoke, builtin, Sem.run_bind, Sem.run_pure, Result.andThen_ok, List.map_toArray, List.map_cons, List.map_nil, hs, hx, hr]
  exact hK
/-- append of a slice that is read onto a slice of the call's own. -/
theorem appendInts (w : World) (base n m c : Nat) (v : Value) (xs ys : List Int) (ga oa : Nat) (hown : w.ownsRow base 3 1 v n (xs.map (Value.int .i64))) (h : Rd w (some ⟨ga, oa, none⟩) ys) (hy : ys.length = m) (hb : n + m ≤ 16777216) (hB : base ≤ w.heap.size) :
    ∃ v' w', (Builtin.append_ #[24, 24] 24 #[v, .slice (some ⟨ga, oa, none⟩) m c]).run Try.prog w = .ok v' w' ∧ w'.ownsRow base 3 1 v' (n + m) ((xs ++ ys).map (Value.int .i64)) ∧ w.grownBy w' v.ownBlock := by
  obtain ⟨fi, hfi, hz0, hz1, hz2⟩ := facts_int
  have news : ∀ (j : Nat) u, (ys.map (Value.int .i64))[j]? = some u → w.cell? ((⟨ga, oa, none⟩ : Addr).add j) = some u := by
    intro j u hu
    obtain ⟨hj, rfl⟩ := news_ints _ j u hu
    obtain ⟨b', o', e, hc⟩ := h j hj
    injection e with e
    injection e with e1 e2
    subst e1 e2
    rw [show (⟨ga, oa, none⟩ : Addr).add j = ⟨ga, oa + j, none⟩ by simp only [Addr.add]; split <;> simp_all]
    exact hc
  obtain ⟨v', w', hr, h2, h3, -, -⟩ := run_append_own_at (P := Try.prog) w base 24 24 3 fi (.int .i64 0) 1 8 underlying_ints hfi hz0 hz1 hz2 rfl (by decide) v n _ hown ⟨ga, oa, none⟩ m c (ys.map (Value.int .i64)) (by rw [List.length_map, hy, Nat.mul_one]) news
    (by intro u hu; obtain ⟨z, -, rfl⟩ := List.mem_map.mp hu; rfl) (by unfold maxLen; omega) (by omega) hB
  exact ⟨v', w', hr, by rw [List.map_append]; exact h2, h3⟩
set_option maxHeartbeats 1000000 in
theorem sStack_t (R R' C ga oa gb ob m n : Nat) (xs ys : List Int) (w : World) (h : Rd w (some ⟨ga, oa, none⟩) xs) (h' : Rd w (some ⟨gb, ob, none⟩) ys) (hm : isMat R C xs = true) (hm' : isMat R' C ys = true) (hr : R + R' ≤ 24) :
    Calls Try.prog 44 #[.agg #[.int .i64 R, .int .i64 C, .slice (some ⟨ga, oa, none⟩) xs.length m], .agg #[.int .i64 R', .int .i64 C, .slice (some ⟨gb, ob, none⟩) ys.length n]] w (MatRes ⟨true, (R : Int) + (R' : Int), C, xs ++ ys⟩ w) := by
  obtain ⟨-, ⟨c1, c2⟩, l1, nx⟩ := isMat_says hm
  obtain ⟨-, -, l2, ny⟩ := isMat_says hm'
  rw [← Int.natCast_mul] at l1 l2
  have q1 : R * C ≤ 24 * 24 := Nat.mul_le_mul (by omega) (by omega)
  have q2 : R' * C ≤ 24 * 24 := Nat.mul_le_mul (by omega) (by omega)
  obtain ⟨na, hx⟩ : ∃ n, xs.length = n := ⟨_, rfl⟩
  obtain ⟨nb, hy⟩ : ∃ n, ys.length = n := ⟨_, rfl⟩
  have la : na ≤ 576 := by omega
  have lb : nb ≤ 576 := by omega
  have HX := Lib.hid hx
  have HY := Lib.hid hy
  have M := Lib.hid hm
  have M' := Lib.hid hm'
  rw [hx, hy]
  have B0 : ∀ o1 o2 o3, Below w.heap.size w (((w.alloc o1).alloc o2).alloc o3) := fun o1 o2 o3 => (((Below.refl _ _).alloc (Nat.le_refl _) _).alloc (by simp) _).alloc (by simp <;> omega) _
  have BH := Lib.hid B0
  have H := Lib.hid h
  have H' := Lib.hid h'
  have t1 : decide ((24 : Int) < (R : Int) + (R' : Int)) = false := decide_eq_false (by omega)
  have t2 : decide ((R : Int) + (R' : Int) > 24) = false := decide_eq_false (by omega)
  have t3 : IntKind.i64.wrap ((R : Int) + (R' : Int)) = (R : Int) + (R' : Int) := IntWalk.i64_in _ (by omega)
  clear c1 c2 l1 l2 nx ny hm hm' hx hy h h' B0 q1 q2
  go_enter Try.func44, Try.ntmps44
  go_wp2_with fail
  have ST := sIsMat R C (some ⟨ga, oa, none⟩) m xs _ (H.out.below (BH.out (.cells #[.int .i64 R, .int .i64 C, .slice (some ⟨ga, oa, none⟩) na m] 26) (.cells #[.int .i64 R', .int .i64 C, .slice (some ⟨gb, ob, none⟩) nb n] 26) (.cells #[.int .i64 0, .int .i64 0, .slice none 0 0] 26))) (by rw [HX.out]; omega)
  rw [HX.out] at ST
  refine ST.mono ?_
  clear ST
  rintro e w1 ⟨rfl, hb⟩
  have K0 : Hid (Blk3 w1 w.heap.size 26 (.int .i64 R) (.int .i64 C) (.slice (some ⟨ga, oa, none⟩) na m)) := (((Blk3.at_ _ _ _ _ rfl).old _).old _).keep hb (by simp <;> omega)
  have K1 : Hid (Blk3 w1 (w.heap.size + 1) 26 (.int .i64 R') (.int .i64 C) (.slice (some ⟨gb, ob, none⟩) nb n)) := ((Blk3.at_ _ _ _ _ (by simp)).old _).keep hb (by simp <;> omega)
  have K2 : Hid (Blk3 w1 (w.heap.size + 1 + 1) 26 (.int .i64 0) (.int .i64 0) (.slice none 0 0)) := (Blk3.at_ _ _ _ _ (by simp)).keep hb (by simp)
  have B : Hid (Below w.heap.size w w1) := (BH.out _ _ _).trans (hb.mono (by simp <;> omega))
  clear hb
  obtain ⟨c0, c1, c2, -, -, -⟩ := K0.out.all
  obtain ⟨d0, d1, d2, -, -, -⟩ := K1.out.all
  rw [M.out]
  go_wp2_with fail
  have ST := sIsMat R' C (some ⟨gb, ob, none⟩) n ys _ (H'.out.below B.out) (by rw [HY.out]; omega)
  rw [HY.out] at ST
  refine ST.mono ?_
  clear ST
  rintro e w2 ⟨rfl, hb⟩
  have K0 := Lib.hid (K0.out.step hb)
  have K1 := Lib.hid (K1.out.step hb)
  have K2 := Lib.hid (K2.out.step hb)
  have B := Lib.hid (stepB B.out hb)
  clear hb
  obtain ⟨e0, e1, e2, -, -, -⟩ := K0.out.all
  obtain ⟨g0, g1, g2, -, -, -⟩ := K1.out.all
  rw [M'.out]
  go_upto_region 3 with fail
  refine wp_region_held_drew (S := fun w' => w2.grownBy w' (some (w.heap.size + 1 + 1))) (by kernel_rfl) (grown_drew_one (World.grownBy.refl _ _)) (fun hH => ?_)
  refine wpAnyH_take (i := 0) (v := ?_) (by simp only [List.getElem?_toArray, List.getElem?_cons_zero]; rfl) (by kernel_rfl) (by kernel_rfl) (by kernel_rfl) (by exact fun _ _ _ h => h) (Or.inl ⟨by rfl, ?_⟩) hH ?_
  rotate_left
  · (intro wS hS; clear hS; go_simp; try rfl)
  try simp only [Act.put, List.setIfInBounds_toArray, List.set_cons_zero, List.set_cons_succ]
  refine wpAnyH_take (i := 1) (v := ?_) (by simp only [List.getElem?_toArray, List.getElem?_cons_succ, List.getElem?_cons_zero]; rfl) (by kernel_rfl) (by kernel_rfl) (by kernel_rfl) (by exact fun _ _ _ h => h) (Or.inl ⟨by rfl, ?_⟩) hH ?_
  rotate_left
  · (intro wS hS; (try dsimp only at hS); obtain ⟨k1, k2, k3, k4, k5, k6⟩ := sixG K0.out K1.out hS (g := w.heap.size + 1 + 1) (by omega) (by omega); go_simp; try rfl)
  try simp only [Act.put, List.setIfInBounds_toArray, List.set_cons_zero, List.set_cons_succ]
  refine wpAnyH_take (i := 2) (v := ?_) (by simp only [List.getElem?_toArray, List.getElem?_cons_succ, List.getElem?_cons_zero]; rfl) (by kernel_rfl) (by kernel_rfl) (by kernel_rfl) (by exact fun _ _ _ h => h) (Or.inl ⟨by rfl, ?_⟩) hH ?_
  rotate_left
  · (intro wS hS; clear hS; go_simp; try rfl)
  try simp only [Act.put, List.setIfInBounds_toArray, List.set_cons_zero, List.set_cons_succ]
  refine wpAnyH_take (i := 3) (v := ?_) (by simp only [List.getElem?_toArray, List.getElem?_cons_succ, List.getElem?_cons_zero]; rfl) (by kernel_rfl) (by kernel_rfl) (by kernel_rfl) (by exact fun _ _ _ h => h) (Or.inl ⟨by rfl, ?_⟩) hH ?_
  rotate_left
  · (intro wS hS; (try dsimp only at hS); obtain ⟨k1, k2, k3, k4, k5, k6⟩ := sixG K0.out K1.out hS (g := w.heap.size + 1 + 1) (by omega) (by omega); go_simp; try rfl)
  try simp only [Act.put, List.setIfInBounds_toArray, List.set_cons_zero, List.set_cons_succ]
  refine wpAnyH_take (i := 4) (v := ?_) (by simp only [List.getElem?_toArray, List.getElem?_cons_succ, List.getElem?_cons_zero]; rfl) (by kernel_rfl) (by kernel_rfl) (by kernel_rfl) (by exact fun _ _ _ h => h) (Or.inl ⟨by rfl, ?_⟩) hH ?_
  rotate_left
  · (intro wS hS; clear hS; go_simp; try rfl)
  try simp only [Act.put, List.setIfInBounds_toArray, List.set_cons_zero, List.set_cons_succ]
  refine wpAnyH_take (i := 5) (v := ?_) (by simp only [List.getElem?_toArray, List.getElem?_cons_succ, List.getElem?_cons_zero]; rfl) (by kernel_rfl) (by kernel_rfl) (by kernel_rfl) (by exact fun _ _ _ h => h) (Or.inl ⟨by rfl, ?_⟩) hH ?_
  rotate_left
  · (intro wS hS; clear hS; go_simp; try rfl)
  try simp only [Act.put, List.setIfInBounds_toArray, List.set_cons_zero, List.set_cons_succ]
  refine wpAnyH_take (i := 6) (v := ?_) (by simp only [List.getElem?_toArray, List.getElem?_cons_succ, List.getElem?_cons_zero]; rfl) (by kernel_rfl) (by kernel_rfl) (by kernel_rfl) (by exact fun _ _ _ h => h) (Or.inl ⟨by rfl, ?_⟩) hH ?_
  rotate_left
  · (intro wS hS; (try dsimp only at hS); obtain ⟨k1, k2, k3, k4, k5, k6⟩ := sixG K0.out K1.out hS (g := w.heap.size + 1 + 1) (by omega) (by omega); go_simp; try rfl)
  try simp only [Act.put, List.setIfInBounds_toArray, List.set_cons_zero, List.set_cons_succ]
  refine wpAnyH_take (i := 8) (v := ?_) (by simp only [List.getElem?_toArray, List.getElem?_cons_succ, List.getElem?_cons_zero]; rfl) (by kernel_rfl) (by kernel_rfl) (by kernel_rfl) (by exact fun _ _ _ h => h) (Or.inl ⟨by rfl, ?_⟩) hH ?_
  rotate_left
  · (intro wS hS; clear hS; go_simp; try rfl)
  try simp only [Act.put, List.setIfInBounds_toArray, List.set_cons_zero, List.set_cons_succ]
  refine wpAnyH_take (i := 9) (v := ?_) (by simp only [List.getElem?_toArray, List.getElem?_cons_succ, List.getElem?_cons_zero]; rfl) (by kernel_rfl) (by kernel_rfl) (by kernel_rfl) (by exact fun _ _ _ h => h) (Or.inl ⟨by rfl, ?_⟩) hH ?_
  rotate_left
  · (intro wS hS; (try dsimp only at hS); obtain ⟨k1, k2, k3, k4, k5, k6⟩ := sixG K0.out K1.out hS (g := w.heap.size + 1 + 1) (by omega) (by omega); go_simp; try rfl)
  try simp only [Act.put, List.setIfInBounds_toArray, List.set_cons_zero, List.set_cons_succ]
  refine wpAnyH_take (i := 11) (v := ?_) (by simp only [List.getElem?_toArray, List.getElem?_cons_succ, List.getElem?_cons_zero]; rfl) (by kernel_rfl) (by kernel_rfl) (by kernel_rfl) (by exact fun _ _ _ h => h) (Or.inl ⟨by rfl, ?_⟩) hH ?_
  rotate_left
  · (intro wS hS; clear hS; go_simp; try rfl)
  try simp only [Act.put, List.setIfInBounds_toArray, List.set_cons_zero, List.set_cons_succ]
  refine wpAnyH_take (i := 12) (v := ?_) (by simp only [List.getElem?_toArray, List.getElem?_cons_succ, List.getElem?_cons_zero]; rfl) (by kernel_rfl) (by kernel_rfl) (by kernel_rfl) (by exact fun _ _ _ h => h) (Or.inl ⟨by rfl, ?_⟩) hH ?_
  rotate_left
  · (intro wS hS; (try dsimp only at hS); obtain ⟨k1, k2, k3, k4, k5, k6⟩ := sixG K0.out K1.out hS (g := w.heap.size + 1 + 1) (by omega) (by omega); go_simp; try rfl)
  try simp only [Act.put, List.setIfInBounds_toArray, List.set_cons_zero, List.set_cons_succ]
  refine wpAnyH_ready (rs := [7]) (by kernel_rfl) (by simp) ?_
  refine AllReadyH.cons (by simp only [List.getElem?_toArray, List.getElem?_cons_succ, List.getElem?_cons_zero]; rfl) (fun KK hKK => ?_) AllReadyH.nil
  go_simp
  try dsimp only
  refine hKK.out _ _ ?_ (fun hH2 => ?_)
  · exact grown_drew_one (World.grownBy_alloc _ _ _)
  clear hKK KK
  have hO := hH
  clear hH
  have hH := hH2
  clear hH2
  try simp only [Act.put, List.setIfInBounds_toArray, List.set_cons_zero, List.set_cons_succ]
  have own0 : ((w2.alloc (.cells #[] 3)).drew).ownsRow w2.heap.size 3 1 (.slice (some ⟨w2.heap.size, 0, none⟩) 0 0) 0 (([] : List Int).map (Value.int .i64)) := ⟨rfl, .inr ⟨w2.heap.size, 0, #[], rfl, Nat.le_refl _, heap_alloc_new w2 _, Nat.le_refl _, by decide, rfl, rfl⟩⟩
  have BA : Hid (Below w2.heap.size w2 ((w2.alloc (.cells #[] 3)).drew)) := ((Below.refl _ _).alloc (Nat.le_refl _) _).drew
  obtain ⟨v1, wa, hr1, ho1, hg1⟩ := appendInts _ w2.heap.size 0 na m _ [] xs ga oa own0 (H.out.below (B.out.trans (BA.out.mono B.out.size))) HX.out (by omega) BA.out.size
  refine wpAnyH_ready (rs := [10]) (by kernel_rfl) (by simp) ?_
  refine AllReadyH.cons (by simp only [List.getElem?_toArray, List.getElem?_cons_succ, List.getElem?_cons_zero]; rfl) (fun KK hKK => ?_) AllReadyH.nil
  refine step_append rfl _ _ 24 rfl _ _ rfl rfl _ _ hr1 ?_
  have BA1 : Hid (Below w2.heap.size w2 wa) := BA.out.grown hg1 BA.out.size (fun k hk => ownBlock_ge own0 hk)
  try dsimp only
  refine hKK.out _ _ ?_ (fun hH2 => ?_)
  · exact grown_of_below BA1.out _
  clear hKK KK
  have hO := hH
  clear hH
  have hH := hH2
  clear hH2
  try simp only [Act.put, List.setIfInBounds_toArray, List.set_cons_zero, List.set_cons_succ]
  obtain ⟨v2, wb, hr2, ho2, hg2⟩ := appendInts _ w2.heap.size (0 + na) nb n _ ([] ++ xs) ys gb ob ho1 (H'.out.below (B.out.trans (BA1.out.mono B.out.size))) HY.out (by omega) BA1.out.size
  refine wpAnyH_ready (rs := [13]) (by kernel_rfl) (by simp) ?_
  refine AllReadyH.cons (by simp only [List.getElem?_toArray, List.getElem?_cons_succ, List.getElem?_cons_zero]; rfl) (fun KK hKK => ?_) AllReadyH.nil
  refine step_append rfl _ _ 24 rfl _ _ rfl rfl _ _ hr2 ?_
  have BA2 : Hid (Below w2.heap.size w2 wb) := BA1.out.grown hg2 BA1.out.size (fun k hk => ownBlock_ge ho1 hk)
  try dsimp only
  refine hKK.out _ _ ?_ (fun hH2 => ?_)
  · exact grown_of_below BA2.out _
  clear hKK KK
  have hO := hH
  clear hH
  have hH := hH2
  clear hH2
  try simp only [Act.put, List.setIfInBounds_toArray, List.set_cons_zero, List.set_cons_succ]
  have O2 : Hid (Own w2.heap.size wb v2 (xs ++ ys)) := Own.of_row (by rw [List.length_append, HX.out, HY.out, ← Nat.zero_add na]; exact ho2) (by rw [List.length_append, HX.out, HY.out]; omega)
  obtain ⟨q2, qc2, rfl, -, -⟩ := O2.out.form
  refine wpAnyH_take (i := 14) (v := ?_) (by simp only [List.getElem?_toArray, List.getElem?_cons_succ, List.getElem?_cons_zero]; rfl) (by kernel_rfl) (by kernel_rfl) (by kernel_rfl) (by exact fun _ _ _ h => h) (Or.inl ⟨by rfl, ?_⟩) hH ?_
  rotate_left
  · (intro wS hS; clear hS; go_simp; try rfl)
  try simp only [Act.put, List.setIfInBounds_toArray, List.set_cons_zero, List.set_cons_succ]
  have lK2 := K2.out.lt
  have R2 := Lib.hid (K2.out.step BA2.out)
  obtain ⟨s0, s1, s2, f0, f1, f2⟩ := R2.out.all
  have gs : ∀ x y z, w2.grownBy (((wb.setCell ⟨w.heap.size + 1 + 1, 0, none⟩ x).setCell ⟨w.heap.size + 1 + 1, 1, none⟩ y).setCell ⟨w.heap.size + 1 + 1, 2, none⟩ z) (some (w.heap.size + 1 + 1)) := fun x y z => grown_set_one (a := ⟨w.heap.size + 1 + 1, 2, none⟩) (grown_set_one (a := ⟨w.heap.size + 1 + 1, 1, none⟩) (grown_set_one (a := ⟨w.heap.size + 1 + 1, 0, none⟩) (grown_of_below BA2.out _) rfl _) rfl _) rfl _
  have GS := Lib.hid gs
  clear gs
  refine wpAnyH_ready (rs := [15]) (by kernel_rfl) (by simp) ?_
  refine AllReadyH.cons (by simp only [List.getElem?_toArray, List.getElem?_cons_succ, List.getElem?_cons_zero]; rfl) (fun KK hKK => ?_) AllReadyH.nil
  go_simp
  try dsimp only
  refine hKK.out _ _ ?_ (fun hH2 => ?_)
  · exact GS.out _ _ _
  clear hKK KK
  have hO := hH
  clear hH
  have hH := hH2
  clear hH2
  try simp only [Act.put, List.setIfInBounds_toArray, List.set_cons_zero, List.set_cons_succ]
  refine wpAnyH_take (i := 16) (v := ?_) (by simp only [List.getElem?_toArray, List.getElem?_cons_succ, List.getElem?_cons_zero]; rfl) (by kernel_rfl) (by kernel_rfl) (by kernel_rfl) (by exact fun _ _ _ h => h) (Or.inl ⟨by rfl, ?_⟩) hH ?_
  rotate_left
  · (intro wS hS; clear hS; go_simp; try rfl)
  try simp only [Act.put, List.setIfInBounds_toArray, List.set_cons_zero, List.set_cons_succ]
  refine wpAnyH_done (by kernel_rfl) ?_ _
  go_wp2_with fail
  have EL : (xs ++ ys).length = xs.length + ys.length := List.length_append
  rw [EL] at O2
  have B2 := Lib.hid (stepB B.out BA2.out)
  have zz := B.out.size
  obtain ⟨E0, E1, E2, -, -, -⟩ := (((R2.out.set0 (.int .i64 ((R : Int) + (R' : Int)))).set1 (.int .i64 C)).set2 (.slice q2 (xs.length + ys.length) qc2)).all
  refine bodyPost_ret (v := .tuple #[.agg #[.int .i64 ((R : Int) + (R' : Int)), .int .i64 C, .slice q2 (xs.length + ys.length) qc2], .bool true]) (by simp [results, Try.results44, go_sem, E0, E1, E2]) rfl ⟨_, rfl, ?_, ?_⟩
  · exact (((O2.out.far (by exact lK2) _).far (by exact lK2) _).far (by exact lK2) _).le zz
  · exact (((B2.out.setCell (by show w.heap.size ≤ w.heap.size + 1 + 1; omega) _).setCell (by show w.heap.size ≤ w.heap.size + 1 + 1; omega) _).setCell (by show w.heap.size ≤ w.heap.size + 1 + 1; omega) _)
end Go.Proofs.Ytpladgojeijihaa
