/-
  The laws' own helpers for operations on rows.
-/
import Derived.Test.YtiggioccmlbhhaaRo
import Derived.Test.YtiggioccmlbhhaaLawInts
import Derived.Deep.RegionHeld3
import Derived.Deep.DeepCutAuto
namespace Go.Proofs.Ytiggioccmlbhhaa
open Go.RowKit

theorem stepB' {B : Nat} {w w1 w2 : World} (h : Below B w w1) (hb : Below w1.heap.size w1 w2) (hB : B ≤ w1.heap.size) : Below B w w2 := h.trans (hb.mono hB)
theorem toRo (u : Ro) (w : World) : Calls Try.prog 28 #[.agg #[.int .i64 u.k, .int .i64 u.i, .int .i64 u.j, .int .i64 u.t]] w (Gives (.agg #[.int .i64 u.k, .int .i64 u.i, .int .i64 u.j, .int .i64 u.t]) w) := by
  have BB : ∀ o p, Below w.heap.size w ((w.alloc o).alloc p) := fun o p => ((Below.refl _ _).alloc (Nat.le_refl _) _).alloc (by simp) _
  have B3 : ∀ o p q, Below w.heap.size w (((w.alloc o).alloc p).alloc q) := fun o p q => (BB o p).alloc (BB o p).size _
  go_enter Try.func28, Try.ntmps28
  go_wp2_with fail
  exact bodyPost_ret (v := .agg #[.int .i64 u.k, .int .i64 u.i, .int .i64 u.j, .int .i64 u.t]) (by simp [results, Try.results28, go_sem]) rfl ⟨rfl, B3 _ _ _⟩
theorem eqRo (u : Ro) (w : World) : Calls Try.prog 34 #[.agg #[.int .i64 u.k, .int .i64 u.i, .int .i64 u.j, .int .i64 u.t], .agg #[.int .i64 u.k, .int .i64 u.i, .int .i64 u.j, .int .i64 u.t]] w (Gives (.bool true) w) := by
  have BB : ∀ o p, Below w.heap.size w ((w.alloc o).alloc p) := fun o p => ((Below.refl _ _).alloc (Nat.le_refl _) _).alloc (by simp) _
  go_enter Try.func34, Try.ntmps34
  go_wp2_with fail
  go_ret
  exact ⟨rfl, BB _ _⟩
theorem szO (a : Option Addr) (n cap : Nat) (l : Int) (w : World) (hn : (n : Int) ≤ l) (hl : l ≤ 1048576) :
    Calls Try.prog 37 #[.slice a n cap, .int .i64 l] w (Gives (.int .i64 (l - n)) w) := by
  go_enter Try.func37, Try.ntmps37
  go_wp2_with fail
  go_ret
  exact ⟨rfl, Below.refl _ _⟩
theorem szO_f (a : Option Addr) (n cap : Nat) (l : Int) (w : World) (hn : l < (n : Int)) (h0 : 0 ≤ l) (hm : n ≤ 9223372036854775807) :
    Calls Try.prog 37 #[.slice a n cap, .int .i64 l] w (Gives (.int .i64 (-1)) w) := by
  go_enter Try.func37, Try.ntmps37
  go_wp2_with fail
  go_ret
  exact ⟨rfl, Below.refl _ _⟩
theorem makeOps (n : Nat) (h : n ≤ 4194304) (w : World) : (Instr.makeSlice 55 (.int .i64 (n : Int)) (.int .i64 (n : Int))).run Try.prog w = .ok (.slice (some ⟨w.heap.size, 0, none⟩) n n) (w.alloc (.cells (madeCells #[.int .i64 0, .int .i64 0, .int .i64 0, .int .i64 0] (n * 4)) 43)) := by
  obtain ⟨fi, hfi, hz0, hz1, hz2⟩ := facts_op
  have := run_makeSlice (P := Try.prog) (w := w) 55 43 fi _ underlying_ops hfi hz0 .i64 .i64 (n : Int) (n : Int) (by omega) (by omega) (by rw [hz1]; omega) (by rw [hz2]; omega) (by omega)
  rw [hz1] at this
  simpa [Value.cells] using this
theorem set_stepO (l : List Ro) (k : Nat) (hk : k < l.length) : (l.take k ++ List.replicate (l.length - k) Ro.zero).set k (l.getD k Ro.zero) = l.take (k + 1) ++ List.replicate (l.length - (k + 1)) Ro.zero := by
  apply List.ext_getElem (by simp; omega)
  intro i h1 h2
  simp only [List.getElem_set, List.getElem_append, List.length_take, List.getElem_take, List.getElem_replicate]
  by_cases e : k = i
  · subst e
    rw [if_pos rfl, dif_pos (by omega)]
    simp [List.getD, hk]
  · rw [if_neg e]
    by_cases e2 : i < k
    · rw [dif_pos (by omega), dif_pos (by omega)]
    · rw [dif_neg (by omega), dif_neg (by omega)]
theorem mid_zeroO (l : List Ro) (m k : Nat) (hk : k ≤ l.length) : (l.take k ++ List.replicate m Ro.zero).getD k Ro.zero = Ro.zero := by
  unfold List.getD
  rw [List.getElem?_append_right (by simp <;> omega)]
  simp only [List.length_take, List.getElem?_replicate]
  split <;> rfl
set_option maxRecDepth 100000 in
set_option maxHeartbeats 4000000 in
theorem toOS (a : Option Addr) (cap : Nat) (l : List Ro) (w : World) (h : RdO w a l) (hn : l.length ≤ 1048576) :
    Calls Try.prog 39 #[.slice a l.length cap] w fun e w' => e = .returned (.slice (some ⟨w.heap.size, 0, none⟩) l.length l.length) ∧ OpsB w' w.heap.size l ∧ Below w.heap.size w w' := by
  have hmk := makeOps l.length (by omega)
  have H := Lib.hid h
  clear h
  obtain ⟨n, hnn⟩ : ∃ n, l.length = n := ⟨_, rfl⟩
  rw [hnn] at hn hmk ⊢
  have HN := Lib.hid hnn
  clear hnn
  go_enter Try.func39, Try.ntmps39
  go_wp2_with fail
  go_loopw [4] (fun i wr => ∃ k : Nat, i = .int .i64 k ∧ k ≤ n ∧ OpsB wr w.heap.size (l.take k ++ List.replicate (n - k) Ro.zero) ∧ Below w.heap.size w wr) (fun i _ => n - (intOf i).toNat)
  case atStart => exact ⟨0, rfl, by omega, by simpa using OpsB.made n rfl, (Below.refl _ _).alloc (Nat.le_refl _) _⟩
  case round =>
    obtain ⟨k, rfl, hk, hi, hb⟩ := hrel
    have I := Lib.hid hi
    have B := Lib.hid hb
    clear hi hb
    by_cases hlt : k < n
    · have HQ : Hid (k < l.length) := by show k < l.length; rw [HN.out]; exact hlt
      obtain ⟨b2, o2, rfl, hlt2, c0, c1, c2, c3⟩ := (H.out.below B.out) k HQ.out
      have KL : Hid (k < (l.take k ++ List.replicate (n - k) Ro.zero).length) := by show k < _; have := HQ.out; simp; omega
      obtain ⟨u, hu⟩ : ∃ u, l.getD k Ro.zero = u := ⟨_, rfl⟩
      rw [hu] at c0 c1 c2 c3
      have ST : Hid ((l.take k ++ List.replicate (n - k) Ro.zero).set k u = l.take (k + 1) ++ List.replicate (n - (k + 1)) Ro.zero) := by
        have S := set_stepO l k HQ.out
        rw [HN.out, hu] at S
        exact S
      clear hu
      go_wp2_with (go_at_call 28; refine (toRo u _).mono ?_; rintro e w1 ⟨rfl, hb1⟩; have I1 := Lib.hid (I.out.keep hb1 I.out.lt); have B1 := Lib.hid (stepB' B.out hb1 B.out.size); obtain ⟨d0, d1, d2, d3⟩ := I1.out.cells KL.out; have f0 := I1.out.free (k * 4); have f1 := I1.out.free (k * 4 + 1); have f2 := I1.out.free (k * 4 + 2); have f3 := I1.out.free (k * 4 + 3); clear hb1)
      go_roundw
      case rel =>
        refine ⟨k + 1, by go_num, by omega, ?_, ?_⟩
        · rw [← ST.out]
          exact I1.out.set KL.out u
        · exact (((B1.out.setCell (Nat.le_refl _) _).setCell (Nat.le_refl _) _).setCell (Nat.le_refl _) _).setCell (Nat.le_refl _) _
      case measure => simp [intOf]; omega
    · have hkn : k = n := by omega
      subst hkn
      have e : l.take k ++ List.replicate (k - k) Ro.zero = l := by rw [← HN.out]; simp
      go_wp2_with fail
      go_ret
      exact ⟨rfl, by rw [← e]; exact I.out, B.out⟩
theorem opsF2 {w w' : World} {b2 o2 b3 o3 q : Nat} {l : List Ro} {u : Ro} (h : RdO w (some ⟨b2, o2, none⟩) l) (h' : RdO w (some ⟨b3, o3, none⟩) l) (hq : q < l.length) (hu : l.getD q Ro.zero = u) (hb : Below w.heap.size w w') :
    w'.cell? ⟨b2, o2 + q * 4, none⟩ = some (.int .i64 u.k) ∧ w'.cell? ⟨b2, o2 + q * 4 + 1, none⟩ = some (.int .i64 u.i) ∧ w'.cell? ⟨b2, o2 + q * 4 + 2, none⟩ = some (.int .i64 u.j) ∧ w'.cell? ⟨b2, o2 + q * 4 + 3, none⟩ = some (.int .i64 u.t) ∧ w'.cell? ⟨b3, o3 + q * 4, none⟩ = some (.int .i64 u.k) ∧ w'.cell? ⟨b3, o3 + q * 4 + 1, none⟩ = some (.int .i64 u.i) ∧ w'.cell? ⟨b3, o3 + q * 4 + 2, none⟩ = some (.int .i64 u.j) ∧ w'.cell? ⟨b3, o3 + q * 4 + 3, none⟩ = some (.int .i64 u.t) := by
  subst hu
  obtain ⟨b4, o4, e, -, h0, h1, h2, h3⟩ := (h.below hb) q hq
  simp only [Option.some.injEq, Addr.mk.injEq] at e
  obtain ⟨rfl, rfl, -⟩ := e
  obtain ⟨b4, o4, e, -, k0, k1, k2, k3⟩ := (h'.below hb) q hq
  simp only [Option.some.injEq, Addr.mk.injEq] at e
  obtain ⟨rfl, rfl, -⟩ := e
  exact ⟨h0, h1, h2, h3, k0, k1, k2, k3⟩
set_option maxRecDepth 100000 in
set_option maxHeartbeats 4000000 in
theorem eqOS (a b : Option Addr) (c d : Nat) (l : List Ro) (w : World) (h : RdO w a l) (h' : RdO w b l) (hn : l.length ≤ 16777216) :
    Calls Try.prog 41 #[.slice a l.length c, .slice b l.length d] w (Gives (.bool true) w) := by
  have H := Lib.hid h
  have H' := Lib.hid h'
  clear h h'
  obtain ⟨n, hnn⟩ : ∃ n, l.length = n := ⟨_, rfl⟩
  rw [hnn] at hn ⊢
  have HN := Lib.hid hnn
  clear hnn
  go_enter Try.func41, Try.ntmps41
  go_wp2_with fail
  go_loopw [5] (fun i wr => ∃ k : Nat, i = .int .i64 k ∧ k ≤ n ∧ Below w.heap.size w wr) (fun i _ => n - (intOf i).toNat)
  case atStart => exact ⟨0, rfl, by omega, Below.refl _ _⟩
  case round =>
    obtain ⟨k, rfl, hk, hb⟩ := hrel
    have B := Lib.hid hb
    clear hb
    by_cases hlt : k < n
    · have HQ : Hid (k < l.length) := by show k < l.length; rw [HN.out]; exact hlt
      obtain ⟨b2, o2, rfl, -, -⟩ := H.out k HQ.out
      obtain ⟨b3, o3, rfl, -, -⟩ := H'.out k HQ.out
      have R2 := Lib.hid (H.out.below B.out)
      have R3 := Lib.hid (H'.out.below B.out)
      obtain ⟨u, hu⟩ : ∃ u, l.getD k Ro.zero = u := ⟨_, rfl⟩
      have HU := Lib.hid hu
      clear hu
      go_upto_region 6 with fail
      refine wp_region_held_drew (S := fun w' => Below wr.heap.size wr w') (by kernel_rfl) (Below.refl _ _).drew (fun hH => ?_)
      refine wpAnyH_take (i := 0) (v := ?_) (by simp only [List.getElem?_toArray, List.getElem?_cons_zero]; rfl) (by kernel_rfl) (by kernel_rfl) (by kernel_rfl) (by exact fun _ _ _ h => h) (Or.inl ⟨by rfl, ?_⟩) hH ?_
      rotate_left
      · (intro wS hS; clear hS; go_simp; try rfl)
      try simp only [Act.put, List.setIfInBounds_toArray, List.set_cons_zero, List.set_cons_succ]
      refine wpAnyH_take (i := 1) (v := ?_) (by simp only [List.getElem?_toArray, List.getElem?_cons_succ, List.getElem?_cons_zero]; rfl) (by kernel_rfl) (by kernel_rfl) (by kernel_rfl) (by exact fun _ _ _ h => h) (Or.inl ⟨by rfl, ?_⟩) hH ?_
      rotate_left
      · (intro wS hS; clear hS; go_simp; try rfl)
      try simp only [Act.put, List.setIfInBounds_toArray, List.set_cons_zero, List.set_cons_succ]
      refine wpAnyH_take (i := 2) (v := ?_) (by simp only [List.getElem?_toArray, List.getElem?_cons_succ, List.getElem?_cons_zero]; rfl) (by kernel_rfl) (by kernel_rfl) (by kernel_rfl) (by exact fun _ _ _ h => h) (Or.inl ⟨by rfl, ?_⟩) hH ?_
      rotate_left
      · (intro wS hS; clear hS; go_simp; try rfl)
      try simp only [Act.put, List.setIfInBounds_toArray, List.set_cons_zero, List.set_cons_succ]
      refine wpAnyH_take (i := 3) (v := ?_) (by simp only [List.getElem?_toArray, List.getElem?_cons_succ, List.getElem?_cons_zero]; rfl) (by kernel_rfl) (by kernel_rfl) (by kernel_rfl) (by exact fun _ _ _ h => h) (Or.inl ⟨by rfl, ?_⟩) hH ?_
      rotate_left
      · (intro wS hS; (try dsimp only at hS); obtain ⟨k1, k2, k3, k4, k5, k6, k7, k8⟩ := opsF2 R2.out R3.out HQ.out HU.out hS; go_simp; try rfl)
      try simp only [Act.put, List.setIfInBounds_toArray, List.set_cons_zero, List.set_cons_succ]
      refine wpAnyH_take (i := 4) (v := ?_) (by simp only [List.getElem?_toArray, List.getElem?_cons_succ, List.getElem?_cons_zero]; rfl) (by kernel_rfl) (by kernel_rfl) (by kernel_rfl) (by exact fun _ _ _ h => h) (Or.inl ⟨by rfl, ?_⟩) hH ?_
      rotate_left
      · (intro wS hS; clear hS; go_simp; try rfl)
      try simp only [Act.put, List.setIfInBounds_toArray, List.set_cons_zero, List.set_cons_succ]
      refine wpAnyH_take (i := 5) (v := ?_) (by simp only [List.getElem?_toArray, List.getElem?_cons_succ, List.getElem?_cons_zero]; rfl) (by kernel_rfl) (by kernel_rfl) (by kernel_rfl) (by exact fun _ _ _ h => h) (Or.inl ⟨by rfl, ?_⟩) hH ?_
      rotate_left
      · (intro wS hS; clear hS; go_simp; try rfl)
      try simp only [Act.put, List.setIfInBounds_toArray, List.set_cons_zero, List.set_cons_succ]
      refine wpAnyH_take (i := 6) (v := ?_) (by simp only [List.getElem?_toArray, List.getElem?_cons_succ, List.getElem?_cons_zero]; rfl) (by kernel_rfl) (by kernel_rfl) (by kernel_rfl) (by exact fun _ _ _ h => h) (Or.inl ⟨by rfl, ?_⟩) hH ?_
      rotate_left
      · (intro wS hS; clear hS; go_simp; try rfl)
      try simp only [Act.put, List.setIfInBounds_toArray, List.set_cons_zero, List.set_cons_succ]
      refine wpAnyH_take (i := 7) (v := ?_) (by simp only [List.getElem?_toArray, List.getElem?_cons_succ, List.getElem?_cons_zero]; rfl) (by kernel_rfl) (by kernel_rfl) (by kernel_rfl) (by exact fun _ _ _ h => h) (Or.inl ⟨by rfl, ?_⟩) hH ?_
      rotate_left
      · (intro wS hS; (try dsimp only at hS); obtain ⟨k1, k2, k3, k4, k5, k6, k7, k8⟩ := opsF2 R2.out R3.out HQ.out HU.out hS; go_simp; try rfl)
      try simp only [Act.put, List.setIfInBounds_toArray, List.set_cons_zero, List.set_cons_succ]
      refine wpAnyH_ready (rs := [8]) (by kernel_rfl) (by simp) ?_
      refine AllReadyH.cons (by simp only [List.getElem?_toArray, List.getElem?_cons_succ, List.getElem?_cons_zero]; rfl) (fun K hK => ?_) AllReadyH.nil
      go_simp
      (with_reducible refine (eqRo u _).mono ?_)
      rintro e v1 ⟨rfl, hb1⟩
      try dsimp only
      refine hK.out _ _ ?_ (fun hH2 => ?_)
      · exact hH.trans (hb1.mono hH.size)
      clear hK K hH
      have hH := hH2
      clear hH2
      try simp only [Act.put, List.setIfInBounds_toArray, List.set_cons_zero, List.set_cons_succ]
      refine wpAnyH_take (i := 9) (v := ?_) (by simp only [List.getElem?_toArray, List.getElem?_cons_succ, List.getElem?_cons_zero]; rfl) (by kernel_rfl) (by kernel_rfl) (by kernel_rfl) (by exact fun _ _ _ h => h) (Or.inl ⟨by rfl, ?_⟩) hH ?_
      rotate_left
      · (intro wS hS; clear hS; go_simp; try rfl)
      try simp only [Act.put, List.setIfInBounds_toArray, List.set_cons_zero, List.set_cons_succ]
      refine wpAnyH_done (by kernel_rfl) ?_ _
      go_wp2_with fail
      go_roundw
      case rel => exact ⟨k + 1, by go_num, by omega, B.out.trans (hH.mono B.out.size)⟩
      case measure => simp [intOf]; omega
    · have hkn : k = n := by omega
      subst hkn
      go_wp2_with fail
      go_ret
      exact ⟨rfl, B.out⟩
/-! ### Marks -/
def marksO (c : Int) (n : Nat) : List Ro := (List.range n).map fun (q : Nat) => ⟨c + 4 * (q : Int), c + 4 * (q : Int) + 1, c + 4 * (q : Int) + 1 + 1, c + 4 * (q : Int) + 1 + 1 + 1⟩
theorem marksO_length (c : Int) (n : Nat) : (marksO c n).length = n := by simp [marksO]
theorem marksO_getD (c : Int) (n q : Nat) (h : q < n) : (marksO c n).getD q Ro.zero = ⟨c + 4 * (q : Int), c + 4 * (q : Int) + 1, c + 4 * (q : Int) + 1 + 1, c + 4 * (q : Int) + 1 + 1 + 1⟩ := by simp [marksO, List.getD, h]
theorem markO_step (l : List Ro) (c : Int) (q : Nat) (hq : q < l.length) : (marksO c q ++ l.drop q).set q ⟨c + 4 * (q : Int), c + 4 * (q : Int) + 1, c + 4 * (q : Int) + 1 + 1, c + 4 * (q : Int) + 1 + 1 + 1⟩ = marksO c (q + 1) ++ l.drop (q + 1) := by
  have e : marksO c (q + 1) = marksO c q ++ [⟨c + 4 * (q : Int), c + 4 * (q : Int) + 1, c + 4 * (q : Int) + 1 + 1, c + 4 * (q : Int) + 1 + 1 + 1⟩] := by simp [marksO, List.range_succ]
  rw [e, List.append_assoc, List.set_append_right (h := by rw [marksO_length]; exact Nat.le_refl _), marksO_length, Nat.sub_self, List.drop_eq_getElem_cons hq]
  rfl
set_option maxRecDepth 100000 in
set_option maxHeartbeats 4000000 in
theorem markOS (g cap : Nat) (l : List Ro) (c : Int) (w : World) (h : OpsB w g l) (hm : l.length ≤ 16777216) (hc0 : 0 ≤ c) (hc : c ≤ 16777216) :
    Calls Try.prog 42 #[.slice (some ⟨g, 0, none⟩) l.length cap, .int .i64 c] w fun e w' => e = .returned (.int .i64 (c + 4 * l.length)) ∧ OpsB w' g (marksO c l.length) ∧ w.grownBy w' (some g) := by
  have H := Lib.hid h
  clear h
  obtain ⟨n, hnn⟩ : ∃ n, l.length = n := ⟨_, rfl⟩
  rw [hnn] at hm ⊢
  have HN := Lib.hid hnn
  clear hnn
  go_enter Try.func42, Try.ntmps42
  go_wp2_with fail
  go_loopw [1, 5] (fun j i wr => ∃ q : Nat, i = .int .i64 q ∧ j = .int .i64 (c + 4 * (q : Int)) ∧ q ≤ n ∧ OpsB wr g (marksO c q ++ l.drop q) ∧ w.grownBy wr (some g)) (fun _ i _ => n - (intOf i).toNat)
  case atStart => exact ⟨0, rfl, by simp, by omega, by simpa [marksO] using H.out, World.grownBy.refl _ _⟩
  case round =>
    obtain ⟨q, rfl, rfl, hk, hi, hg⟩ := hrel
    have I := Lib.hid hi
    have G := Lib.hid hg
    clear hi hg
    by_cases hlt : q < n
    · have HQ : Hid (q < l.length) := by show q < l.length; rw [HN.out]; exact hlt
      have KL : Hid (q < (marksO c q ++ l.drop q).length) := by show q < _; have := HQ.out; simp [marksO_length]; omega
      obtain ⟨d0, d1, d2, d3⟩ := I.out.cells KL.out
      have f0 := I.out.free (q * 4)
      have f1 := I.out.free (q * 4 + 1)
      have f2 := I.out.free (q * 4 + 2)
      have f3 := I.out.free (q * 4 + 3)
      go_wp2_with fail
      go_roundw
      case rel =>
        refine ⟨q + 1, by go_num, by go_num, by omega, ?_, ?_⟩
        · rw [← markO_step l c q HQ.out]
          exact I.out.set KL.out ⟨c + 4 * (q : Int), c + 4 * (q : Int) + 1, c + 4 * (q : Int) + 1 + 1, c + 4 * (q : Int) + 1 + 1 + 1⟩
        · exact grown_set_one (grown_set_one (grown_set_one (grown_set_one G.out rfl _) rfl _) rfl _) rfl _
      case measure => simp [intOf]; omega
    · have hkn : q = n := by omega
      subst hkn
      have e : marksO c q ++ l.drop q = marksO c q := by rw [← HN.out]; simp
      go_wp2_with fail
      go_ret
      exact ⟨rfl, by rw [← e]; exact I.out, G.out⟩
theorem markOS_nil (cap : Nat) (c : Int) (w : World) :
    Calls Try.prog 42 #[.slice none 0 cap, .int .i64 c] w fun e w' => e = .returned (.int .i64 c) ∧ w = w' := by
  go_enter Try.func42, Try.ntmps42
  go_wp2_with fail
  go_loopw [1, 5] (fun j i wr => j = .int .i64 c ∧ i = .int .i64 0 ∧ wr = w) (fun _ _ _ => 0)
  case atStart => exact ⟨rfl, rfl, rfl⟩
  case round =>
    obtain ⟨rfl, rfl, rfl⟩ := hrel
    go_wp2_with fail
    go_ret
    exact ⟨rfl, rfl⟩
set_option maxRecDepth 100000 in
set_option maxHeartbeats 4000000 in
theorem heldOS (a : Option Addr) (cap n : Nat) (c : Int) (w : World) (h : RdO w a (marksO c n)) (hm : n ≤ 16777216) (hc0 : 0 ≤ c) (hc : c ≤ 16777216) :
    Calls Try.prog 45 #[.slice a n cap, .int .i64 c] w (Gives (.int .i64 (c + 4 * n)) w) := by
  have H := Lib.hid h
  clear h
  go_enter Try.func45, Try.ntmps45
  go_wp2_with fail
  go_loopw [1, 5] (fun j i wr => ∃ q : Nat, i = .int .i64 q ∧ j = .int .i64 (c + 4 * (q : Int)) ∧ q ≤ n ∧ Below w.heap.size w wr) (fun _ i _ => n - (intOf i).toNat)
  case atStart => exact ⟨0, rfl, by simp, by omega, Below.refl _ _⟩
  case round =>
    obtain ⟨q, rfl, rfl, hk, hb⟩ := hrel
    have B := Lib.hid hb
    clear hb
    by_cases hlt : q < n
    · obtain ⟨b2, o2, rfl, hlt2, c0, c1, c2, c3⟩ := (H.out.below B.out) q (by rw [marksO_length]; exact hlt)
      rw [marksO_getD c n q hlt] at c0 c1 c2 c3
      dsimp only at c0 c1 c2 c3
      go_wp2_with fail
      go_roundw
      case rel => exact ⟨q + 1, by go_num, by go_num, by omega, B.out⟩
      case measure => simp [intOf]; omega
    · have hkn : q = n := by omega
      subst hkn
      go_wp2_with fail
      go_ret
      exact ⟨rfl, B.out⟩
end Go.Proofs.Ytiggioccmlbhhaa
