/-
  Chapter 5, in the model: an operation on rows, in place.
-/
import Derived.Test.YtpelnfenfeoeeaaRow2
namespace Go.Proofs.Ytpelnfenfeoeeaa
set_option maxRecDepth 100000
open Go.RowKit

/-! ### l5Do -/
/-- A statement that gives back nothing. -/
def Void (e : Ending) : Prop := e = .returned (.tuple #[])
theorem tenF {W w' : World} {b b' : Nat} {t t' : TypeId} {p q r x y z u : Value} {pr : Nat → Prop} (h0 : Blk3 W b t p q r) (h1 : Blk4 W b' t' x y z u) (hg : FrS pr W w') (hb : ¬ pr b) (hb' : ¬ pr b') :
    w'.cell? ⟨b, 0, none⟩ = some p ∧ w'.cell? ⟨b, 1, none⟩ = some q ∧ w'.cell? ⟨b, 2, none⟩ = some r ∧ w'.cell? ⟨b', 0, none⟩ = some x ∧ w'.cell? ⟨b', 1, none⟩ = some y ∧ w'.cell? ⟨b', 2, none⟩ = some z ∧ w'.cell? ⟨b', 3, none⟩ = some u := by
  have k1 : Blk4 w' b' t' x y z u := (hg.block b' h1.lt hb').trans h1
  exact ⟨(h0.frs hg hb).cell0, (h0.frs hg hb).cell1, (h0.frs hg hb).cell2, k1.cell0, k1.cell1, k1.cell2, k1.cell3⟩
/-- Ints in a block whose size is known. -/
def IntsZ (S : Nat) (w : World) (g : Nat) (zs : List Int) : Prop := Ints w g zs ∧ ∃ (cur : Array Value) (t : TypeId) (f : Nat × Nat), w.heap[g]? = some (.cells cur t f) ∧ cur.size = S
theorem IntsZ.of {w : World} {g : Nat} {zs : List Int} (h : Ints w g zs) : ∃ S, IntsZ S w g zs := by
  obtain ⟨rest, e⟩ := id h
  exact ⟨_, h, _, _, _, e, rfl⟩
theorem IntsZ.move {S : Nat} {w w' : World} {g : Nat} {zs : List Int} (h : IntsZ S w g zs) (e : w'.heap[g]? = w.heap[g]?) : IntsZ S w' g zs := by
  obtain ⟨h1, cur, t, f, h2, h3⟩ := h
  exact ⟨h1.move e, cur, t, f, e.trans h2, h3⟩
theorem IntsZ.lt {S : Nat} {w : World} {g : Nat} {zs : List Int} (h : IntsZ S w g zs) : g < w.heap.size := h.1.lt
theorem IntsZ.cell {S : Nat} {w : World} {g : Nat} {zs : List Int} (h : IntsZ S w g zs) {i : Nat} (hi : i < zs.length) : w.cell? ⟨g, i, none⟩ = some (.int .i64 (zs.getD i 0)) := h.1.cell hi
theorem IntsZ.free {S : Nat} {w : World} {g : Nat} {zs : List Int} (h : IntsZ S w g zs) (i : Nat) : w.frozen? ⟨g, i, none⟩ = false := h.1.free i
theorem IntsZ.drew {S : Nat} {w : World} {g : Nat} {zs : List Int} (h : IntsZ S w g zs) : IntsZ S w.drew g zs := h
theorem IntsZ.old {S : Nat} {w : World} {g : Nat} {zs : List Int} (h : IntsZ S w g zs) (o : Obj) : IntsZ S (w.alloc o) g zs := h.move (Below.heap_alloc w o g h.lt)
theorem IntsZ.set {S : Nat} {w : World} {g : Nat} {zs : List Int} (h : IntsZ S w g zs) (i : Nat) (z : Int) : IntsZ S (w.setCell ⟨g, i, none⟩ (.int .i64 z)) g (zs.set i z) := by
  obtain ⟨h1, cur, t, f, h2, h3⟩ := h
  refine ⟨h1.set i z, cur.setIfInBounds i (.int .i64 z), t, f, ?_, by simp [h3]⟩
  obtain ⟨hlt, hget⟩ := Array.getElem?_eq_some_iff.mp h2
  simp [World.setCell, hlt, Array.getElem_modify, hget]
theorem IntsC.z {w : World} {g cap : Nat} {zs : List Int} (h : IntsC w g cap zs) : IntsZ cap w g zs := by
  obtain ⟨-, rest, hl, e⟩ := id h
  exact ⟨h.ints, _, _, _, e, by simp; omega⟩
theorem IntsZ.c {w : World} {g cap : Nat} {zs : List Int} (h : IntsZ cap w g zs) (hc : cap ≤ maxLen) : IntsC w g cap zs := by
  obtain ⟨⟨rest, e⟩, cur, t, f, h2, h3⟩ := h
  rw [e] at h2
  simp only [Option.some.injEq, Obj.cells.injEq] at h2
  refine ⟨hc, rest, ?_, e⟩
  rw [← h3, ← h2.1]
  simp
set_option maxRecDepth 100000 in
set_option maxHeartbeats 4000000 in
theorem sDoZ (S R C Iq J g n cap : Nat) (k t : Int) (xs : List Int) (w : World) (hi : IntsZ S w g xs) (hx : xs.length = n) (hn : n = R * C) (hR : R ≤ 24) (hC : C ≤ 24) (hI : Iq < R) (hJ : J < R) (hk : k = 0 ∨ k = 1 ∨ k = 2) (hIJ : k = 0 → Iq ≠ J) :
    Calls Try.prog 144 #[.agg #[.int .i64 R, .int .i64 C, .slice (some ⟨g, 0, none⟩) n cap], .agg #[.int .i64 k, .int .i64 Iq, .int .i64 J, .int .i64 t]] w (fun e w' => Void e ∧ IntsZ S w' g (opL k Iq J t C xs) ∧ w.grownBy w' (some g)) := by
  have hle : R * C ≤ 24 * 24 := Nat.mul_le_mul hR hC
  have I0 := Lib.hid hi
  have HX := Lib.hid hx
  have HN := Lib.hid hn
  have HIJ := Lib.hid hIJ
  have gl := hi.lt
  rw [← hn] at hle
  have K0 : Hid (Blk3 ((w.alloc (.cells #[.int .i64 R, .int .i64 C, .slice (some ⟨g, 0, none⟩) n cap] 26)).alloc (.cells #[.int .i64 k, .int .i64 Iq, .int .i64 J, .int .i64 t] 97)) w.heap.size 26 (.int .i64 R) (.int .i64 C) (.slice (some ⟨g, 0, none⟩) n cap)) := (Blk3.at_ _ _ _ _ rfl).old _
  have K1 : Hid (Blk4 ((w.alloc (.cells #[.int .i64 R, .int .i64 C, .slice (some ⟨g, 0, none⟩) n cap] 26)).alloc (.cells #[.int .i64 k, .int .i64 Iq, .int .i64 J, .int .i64 t] 97)) (w.heap.size + 1) 97 (.int .i64 k) (.int .i64 Iq) (.int .i64 J) (.int .i64 t)) := Blk4.at_ _ _ _ _ _ (by simp)
  have I1 : Hid (IntsZ S ((w.alloc (.cells #[.int .i64 R, .int .i64 C, .slice (some ⟨g, 0, none⟩) n cap] 26)).alloc (.cells #[.int .i64 k, .int .i64 Iq, .int .i64 J, .int .i64 t] 97)) g xs) := (hi.old _).old _
  have G0 : Hid (w.grownBy ((w.alloc (.cells #[.int .i64 R, .int .i64 C, .slice (some ⟨g, 0, none⟩) n cap] 26)).alloc (.cells #[.int .i64 k, .int .i64 Iq, .int .i64 J, .int .i64 t] 97)) (some g)) := (World.grownBy_alloc w _ _).trans (World.grownBy_alloc _ _ _)
  clear hi hx hn hIJ
  go_enter Try.func144, Try.ntmps144
  go_wp2_with fail
  go_loopw [4, 5, 6] (fun i _ _ wr => ∃ q : Nat, i = .int .i64 q ∧ q ≤ C ∧ IntsZ S wr g (opTo k Iq J t C xs q) ∧ ((w.alloc (.cells #[.int .i64 R, .int .i64 C, .slice (some ⟨g, 0, none⟩) n cap] 26)).alloc (.cells #[.int .i64 k, .int .i64 Iq, .int .i64 J, .int .i64 t] 97)).grownBy wr (some g)) (fun i _ _ _ => C - (intOf i).toNat)
  case atStart => exact ⟨0, rfl, by omega, by rw [opTo_zero]; exact I1.out, World.grownBy.refl _ _⟩
  case round =>
    obtain ⟨q, rfl, hq, hi, hgr⟩ := hrel
    have I := Lib.hid hi
    have G := Lib.hid hgr
    have GW := Lib.hid (G0.out.trans hgr)
    clear hi hgr
    have R0 := Lib.hid (K0.out.keepOne G.out (by omega))
    have R1 := Lib.hid (K1.out.keepOne G.out (by omega))
    obtain ⟨r0, r1, r2, -, -, -⟩ := R0.out.all
    obtain ⟨o0, o1, o2, o3⟩ := R1.out.all
    by_cases hlt : q < C
    · have a1 : Iq * C + q < n := by rw [HN.out]; exact idx_lt hI hlt
      have a2 : J * C + q < n := by rw [HN.out]; exact idx_lt hJ hlt
      have c1 : (Iq : Int) * (C : Int) = ((Iq * C : Nat) : Int) := (Int.natCast_mul _ _).symm
      have c2 : (J : Int) * (C : Int) = ((J * C : Nat) : Int) := (Int.natCast_mul _ _).symm
      have d1 : 0 ≤ (Iq : Int) * (C : Int) ∧ (Iq : Int) * (C : Int) ≤ 600 := by rw [c1]; omega
      have d2 : 0 ≤ (J : Int) * (C : Int) ∧ (J : Int) * (C : Int) ≤ 600 := by rw [c2]; omega
      have e1 : 0 ≤ (Iq : Int) * (C : Int) + (q : Int) := by omega
      have e2 : (Iq : Int) * (C : Int) + (q : Int) < (n : Int) := by rw [c1]; omega
      have e3 : ((Iq : Int) * (C : Int) + (q : Int)).toNat = Iq * C + q := by rw [c1]; omega
      have f1 : 0 ≤ (J : Int) * (C : Int) + (q : Int) := by omega
      have f2 : (J : Int) * (C : Int) + (q : Int) < (n : Int) := by rw [c2]; omega
      have f3 : ((J : Int) * (C : Int) + (q : Int)).toNat = J * C + q := by rw [c2]; omega
      obtain ⟨d11, d12⟩ := d1
      obtain ⟨d21, d22⟩ := d2
      have v1 : IntKind.i64.wrap ((Iq : Int) * (C : Int)) = (Iq : Int) * (C : Int) := IntWalk.i64_in _ (by omega)
      have v2 : IntKind.i64.wrap ((Iq : Int) * (C : Int) + (q : Int)) = (Iq : Int) * (C : Int) + (q : Int) := IntWalk.i64_in _ (by omega)
      have v3 : IntKind.i64.wrap ((J : Int) * (C : Int)) = (J : Int) * (C : Int) := IntWalk.i64_in _ (by omega)
      have v4 : IntKind.i64.wrap ((J : Int) * (C : Int) + (q : Int)) = (J : Int) * (C : Int) + (q : Int) := IntWalk.i64_in _ (by omega)
      have h1 := I.out.cell (i := Iq * C + q) (by rw [opTo_length, HX.out]; exact a1)
      have h2 := I.out.cell (i := J * C + q) (by rw [opTo_length, HX.out]; exact a2)
      rw [opTo_at _ _ _ _ _ _ _ _ hlt (by rw [HX.out]; exact a1)] at h1
      rw [opTo_at _ _ _ _ _ _ _ _ hlt (by rw [HX.out]; exact a2)] at h2
      have fr1 := I.out.free (Iq * C + q)
      have fr2 := I.out.free (J * C + q)
      have hlen : xs.length = R * C := by rw [HX.out, HN.out]
      obtain ⟨x, hxx⟩ : ∃ x, xs.getD (Iq * C + q) 0 = x := ⟨_, rfl⟩
      obtain ⟨y, hyy⟩ : ∃ y, xs.getD (J * C + q) 0 = y := ⟨_, rfl⟩
      have s0 := op_swap Iq J t C R xs q hlen hI hJ hlt
      have s1 := op_one 1 Iq J t C R xs q (mulB x (-1)) hlen hI hlt (.inl rfl) (by rw [opAt_one _ _ _ _ _ hlt, hxx])
      have s2 := op_one 2 Iq J t C R xs q (addB x (mulB y t)) hlen hI hlt (.inr rfl) (by rw [opAt_two _ _ _ _ _ hlt, hxx, hyy])
      rw [hxx, hyy] at s0
      rw [hxx] at h1
      rw [hyy] at h2
      have S0 := Lib.hid s0
      have S1 := Lib.hid s1
      have S2 := Lib.hid s2
      have A1 := Lib.hid a1
      have A2 := Lib.hid a2
      clear c1 c2 hxx hyy s0 s1 s2 hlen a1 a2
      rcases hk with e0 | e0 | e0
      · have n0 : (k == 0) = true := by simpa using e0
        have n1 : (k == 1) = false := by rw [e0]; rfl
        have KE := Lib.hid e0
        clear e0
        have IS := I.out.set (Iq * C + q) y
        have fr2 := IS.free (J * C + q)
        have hold := IS.cell (i := J * C + q) (by rw [List.length_set, opTo_length, HX.out]; exact A2.out)
        have rr0 : Blk3 (wr.setCell ⟨g, Iq * C + q, none⟩ (.int .i64 y)) w.heap.size 26 (.int .i64 R) (.int .i64 C) (.slice (some ⟨g, 0, none⟩) n cap) := R0.out.far (by simp; omega) _
        have rr1 : Blk4 (wr.setCell ⟨g, Iq * C + q, none⟩ (.int .i64 y)) (w.heap.size + 1) 97 (.int .i64 k) (.int .i64 Iq) (.int .i64 J) (.int .i64 t) := (Below.heap_setCell wr ⟨g, Iq * C + q, none⟩ (.int .i64 y) (w.heap.size + 1) (by simp; omega)).trans R1.out
        obtain ⟨z0, z1, z2, -, -, -⟩ := rr0.all
        obtain ⟨y0, y1, y2, y3⟩ := rr1.all
        have IS2 := Lib.hid (IS.set (J * C + q) x)
        clear IS rr0 rr1
        go_wp2_with fail
        go_roundw
        case rel =>
          refine ⟨q + 1, by go_num, by omega, ?_, ?_⟩
          · have := S0.out
            rcases this with h | h
            · have z := IS2.out; rw [KE.out] at z ⊢; rw [← h]; exact z
            · exact absurd h (HIJ.out KE.out)
          · exact grown_set_one (a := ⟨g, J * C + q, none⟩) (grown_set_one (a := ⟨g, Iq * C + q, none⟩) G.out rfl _) rfl _
        case measure => simp [intOf]; omega
      · have n0 : (k == 0) = false := by rw [e0]; rfl
        have n1 : (k == 1) = true := by simpa using e0
        have KE := Lib.hid e0
        clear e0
        go_upto_region 12 with fail
        refine wp_region_held_drew (S := fun w' => FrS (fun k => k = g) wr w') (by kernel_rfl) (FrS.refl _ _).drew (fun hH => ?_)
        refine wpAnyH_take (i := 0) (v := ?_) (by simp only [List.getElem?_toArray, List.getElem?_cons_zero]; rfl) (by kernel_rfl) (by kernel_rfl) (by kernel_rfl) (by exact fun _ _ _ h => h) (Or.inl ⟨by rfl, ?_⟩) hH ?_
        rotate_left
        · (intro wS hS; clear hS; go_simp; try rfl)
        try simp only [Act.put, List.setIfInBounds_toArray, List.set_cons_zero, List.set_cons_succ]
        refine wpAnyH_take (i := 1) (v := ?_) (by simp only [List.getElem?_toArray, List.getElem?_cons_succ, List.getElem?_cons_zero]; rfl) (by kernel_rfl) (by kernel_rfl) (by kernel_rfl) (by exact fun _ _ _ h => h) (Or.inl ⟨by rfl, ?_⟩) hH ?_
        rotate_left
        · (intro wS hS; (try dsimp only at hS); obtain ⟨k1, k2, k3, k4, k5, k6, k7⟩ := tenF R0.out R1.out hS (by omega) (by omega); go_simp; try rfl)
        try simp only [Act.put, List.setIfInBounds_toArray, List.set_cons_zero, List.set_cons_succ]
        refine wpAnyH_take (i := 2) (v := ?_) (by simp only [List.getElem?_toArray, List.getElem?_cons_succ, List.getElem?_cons_zero]; rfl) (by kernel_rfl) (by kernel_rfl) (by kernel_rfl) (by exact fun _ _ _ h => h) (Or.inl ⟨by rfl, ?_⟩) hH ?_
        rotate_left
        · (intro wS hS; clear hS; go_simp; try rfl)
        try simp only [Act.put, List.setIfInBounds_toArray, List.set_cons_zero, List.set_cons_succ]
        refine wpAnyH_take (i := 3) (v := ?_) (by simp only [List.getElem?_toArray, List.getElem?_cons_succ, List.getElem?_cons_zero]; rfl) (by kernel_rfl) (by kernel_rfl) (by kernel_rfl) (by exact fun _ _ _ h => h) (Or.inl ⟨by rfl, ?_⟩) hH ?_
        rotate_left
        · (intro wS hS; (try dsimp only at hS); obtain ⟨k1, k2, k3, k4, k5, k6, k7⟩ := tenF R0.out R1.out hS (by omega) (by omega); go_simp; try rfl)
        try simp only [Act.put, List.setIfInBounds_toArray, List.set_cons_zero, List.set_cons_succ]
        refine wpAnyH_take (i := 4) (v := ?_) (by simp only [List.getElem?_toArray, List.getElem?_cons_succ, List.getElem?_cons_zero]; rfl) (by kernel_rfl) (by kernel_rfl) (by kernel_rfl) (by exact fun _ _ _ h => h) (Or.inl ⟨by rfl, ?_⟩) hH ?_
        rotate_left
        · (intro wS hS; clear hS; go_simp; try rfl)
        try simp only [Act.put, List.setIfInBounds_toArray, List.set_cons_zero, List.set_cons_succ]
        refine wpAnyH_take (i := 5) (v := ?_) (by simp only [List.getElem?_toArray, List.getElem?_cons_succ, List.getElem?_cons_zero]; rfl) (by kernel_rfl) (by kernel_rfl) (by kernel_rfl) (by exact fun _ _ _ h => h) (Or.inl ⟨by rfl, ?_⟩) hH ?_
        rotate_left
        · (intro wS hS; (try dsimp only at hS); obtain ⟨k1, k2, k3, k4, k5, k6, k7⟩ := tenF R0.out R1.out hS (by omega) (by omega); go_simp; try rfl)
        try simp only [Act.put, List.setIfInBounds_toArray, List.set_cons_zero, List.set_cons_succ]
        refine wpAnyH_take (i := 6) (v := ?_) (by simp only [List.getElem?_toArray, List.getElem?_cons_succ, List.getElem?_cons_zero]; rfl) (by kernel_rfl) (by kernel_rfl) (by kernel_rfl) (by exact fun _ _ _ h => h) (Or.inl ⟨by rfl, ?_⟩) hH ?_
        rotate_left
        · (intro wS hS; clear hS; go_simp; try rfl)
        try simp only [Act.put, List.setIfInBounds_toArray, List.set_cons_zero, List.set_cons_succ]
        refine wpAnyH_take (i := 7) (v := ?_) (by simp only [List.getElem?_toArray, List.getElem?_cons_succ, List.getElem?_cons_zero]; rfl) (by kernel_rfl) (by kernel_rfl) (by kernel_rfl) (by exact fun _ _ _ h => h) (Or.inl ⟨by rfl, ?_⟩) hH ?_
        rotate_left
        · (intro wS hS; clear hS; go_simp; try rfl)
        try simp only [Act.put, List.setIfInBounds_toArray, List.set_cons_zero, List.set_cons_succ]
        refine wpAnyH_take (i := 8) (v := ?_) (by simp only [List.getElem?_toArray, List.getElem?_cons_succ, List.getElem?_cons_zero]; rfl) (by kernel_rfl) (by kernel_rfl) (by kernel_rfl) (by exact fun _ _ _ h => h) (Or.inl ⟨by rfl, ?_⟩) hH ?_
        rotate_left
        · (intro wS hS; clear hS; go_simp; try rfl)
        try simp only [Act.put, List.setIfInBounds_toArray, List.set_cons_zero, List.set_cons_succ]
        refine wpAnyH_take (i := 9) (v := ?_) (by simp only [List.getElem?_toArray, List.getElem?_cons_succ, List.getElem?_cons_zero]; rfl) (by kernel_rfl) (by kernel_rfl) (by kernel_rfl) (by exact fun _ _ _ h => h) (Or.inl ⟨by rfl, ?_⟩) hH ?_
        rotate_left
        · (intro wS hS; clear hS; go_simp; try rfl)
        try simp only [Act.put, List.setIfInBounds_toArray, List.set_cons_zero, List.set_cons_succ]
        refine wpAnyH_ready (rs := [10]) (by kernel_rfl) (by simp) ?_
        refine AllReadyH.cons (by simp only [List.getElem?_toArray, List.getElem?_cons_succ, List.getElem?_cons_zero]; rfl) (fun KK hKK => ?_) AllReadyH.nil
        go_simp
        refine (sMulB x (-1) _).mono ?_
        rintro e w' ⟨rfl, rfl⟩
        try dsimp only
        refine hKK.out _ _ ?_ (fun hH2 => ?_)
        · exact (FrS.refl _ wr).drew
        clear hKK KK
        have hO := hH
        clear hH
        have hH := hH2
        clear hH2
        try simp only [Act.put, List.setIfInBounds_toArray, List.set_cons_zero, List.set_cons_succ]
        refine wpAnyH_take (i := 11) (v := ?_) (by simp only [List.getElem?_toArray, List.getElem?_cons_succ, List.getElem?_cons_zero]; rfl) (by kernel_rfl) (by kernel_rfl) (by kernel_rfl) (by exact fun _ _ _ h => h) (Or.inl ⟨by rfl, ?_⟩) hH ?_
        rotate_left
        · (intro wS hS; clear hS; go_simp; try rfl)
        try simp only [Act.put, List.setIfInBounds_toArray, List.set_cons_zero, List.set_cons_succ]
        have IX := Lib.hid (I.out.set (Iq * C + q) (mulB x (-1))).drew
        refine wpAnyH_ready (rs := [12]) (by kernel_rfl) (by simp) ?_
        refine AllReadyH.cons (by simp only [List.getElem?_toArray, List.getElem?_cons_succ, List.getElem?_cons_zero]; rfl) (fun KK hKK => ?_) AllReadyH.nil
        go_simp
        try dsimp only
        refine hKK.out _ _ ?_ (fun hH2 => ?_)
        · exact ((FrS.refl (fun k => k = g) wr).set (a := ⟨g, Iq * C + q, none⟩) (.inl rfl) _).drew
        clear hKK KK
        have hO := hH
        clear hH
        have hH := hH2
        clear hH2
        try simp only [Act.put, List.setIfInBounds_toArray, List.set_cons_zero, List.set_cons_succ]
        refine wpAnyH_done (by kernel_rfl) ?_ _
        go_wp2_with fail
        go_roundw
        case rel => exact ⟨q + 1, by go_num, by omega, by have z := IX.out; rw [KE.out] at z ⊢; rw [← S1.out]; exact z, grown_drew_one (grown_set_one (a := ⟨g, Iq * C + q, none⟩) G.out rfl _)⟩
        case measure => simp [intOf]; omega
      · have n0 : (k == 0) = false := by rw [e0]; rfl
        have n1 : (k == 1) = false := by rw [e0]; rfl
        have KE := Lib.hid e0
        clear e0
        go_upto_region 7 with fail
        refine wp_region_held_drew (S := fun w' => FrS (fun k => k = g) wr w') (by kernel_rfl) (FrS.refl _ _).drew (fun hH => ?_)
        refine wpAnyH_take (i := 0) (v := ?_) (by simp only [List.getElem?_toArray, List.getElem?_cons_zero]; rfl) (by kernel_rfl) (by kernel_rfl) (by kernel_rfl) (by exact fun _ _ _ h => h) (Or.inl ⟨by rfl, ?_⟩) hH ?_
        rotate_left
        · (intro wS hS; clear hS; go_simp; try rfl)
        try simp only [Act.put, List.setIfInBounds_toArray, List.set_cons_zero, List.set_cons_succ]
        refine wpAnyH_take (i := 1) (v := ?_) (by simp only [List.getElem?_toArray, List.getElem?_cons_succ, List.getElem?_cons_zero]; rfl) (by kernel_rfl) (by kernel_rfl) (by kernel_rfl) (by exact fun _ _ _ h => h) (Or.inl ⟨by rfl, ?_⟩) hH ?_
        rotate_left
        · (intro wS hS; (try dsimp only at hS); obtain ⟨k1, k2, k3, k4, k5, k6, k7⟩ := tenF R0.out R1.out hS (by omega) (by omega); go_simp; try rfl)
        try simp only [Act.put, List.setIfInBounds_toArray, List.set_cons_zero, List.set_cons_succ]
        refine wpAnyH_take (i := 2) (v := ?_) (by simp only [List.getElem?_toArray, List.getElem?_cons_succ, List.getElem?_cons_zero]; rfl) (by kernel_rfl) (by kernel_rfl) (by kernel_rfl) (by exact fun _ _ _ h => h) (Or.inl ⟨by rfl, ?_⟩) hH ?_
        rotate_left
        · (intro wS hS; clear hS; go_simp; try rfl)
        try simp only [Act.put, List.setIfInBounds_toArray, List.set_cons_zero, List.set_cons_succ]
        refine wpAnyH_take (i := 3) (v := ?_) (by simp only [List.getElem?_toArray, List.getElem?_cons_succ, List.getElem?_cons_zero]; rfl) (by kernel_rfl) (by kernel_rfl) (by kernel_rfl) (by exact fun _ _ _ h => h) (Or.inl ⟨by rfl, ?_⟩) hH ?_
        rotate_left
        · (intro wS hS; (try dsimp only at hS); obtain ⟨k1, k2, k3, k4, k5, k6, k7⟩ := tenF R0.out R1.out hS (by omega) (by omega); go_simp; try rfl)
        try simp only [Act.put, List.setIfInBounds_toArray, List.set_cons_zero, List.set_cons_succ]
        refine wpAnyH_take (i := 4) (v := ?_) (by simp only [List.getElem?_toArray, List.getElem?_cons_succ, List.getElem?_cons_zero]; rfl) (by kernel_rfl) (by kernel_rfl) (by kernel_rfl) (by exact fun _ _ _ h => h) (Or.inl ⟨by rfl, ?_⟩) hH ?_
        rotate_left
        · (intro wS hS; clear hS; go_simp; try rfl)
        try simp only [Act.put, List.setIfInBounds_toArray, List.set_cons_zero, List.set_cons_succ]
        refine wpAnyH_take (i := 5) (v := ?_) (by simp only [List.getElem?_toArray, List.getElem?_cons_succ, List.getElem?_cons_zero]; rfl) (by kernel_rfl) (by kernel_rfl) (by kernel_rfl) (by exact fun _ _ _ h => h) (Or.inl ⟨by rfl, ?_⟩) hH ?_
        rotate_left
        · (intro wS hS; (try dsimp only at hS); obtain ⟨k1, k2, k3, k4, k5, k6, k7⟩ := tenF R0.out R1.out hS (by omega) (by omega); go_simp; try rfl)
        try simp only [Act.put, List.setIfInBounds_toArray, List.set_cons_zero, List.set_cons_succ]
        refine wpAnyH_take (i := 6) (v := ?_) (by simp only [List.getElem?_toArray, List.getElem?_cons_succ, List.getElem?_cons_zero]; rfl) (by kernel_rfl) (by kernel_rfl) (by kernel_rfl) (by exact fun _ _ _ h => h) (Or.inl ⟨by rfl, ?_⟩) hH ?_
        rotate_left
        · (intro wS hS; clear hS; go_simp; try rfl)
        try simp only [Act.put, List.setIfInBounds_toArray, List.set_cons_zero, List.set_cons_succ]
        refine wpAnyH_take (i := 7) (v := ?_) (by simp only [List.getElem?_toArray, List.getElem?_cons_succ, List.getElem?_cons_zero]; rfl) (by kernel_rfl) (by kernel_rfl) (by kernel_rfl) (by exact fun _ _ _ h => h) (Or.inl ⟨by rfl, ?_⟩) hH ?_
        rotate_left
        · (intro wS hS; clear hS; go_simp; try rfl)
        try simp only [Act.put, List.setIfInBounds_toArray, List.set_cons_zero, List.set_cons_succ]
        refine wpAnyH_take (i := 8) (v := ?_) (by simp only [List.getElem?_toArray, List.getElem?_cons_succ, List.getElem?_cons_zero]; rfl) (by kernel_rfl) (by kernel_rfl) (by kernel_rfl) (by exact fun _ _ _ h => h) (Or.inl ⟨by rfl, ?_⟩) hH ?_
        rotate_left
        · (intro wS hS; clear hS; go_simp; try rfl)
        try simp only [Act.put, List.setIfInBounds_toArray, List.set_cons_zero, List.set_cons_succ]
        refine wpAnyH_take (i := 9) (v := ?_) (by simp only [List.getElem?_toArray, List.getElem?_cons_succ, List.getElem?_cons_zero]; rfl) (by kernel_rfl) (by kernel_rfl) (by kernel_rfl) (by exact fun _ _ _ h => h) (Or.inl ⟨by rfl, ?_⟩) hH ?_
        rotate_left
        · (intro wS hS; clear hS; go_simp; try rfl)
        try simp only [Act.put, List.setIfInBounds_toArray, List.set_cons_zero, List.set_cons_succ]
        refine wpAnyH_take (i := 10) (v := ?_) (by simp only [List.getElem?_toArray, List.getElem?_cons_succ, List.getElem?_cons_zero]; rfl) (by kernel_rfl) (by kernel_rfl) (by kernel_rfl) (by exact fun _ _ _ h => h) (Or.inl ⟨by rfl, ?_⟩) hH ?_
        rotate_left
        · (intro wS hS; clear hS; go_simp; try rfl)
        try simp only [Act.put, List.setIfInBounds_toArray, List.set_cons_zero, List.set_cons_succ]
        refine wpAnyH_take (i := 11) (v := ?_) (by simp only [List.getElem?_toArray, List.getElem?_cons_succ, List.getElem?_cons_zero]; rfl) (by kernel_rfl) (by kernel_rfl) (by kernel_rfl) (by exact fun _ _ _ h => h) (Or.inl ⟨by rfl, ?_⟩) hH ?_
        rotate_left
        · (intro wS hS; clear hS; go_simp; try rfl)
        try simp only [Act.put, List.setIfInBounds_toArray, List.set_cons_zero, List.set_cons_succ]
        refine wpAnyH_take (i := 12) (v := ?_) (by simp only [List.getElem?_toArray, List.getElem?_cons_succ, List.getElem?_cons_zero]; rfl) (by kernel_rfl) (by kernel_rfl) (by kernel_rfl) (by exact fun _ _ _ h => h) (Or.inl ⟨by rfl, ?_⟩) hH ?_
        rotate_left
        · (intro wS hS; (try dsimp only at hS); obtain ⟨k1, k2, k3, k4, k5, k6, k7⟩ := tenF R0.out R1.out hS (by omega) (by omega); go_simp; try rfl)
        try simp only [Act.put, List.setIfInBounds_toArray, List.set_cons_zero, List.set_cons_succ]
        refine wpAnyH_ready (rs := [13]) (by kernel_rfl) (by simp) ?_
        refine AllReadyH.cons (by simp only [List.getElem?_toArray, List.getElem?_cons_succ, List.getElem?_cons_zero]; rfl) (fun KK hKK => ?_) AllReadyH.nil
        go_simp
        refine (sMulB y t _).mono ?_
        rintro e w' ⟨rfl, rfl⟩
        try dsimp only
        refine hKK.out _ _ ?_ (fun hH2 => ?_)
        · exact (FrS.refl _ wr).drew
        clear hKK KK
        have hO := hH
        clear hH
        have hH := hH2
        clear hH2
        try simp only [Act.put, List.setIfInBounds_toArray, List.set_cons_zero, List.set_cons_succ]
        refine wpAnyH_ready (rs := [14]) (by kernel_rfl) (by simp) ?_
        refine AllReadyH.cons (by simp only [List.getElem?_toArray, List.getElem?_cons_succ, List.getElem?_cons_zero]; rfl) (fun KK hKK => ?_) AllReadyH.nil
        go_simp
        refine (sAddB x _ _).mono ?_
        rintro e w' ⟨rfl, rfl⟩
        try dsimp only
        refine hKK.out _ _ ?_ (fun hH2 => ?_)
        · exact (FrS.refl _ wr).drew
        clear hKK KK
        have hO := hH
        clear hH
        have hH := hH2
        clear hH2
        try simp only [Act.put, List.setIfInBounds_toArray, List.set_cons_zero, List.set_cons_succ]
        refine wpAnyH_take (i := 15) (v := ?_) (by simp only [List.getElem?_toArray, List.getElem?_cons_succ, List.getElem?_cons_zero]; rfl) (by kernel_rfl) (by kernel_rfl) (by kernel_rfl) (by exact fun _ _ _ h => h) (Or.inl ⟨by rfl, ?_⟩) hH ?_
        rotate_left
        · (intro wS hS; clear hS; go_simp; try rfl)
        try simp only [Act.put, List.setIfInBounds_toArray, List.set_cons_zero, List.set_cons_succ]
        have IX := Lib.hid (I.out.set (Iq * C + q) (addB x (mulB y t))).drew
        refine wpAnyH_ready (rs := [16]) (by kernel_rfl) (by simp) ?_
        refine AllReadyH.cons (by simp only [List.getElem?_toArray, List.getElem?_cons_succ, List.getElem?_cons_zero]; rfl) (fun KK hKK => ?_) AllReadyH.nil
        go_simp
        try dsimp only
        refine hKK.out _ _ ?_ (fun hH2 => ?_)
        · exact ((FrS.refl (fun k => k = g) wr).set (a := ⟨g, Iq * C + q, none⟩) (.inl rfl) _).drew
        clear hKK KK
        have hO := hH
        clear hH
        have hH := hH2
        clear hH2
        try simp only [Act.put, List.setIfInBounds_toArray, List.set_cons_zero, List.set_cons_succ]
        refine wpAnyH_done (by kernel_rfl) ?_ _
        go_wp2_with fail
        go_roundw
        case rel => exact ⟨q + 1, by go_num, by omega, by have z := IX.out; rw [KE.out] at z ⊢; rw [← S2.out]; exact z, grown_drew_one (grown_set_one (a := ⟨g, Iq * C + q, none⟩) G.out rfl _)⟩
        case measure => simp [intOf]; omega
    · have hq2 : decide (q < C) = false := by simpa using hlt
      have hqC : q = C := by omega
      have EQ : Hid (opTo k Iq J t C xs q = opL k Iq J t C xs) := by
        show opTo k Iq J t C xs q = opL k Iq J t C xs
        rw [hqC]
        refine opTo_all _ _ _ _ _ _ ?_
        rcases Nat.eq_zero_or_pos C with e | e
        · left; rw [HX.out, HN.out, e, Nat.mul_zero]
        · exact .inr e
      clear hqC
      go_wp2_with fail
      have II : IntsZ S wr g (opL k Iq J t C xs) := by rw [← EQ.out]; exact I.out
      go_end0
      exact ⟨rfl, II, GW.out⟩
theorem sDo (R C Iq J g n cap : Nat) (k t : Int) (xs : List Int) (w : World) (hi : Ints w g xs) (hx : xs.length = n) (hn : n = R * C) (hR : R ≤ 24) (hC : C ≤ 24) (hI : Iq < R) (hJ : J < R) (hk : k = 0 ∨ k = 1 ∨ k = 2) (hIJ : k = 0 → Iq ≠ J) :
    Calls Try.prog 144 #[.agg #[.int .i64 R, .int .i64 C, .slice (some ⟨g, 0, none⟩) n cap], .agg #[.int .i64 k, .int .i64 Iq, .int .i64 J, .int .i64 t]] w (fun e w' => Void e ∧ Ints w' g (opL k Iq J t C xs) ∧ w.grownBy w' (some g)) := by
  obtain ⟨S, h⟩ := IntsZ.of hi
  exact (sDoZ S R C Iq J g n cap k t xs w h hx hn hR hC hI hJ hk hIJ).mono fun _ _ ⟨h1, h2, h3⟩ => ⟨h1, h2.1, h3⟩
theorem sDoC (R C Iq J g n cap : Nat) (k t : Int) (xs : List Int) (w : World) (hi : IntsC w g cap xs) (hx : xs.length = n) (hn : n = R * C) (hR : R ≤ 24) (hC : C ≤ 24) (hI : Iq < R) (hJ : J < R) (hk : k = 0 ∨ k = 1 ∨ k = 2) (hIJ : k = 0 → Iq ≠ J) :
    Calls Try.prog 144 #[.agg #[.int .i64 R, .int .i64 C, .slice (some ⟨g, 0, none⟩) n cap], .agg #[.int .i64 k, .int .i64 Iq, .int .i64 J, .int .i64 t]] w (fun e w' => Void e ∧ IntsC w' g cap (opL k Iq J t C xs) ∧ w.grownBy w' (some g)) :=
  (sDoZ cap R C Iq J g n cap k t xs w hi.z hx hn hR hC hI hJ hk hIJ).mono fun _ _ ⟨h1, h2, h3⟩ => ⟨h1, h2.c hi.1, h3⟩
end Go.Proofs.Ytpelnfenfeoeeaa
