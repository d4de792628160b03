/-
  Texts of this seat, joined: ZARow3 · ZARow2n · ZAMatDone · ZARow4 · ZARowRaw · ZAWoMath · ZADet2 · ZADet3 · ZADetL · ZAMatNew · ZAUptoMath · ZAMatS9 · ZAOpDet · ZAMulMath · ZASameMath · ZATurnMath · ZARingMath · ZALatU · ZAPrimL · ZAEchL · ZAHmF · ZAModM · ZAModD · ZAChiM · ZAMinM · ZAMinS · ZASmF · ZASmG · ZASmH
-/
import Derived.IntWalk
import Derived.StillTailTactics
import Derived.Test.YtpelnfenfeoeeaaRows
import Derived.Test.YtpelnfenfeoeeaaPk24

section
/-
  Chapter 5, in the model: an operation on rows, in place.
-/
namespace Go.Proofs.Ytpelnfenfeoeeaa
set_option maxRecDepth 100000
open Go.RowKit
def Void (e : Ending) : Prop := e = .returned (.tuple #[])
theorem tenF {W w' : World} {b b' : Nat} {t t' : TypeId} {p q r x y z u : Value} {pr : Nat → Prop} (h0 : Blk3 W b t p q r) (h1 : Blk4 W b' t' x y z u) (hg : FrS pr W w') (hb : ¬ pr b) (hb' : ¬ pr b') :
    w'.cell? ⟨b, 0, none⟩ = some p ∧ w'.cell? ⟨b, 1, none⟩ = some q ∧ w'.cell? ⟨b, 2, none⟩ = some r ∧ w'.cell? ⟨b', 0, none⟩ = some x ∧ w'.cell? ⟨b', 1, none⟩ = some y ∧ w'.cell? ⟨b', 2, none⟩ = some z ∧ w'.cell? ⟨b', 3, none⟩ = some u := by
  have k1 : Blk4 w' b' t' x y z u := (hg.block b' h1.lt hb').trans h1
  exact ⟨(h0.frs hg hb).cell0, (h0.frs hg hb).cell1, (h0.frs hg hb).cell2, k1.cell0, k1.cell1, k1.cell2, k1.cell3⟩
def IntsZ (S : Nat) (w : World) (g : Nat) (zs : List Int) : Prop := Ints w g zs ∧ ∃ (cur : Array Value) (t : TypeId) (f : Nat × Nat), w.heap[g]? = some (.cells cur t f) ∧ cur.size = S
theorem IntsZ.of {w : World} {g : Nat} {zs : List Int} (h : Ints w g zs) : ∃ S, IntsZ S w g zs := by
  obtain ⟨rest, e⟩ := id h
  exact ⟨_, h, _, _, _, e, rfl⟩
theorem IntsZ.move {S : Nat} {w w' : World} {g : Nat} {zs : List Int} (h : IntsZ S w g zs) (e : w'.heap[g]? = w.heap[g]?) : IntsZ S w' g zs := by
  obtain ⟨h1, cur, t, f, h2, h3⟩ := h
  exact ⟨h1.move e, cur, t, f, e.trans h2, h3⟩
theorem IntsZ.lt {S : Nat} {w : World} {g : Nat} {zs : List Int} (h : IntsZ S w g zs) : g < w.heap.size := h.1.lt
theorem IntsZ.cell {S : Nat} {w : World} {g : Nat} {zs : List Int} (h : IntsZ S w g zs) {i : Nat} (hi : i < zs.length) : w.cell? ⟨g, i, none⟩ = some (.int .i64 (zs.getD i 0)) := h.1.cell hi
theorem IntsZ.free {S : Nat} {w : World} {g : Nat} {zs : List Int} (h : IntsZ S w g zs) (i : Nat) : w.frozen? ⟨g, i, none⟩ = false := h.1.free i
theorem IntsZ.drew {S : Nat} {w : World} {g : Nat} {zs : List Int} (h : IntsZ S w g zs) : IntsZ S w.drew g zs := h
theorem IntsZ.old {S : Nat} {w : World} {g : Nat} {zs : List Int} (h : IntsZ S w g zs) (o : Obj) : IntsZ S (w.alloc o) g zs := h.move (Below.heap_alloc w o g h.lt)
theorem IntsZ.set {S : Nat} {w : World} {g : Nat} {zs : List Int} (h : IntsZ S w g zs) (i : Nat) (z : Int) : IntsZ S (w.setCell ⟨g, i, none⟩ (.int .i64 z)) g (zs.set i z) := by
  obtain ⟨h1, cur, t, f, h2, h3⟩ := h
  refine ⟨h1.set i z, cur.setIfInBounds i (.int .i64 z), t, f, ?_, by simp [h3]⟩
  obtain ⟨hlt, hget⟩ := Array.getElem?_eq_some_iff.mp h2
  simp [World.setCell, hlt, Array.getElem_modify, hget]
set_option maxRecDepth 100000 in
set_option maxHeartbeats 4000000 in
theorem sDoZ (S R C Iq J g n cap : Nat) (k t : Int) (xs : List Int) (w : World) (hi : IntsZ S w g xs) (hx : xs.length = n) (hn : n = R * C) (hR : R ≤ 24) (hC : C ≤ 24) (hI : Iq < R) (hJ : J < R) (hk : k = 0 ∨ k = 1 ∨ k = 2) (hIJ : k = 0 → Iq ≠ J) :
    Calls Try.prog 144 #[.agg #[.int .i64 R, .int .i64 C, .slice (some ⟨g, 0, none⟩) n cap], .agg #[.int .i64 k, .int .i64 Iq, .int .i64 J, .int .i64 t]] w (fun e w' => Void e ∧ IntsZ S w' g (opL k Iq J t C xs) ∧ w.grownBy w' (some g)) := by
  have hle : R * C ≤ 24 * 24 := Nat.mul_le_mul hR hC
  have I0 := Lib.hid hi
  have HX := Lib.hid hx
  have HN := Lib.hid hn
  have HIJ := Lib.hid hIJ
  have gl := hi.lt
  rw [← hn] at hle
  have K0 : Hid (Blk3 ((w.alloc (.cells #[.int .i64 R, .int .i64 C, .slice (some ⟨g, 0, none⟩) n cap] 26)).alloc (.cells #[.int .i64 k, .int .i64 Iq, .int .i64 J, .int .i64 t] 97)) w.heap.size 26 (.int .i64 R) (.int .i64 C) (.slice (some ⟨g, 0, none⟩) n cap)) := (Blk3.at_ _ _ _ _ rfl).old _
  have K1 : Hid (Blk4 ((w.alloc (.cells #[.int .i64 R, .int .i64 C, .slice (some ⟨g, 0, none⟩) n cap] 26)).alloc (.cells #[.int .i64 k, .int .i64 Iq, .int .i64 J, .int .i64 t] 97)) (w.heap.size + 1) 97 (.int .i64 k) (.int .i64 Iq) (.int .i64 J) (.int .i64 t)) := Blk4.at_ _ _ _ _ _ (by simp)
  have I1 : Hid (IntsZ S ((w.alloc (.cells #[.int .i64 R, .int .i64 C, .slice (some ⟨g, 0, none⟩) n cap] 26)).alloc (.cells #[.int .i64 k, .int .i64 Iq, .int .i64 J, .int .i64 t] 97)) g xs) := (hi.old _).old _
  have G0 : Hid (w.grownBy ((w.alloc (.cells #[.int .i64 R, .int .i64 C, .slice (some ⟨g, 0, none⟩) n cap] 26)).alloc (.cells #[.int .i64 k, .int .i64 Iq, .int .i64 J, .int .i64 t] 97)) (some g)) := (World.grownBy_alloc w _ _).trans (World.grownBy_alloc _ _ _)
  clear hi hx hn hIJ
  go_enter Try.func144, Try.ntmps144
  go_wp2_with fail
  go_loopw [4, 5, 6] (fun i _ _ wr => ∃ q : Nat, i = .int .i64 q ∧ q ≤ C ∧ IntsZ S wr g (opTo k Iq J t C xs q) ∧ ((w.alloc (.cells #[.int .i64 R, .int .i64 C, .slice (some ⟨g, 0, none⟩) n cap] 26)).alloc (.cells #[.int .i64 k, .int .i64 Iq, .int .i64 J, .int .i64 t] 97)).grownBy wr (some g)) (fun i _ _ _ => C - (intOf i).toNat)
  case atStart => exact ⟨0, rfl, by omega, by rw [opTo_zero]; exact I1.out, World.grownBy.refl _ _⟩
  case round =>
    obtain ⟨q, rfl, hq, hi, hgr⟩ := hrel
    have I := Lib.hid hi
    have G := Lib.hid hgr
    have GW := Lib.hid (G0.out.trans hgr)
    clear hi hgr
    have R0 := Lib.hid (K0.out.keepOne G.out (by omega))
    have R1 := Lib.hid (K1.out.keepOne G.out (by omega))
    obtain ⟨r0, r1, r2, -, -, -⟩ := R0.out.all
    obtain ⟨o0, o1, o2, o3⟩ := R1.out.all
    by_cases hlt : q < C
    · have a1 : Iq * C + q < n := by rw [HN.out]; exact idx_lt hI hlt
      have a2 : J * C + q < n := by rw [HN.out]; exact idx_lt hJ hlt
      have c1 : (Iq : Int) * (C : Int) = ((Iq * C : Nat) : Int) := (Int.natCast_mul _ _).symm
      have c2 : (J : Int) * (C : Int) = ((J * C : Nat) : Int) := (Int.natCast_mul _ _).symm
      have d1 : 0 ≤ (Iq : Int) * (C : Int) ∧ (Iq : Int) * (C : Int) ≤ 600 := by rw [c1]; omega
      have d2 : 0 ≤ (J : Int) * (C : Int) ∧ (J : Int) * (C : Int) ≤ 600 := by rw [c2]; omega
      have e1 : 0 ≤ (Iq : Int) * (C : Int) + (q : Int) := by omega
      have e2 : (Iq : Int) * (C : Int) + (q : Int) < (n : Int) := by rw [c1]; omega
      have e3 : ((Iq : Int) * (C : Int) + (q : Int)).toNat = Iq * C + q := by rw [c1]; omega
      have f1 : 0 ≤ (J : Int) * (C : Int) + (q : Int) := by omega
      have f2 : (J : Int) * (C : Int) + (q : Int) < (n : Int) := by rw [c2]; omega
      have f3 : ((J : Int) * (C : Int) + (q : Int)).toNat = J * C + q := by rw [c2]; omega
      obtain ⟨d11, d12⟩ := d1
      obtain ⟨d21, d22⟩ := d2
      have v1 : IntKind.i64.wrap ((Iq : Int) * (C : Int)) = (Iq : Int) * (C : Int) := IntWalk.i64_in _ (by omega)
      have v2 : IntKind.i64.wrap ((Iq : Int) * (C : Int) + (q : Int)) = (Iq : Int) * (C : Int) + (q : Int) := IntWalk.i64_in _ (by omega)
      have v3 : IntKind.i64.wrap ((J : Int) * (C : Int)) = (J : Int) * (C : Int) := IntWalk.i64_in _ (by omega)
      have v4 : IntKind.i64.wrap ((J : Int) * (C : Int) + (q : Int)) = (J : Int) * (C : Int) + (q : Int) := IntWalk.i64_in _ (by omega)
      have h1 := I.out.cell (i := Iq * C + q) (by rw [opTo_length, HX.out]; exact a1)
      have h2 := I.out.cell (i := J * C + q) (by rw [opTo_length, HX.out]; exact a2)
      rw [opTo_at _ _ _ _ _ _ _ _ hlt (by rw [HX.out]; exact a1)] at h1
      rw [opTo_at _ _ _ _ _ _ _ _ hlt (by rw [HX.out]; exact a2)] at h2
      have fr1 := I.out.free (Iq * C + q)
      have fr2 := I.out.free (J * C + q)
      have hlen : xs.length = R * C := by rw [HX.out, HN.out]
      obtain ⟨x, hxx⟩ : ∃ x, xs.getD (Iq * C + q) 0 = x := ⟨_, rfl⟩
      obtain ⟨y, hyy⟩ : ∃ y, xs.getD (J * C + q) 0 = y := ⟨_, rfl⟩
      have s0 := op_swap Iq J t C R xs q hlen hI hJ hlt
      have s1 := op_one 1 Iq J t C R xs q (mulB x (-1)) hlen hI hlt (.inl rfl) (by rw [opAt_one _ _ _ _ _ hlt, hxx])
      have s2 := op_one 2 Iq J t C R xs q (addB x (mulB y t)) hlen hI hlt (.inr rfl) (by rw [opAt_two _ _ _ _ _ hlt, hxx, hyy])
      rw [hxx, hyy] at s0
      rw [hxx] at h1
      rw [hyy] at h2
      have S0 := Lib.hid s0
      have S1 := Lib.hid s1
      have S2 := Lib.hid s2
      have A1 := Lib.hid a1
      have A2 := Lib.hid a2
      clear c1 c2 hxx hyy s0 s1 s2 hlen a1 a2
      rcases hk with e0 | e0 | e0
      · have n0 : (k == 0) = true := by simpa using e0
        have n1 : (k == 1) = false := by rw [e0]; rfl
        have KE := Lib.hid e0
        clear e0
        have IS := I.out.set (Iq * C + q) y
        have fr2 := IS.free (J * C + q)
        have hold := IS.cell (i := J * C + q) (by rw [List.length_set, opTo_length, HX.out]; exact A2.out)
        have rr0 : Blk3 (wr.setCell ⟨g, Iq * C + q, none⟩ (.int .i64 y)) w.heap.size 26 (.int .i64 R) (.int .i64 C) (.slice (some ⟨g, 0, none⟩) n cap) := R0.out.far (by simp; omega) _
        have rr1 : Blk4 (wr.setCell ⟨g, Iq * C + q, none⟩ (.int .i64 y)) (w.heap.size + 1) 97 (.int .i64 k) (.int .i64 Iq) (.int .i64 J) (.int .i64 t) := (Below.heap_setCell wr ⟨g, Iq * C + q, none⟩ (.int .i64 y) (w.heap.size + 1) (by simp; omega)).trans R1.out
        obtain ⟨z0, z1, z2, -, -, -⟩ := rr0.all
        obtain ⟨y0, y1, y2, y3⟩ := rr1.all
        have IS2 := Lib.hid (IS.set (J * C + q) x)
        clear IS rr0 rr1
        go_wp2_with fail
        go_roundw
        case rel =>
          refine ⟨q + 1, by go_num, by omega, ?_, ?_⟩
          · have := S0.out
            rcases this with h | h
            · have z := IS2.out; rw [KE.out] at z ⊢; rw [← h]; exact z
            · exact absurd h (HIJ.out KE.out)
          · exact grown_set_one (a := ⟨g, J * C + q, none⟩) (grown_set_one (a := ⟨g, Iq * C + q, none⟩) G.out rfl _) rfl _
        case measure => simp [intOf]; omega
      · have n0 : (k == 0) = false := by rw [e0]; rfl
        have n1 : (k == 1) = true := by simpa using e0
        have KE := Lib.hid e0
        clear e0
        go_upto_region 12 with fail
        refine wp_region_held_drew (S := fun w' => FrS (fun k => k = g) wr w') (by kernel_rfl) (FrS.refl _ _).drew (fun hH => ?_)
        refine wpAnyH_take (i := 0) (v := ?_) (by simp only [List.getElem?_toArray, List.getElem?_cons_zero]; rfl) (by kernel_rfl) (by kernel_rfl) (by kernel_rfl) (by exact fun _ _ _ h => h) (Or.inl ⟨by rfl, ?_⟩) hH ?_
        rotate_left
        · (intro wS hS; clear hS; go_simp; try rfl)
        try simp only [Act.put, List.setIfInBounds_toArray, List.set_cons_zero, List.set_cons_succ]
        refine wpAnyH_take (i := 1) (v := ?_) (by simp only [List.getElem?_toArray, List.getElem?_cons_succ, List.getElem?_cons_zero]; rfl) (by kernel_rfl) (by kernel_rfl) (by kernel_rfl) (by exact fun _ _ _ h => h) (Or.inl ⟨by rfl, ?_⟩) hH ?_
        rotate_left
        · (intro wS hS; (try dsimp only at hS); obtain ⟨k1, k2, k3, k4, k5, k6, k7⟩ := tenF R0.out R1.out hS (by omega) (by omega); go_simp; try rfl)
        try simp only [Act.put, List.setIfInBounds_toArray, List.set_cons_zero, List.set_cons_succ]
        refine wpAnyH_take (i := 2) (v := ?_) (by simp only [List.getElem?_toArray, List.getElem?_cons_succ, List.getElem?_cons_zero]; rfl) (by kernel_rfl) (by kernel_rfl) (by kernel_rfl) (by exact fun _ _ _ h => h) (Or.inl ⟨by rfl, ?_⟩) hH ?_
        rotate_left
        · (intro wS hS; clear hS; go_simp; try rfl)
        try simp only [Act.put, List.setIfInBounds_toArray, List.set_cons_zero, List.set_cons_succ]
        refine wpAnyH_take (i := 3) (v := ?_) (by simp only [List.getElem?_toArray, List.getElem?_cons_succ, List.getElem?_cons_zero]; rfl) (by kernel_rfl) (by kernel_rfl) (by kernel_rfl) (by exact fun _ _ _ h => h) (Or.inl ⟨by rfl, ?_⟩) hH ?_
        rotate_left
        · (intro wS hS; (try dsimp only at hS); obtain ⟨k1, k2, k3, k4, k5, k6, k7⟩ := tenF R0.out R1.out hS (by omega) (by omega); go_simp; try rfl)
        try simp only [Act.put, List.setIfInBounds_toArray, List.set_cons_zero, List.set_cons_succ]
        refine wpAnyH_take (i := 4) (v := ?_) (by simp only [List.getElem?_toArray, List.getElem?_cons_succ, List.getElem?_cons_zero]; rfl) (by kernel_rfl) (by kernel_rfl) (by kernel_rfl) (by exact fun _ _ _ h => h) (Or.inl ⟨by rfl, ?_⟩) hH ?_
        rotate_left
        · (intro wS hS; clear hS; go_simp; try rfl)
        try simp only [Act.put, List.setIfInBounds_toArray, List.set_cons_zero, List.set_cons_succ]
        refine wpAnyH_take (i := 5) (v := ?_) (by simp only [List.getElem?_toArray, List.getElem?_cons_succ, List.getElem?_cons_zero]; rfl) (by kernel_rfl) (by kernel_rfl) (by kernel_rfl) (by exact fun _ _ _ h => h) (Or.inl ⟨by rfl, ?_⟩) hH ?_
        rotate_left
        · (intro wS hS; (try dsimp only at hS); obtain ⟨k1, k2, k3, k4, k5, k6, k7⟩ := tenF R0.out R1.out hS (by omega) (by omega); go_simp; try rfl)
        try simp only [Act.put, List.setIfInBounds_toArray, List.set_cons_zero, List.set_cons_succ]
        refine wpAnyH_take (i := 6) (v := ?_) (by simp only [List.getElem?_toArray, List.getElem?_cons_succ, List.getElem?_cons_zero]; rfl) (by kernel_rfl) (by kernel_rfl) (by kernel_rfl) (by exact fun _ _ _ h => h) (Or.inl ⟨by rfl, ?_⟩) hH ?_
        rotate_left
        · (intro wS hS; clear hS; go_simp; try rfl)
        try simp only [Act.put, List.setIfInBounds_toArray, List.set_cons_zero, List.set_cons_succ]
        refine wpAnyH_take (i := 7) (v := ?_) (by simp only [List.getElem?_toArray, List.getElem?_cons_succ, List.getElem?_cons_zero]; rfl) (by kernel_rfl) (by kernel_rfl) (by kernel_rfl) (by exact fun _ _ _ h => h) (Or.inl ⟨by rfl, ?_⟩) hH ?_
        rotate_left
        · (intro wS hS; clear hS; go_simp; try rfl)
        try simp only [Act.put, List.setIfInBounds_toArray, List.set_cons_zero, List.set_cons_succ]
        refine wpAnyH_take (i := 8) (v := ?_) (by simp only [List.getElem?_toArray, List.getElem?_cons_succ, List.getElem?_cons_zero]; rfl) (by kernel_rfl) (by kernel_rfl) (by kernel_rfl) (by exact fun _ _ _ h => h) (Or.inl ⟨by rfl, ?_⟩) hH ?_
        rotate_left
        · (intro wS hS; clear hS; go_simp; try rfl)
        try simp only [Act.put, List.setIfInBounds_toArray, List.set_cons_zero, List.set_cons_succ]
        refine wpAnyH_take (i := 9) (v := ?_) (by simp only [List.getElem?_toArray, List.getElem?_cons_succ, List.getElem?_cons_zero]; rfl) (by kernel_rfl) (by kernel_rfl) (by kernel_rfl) (by exact fun _ _ _ h => h) (Or.inl ⟨by rfl, ?_⟩) hH ?_
        rotate_left
        · (intro wS hS; clear hS; go_simp; try rfl)
        try simp only [Act.put, List.setIfInBounds_toArray, List.set_cons_zero, List.set_cons_succ]
        refine wpAnyH_ready (rs := [10]) (by kernel_rfl) (by simp) ?_
        refine AllReadyH.cons (by simp only [List.getElem?_toArray, List.getElem?_cons_succ, List.getElem?_cons_zero]; rfl) (fun KK hKK => ?_) AllReadyH.nil
        go_simp
        refine (sMulB x (-1) _).mono ?_
        rintro e w' ⟨rfl, rfl⟩
        try dsimp only
        refine hKK.out _ _ ?_ (fun hH2 => ?_)
        · exact (FrS.refl _ wr).drew
        clear hKK KK
        have hO := hH
        clear hH
        have hH := hH2
        clear hH2
        try simp only [Act.put, List.setIfInBounds_toArray, List.set_cons_zero, List.set_cons_succ]
        refine wpAnyH_take (i := 11) (v := ?_) (by simp only [List.getElem?_toArray, List.getElem?_cons_succ, List.getElem?_cons_zero]; rfl) (by kernel_rfl) (by kernel_rfl) (by kernel_rfl) (by exact fun _ _ _ h => h) (Or.inl ⟨by rfl, ?_⟩) hH ?_
        rotate_left
        · (intro wS hS; clear hS; go_simp; try rfl)
        try simp only [Act.put, List.setIfInBounds_toArray, List.set_cons_zero, List.set_cons_succ]
        have IX := Lib.hid (I.out.set (Iq * C + q) (mulB x (-1))).drew
        refine wpAnyH_ready (rs := [12]) (by kernel_rfl) (by simp) ?_
        refine AllReadyH.cons (by simp only [List.getElem?_toArray, List.getElem?_cons_succ, List.getElem?_cons_zero]; rfl) (fun KK hKK => ?_) AllReadyH.nil
        go_simp
        try dsimp only
        refine hKK.out _ _ ?_ (fun hH2 => ?_)
        · exact ((FrS.refl (fun k => k = g) wr).set (a := ⟨g, Iq * C + q, none⟩) (.inl rfl) _).drew
        clear hKK KK
        have hO := hH
        clear hH
        have hH := hH2
        clear hH2
        try simp only [Act.put, List.setIfInBounds_toArray, List.set_cons_zero, List.set_cons_succ]
        refine wpAnyH_done (by kernel_rfl) ?_ _
        go_wp2_with fail
        go_roundw
        case rel => exact ⟨q + 1, by go_num, by omega, by have z := IX.out; rw [KE.out] at z ⊢; rw [← S1.out]; exact z, grown_drew_one (grown_set_one (a := ⟨g, Iq * C + q, none⟩) G.out rfl _)⟩
        case measure => simp [intOf]; omega
      · have n0 : (k == 0) = false := by rw [e0]; rfl
        have n1 : (k == 1) = false := by rw [e0]; rfl
        have KE := Lib.hid e0
        clear e0
        go_upto_region 7 with fail
        refine wp_region_held_drew (S := fun w' => FrS (fun k => k = g) wr w') (by kernel_rfl) (FrS.refl _ _).drew (fun hH => ?_)
        refine wpAnyH_take (i := 0) (v := ?_) (by simp only [List.getElem?_toArray, List.getElem?_cons_zero]; rfl) (by kernel_rfl) (by kernel_rfl) (by kernel_rfl) (by exact fun _ _ _ h => h) (Or.inl ⟨by rfl, ?_⟩) hH ?_
        rotate_left
        · (intro wS hS; clear hS; go_simp; try rfl)
        try simp only [Act.put, List.setIfInBounds_toArray, List.set_cons_zero, List.set_cons_succ]
        refine wpAnyH_take (i := 1) (v := ?_) (by simp only [List.getElem?_toArray, List.getElem?_cons_succ, List.getElem?_cons_zero]; rfl) (by kernel_rfl) (by kernel_rfl) (by kernel_rfl) (by exact fun _ _ _ h => h) (Or.inl ⟨by rfl, ?_⟩) hH ?_
        rotate_left
        · (intro wS hS; (try dsimp only at hS); obtain ⟨k1, k2, k3, k4, k5, k6, k7⟩ := tenF R0.out R1.out hS (by omega) (by omega); go_simp; try rfl)
        try simp only [Act.put, List.setIfInBounds_toArray, List.set_cons_zero, List.set_cons_succ]
        refine wpAnyH_take (i := 2) (v := ?_) (by simp only [List.getElem?_toArray, List.getElem?_cons_succ, List.getElem?_cons_zero]; rfl) (by kernel_rfl) (by kernel_rfl) (by kernel_rfl) (by exact fun _ _ _ h => h) (Or.inl ⟨by rfl, ?_⟩) hH ?_
        rotate_left
        · (intro wS hS; clear hS; go_simp; try rfl)
        try simp only [Act.put, List.setIfInBounds_toArray, List.set_cons_zero, List.set_cons_succ]
        refine wpAnyH_take (i := 3) (v := ?_) (by simp only [List.getElem?_toArray, List.getElem?_cons_succ, List.getElem?_cons_zero]; rfl) (by kernel_rfl) (by kernel_rfl) (by kernel_rfl) (by exact fun _ _ _ h => h) (Or.inl ⟨by rfl, ?_⟩) hH ?_
        rotate_left
        · (intro wS hS; (try dsimp only at hS); obtain ⟨k1, k2, k3, k4, k5, k6, k7⟩ := tenF R0.out R1.out hS (by omega) (by omega); go_simp; try rfl)
        try simp only [Act.put, List.setIfInBounds_toArray, List.set_cons_zero, List.set_cons_succ]
        refine wpAnyH_take (i := 4) (v := ?_) (by simp only [List.getElem?_toArray, List.getElem?_cons_succ, List.getElem?_cons_zero]; rfl) (by kernel_rfl) (by kernel_rfl) (by kernel_rfl) (by exact fun _ _ _ h => h) (Or.inl ⟨by rfl, ?_⟩) hH ?_
        rotate_left
        · (intro wS hS; clear hS; go_simp; try rfl)
        try simp only [Act.put, List.setIfInBounds_toArray, List.set_cons_zero, List.set_cons_succ]
        refine wpAnyH_take (i := 5) (v := ?_) (by simp only [List.getElem?_toArray, List.getElem?_cons_succ, List.getElem?_cons_zero]; rfl) (by kernel_rfl) (by kernel_rfl) (by kernel_rfl) (by exact fun _ _ _ h => h) (Or.inl ⟨by rfl, ?_⟩) hH ?_
        rotate_left
        · (intro wS hS; (try dsimp only at hS); obtain ⟨k1, k2, k3, k4, k5, k6, k7⟩ := tenF R0.out R1.out hS (by omega) (by omega); go_simp; try rfl)
        try simp only [Act.put, List.setIfInBounds_toArray, List.set_cons_zero, List.set_cons_succ]
        refine wpAnyH_take (i := 6) (v := ?_) (by simp only [List.getElem?_toArray, List.getElem?_cons_succ, List.getElem?_cons_zero]; rfl) (by kernel_rfl) (by kernel_rfl) (by kernel_rfl) (by exact fun _ _ _ h => h) (Or.inl ⟨by rfl, ?_⟩) hH ?_
        rotate_left
        · (intro wS hS; clear hS; go_simp; try rfl)
        try simp only [Act.put, List.setIfInBounds_toArray, List.set_cons_zero, List.set_cons_succ]
        refine wpAnyH_take (i := 7) (v := ?_) (by simp only [List.getElem?_toArray, List.getElem?_cons_succ, List.getElem?_cons_zero]; rfl) (by kernel_rfl) (by kernel_rfl) (by kernel_rfl) (by exact fun _ _ _ h => h) (Or.inl ⟨by rfl, ?_⟩) hH ?_
        rotate_left
        · (intro wS hS; clear hS; go_simp; try rfl)
        try simp only [Act.put, List.setIfInBounds_toArray, List.set_cons_zero, List.set_cons_succ]
        refine wpAnyH_take (i := 8) (v := ?_) (by simp only [List.getElem?_toArray, List.getElem?_cons_succ, List.getElem?_cons_zero]; rfl) (by kernel_rfl) (by kernel_rfl) (by kernel_rfl) (by exact fun _ _ _ h => h) (Or.inl ⟨by rfl, ?_⟩) hH ?_
        rotate_left
        · (intro wS hS; clear hS; go_simp; try rfl)
        try simp only [Act.put, List.setIfInBounds_toArray, List.set_cons_zero, List.set_cons_succ]
        refine wpAnyH_take (i := 9) (v := ?_) (by simp only [List.getElem?_toArray, List.getElem?_cons_succ, List.getElem?_cons_zero]; rfl) (by kernel_rfl) (by kernel_rfl) (by kernel_rfl) (by exact fun _ _ _ h => h) (Or.inl ⟨by rfl, ?_⟩) hH ?_
        rotate_left
        · (intro wS hS; clear hS; go_simp; try rfl)
        try simp only [Act.put, List.setIfInBounds_toArray, List.set_cons_zero, List.set_cons_succ]
        refine wpAnyH_take (i := 10) (v := ?_) (by simp only [List.getElem?_toArray, List.getElem?_cons_succ, List.getElem?_cons_zero]; rfl) (by kernel_rfl) (by kernel_rfl) (by kernel_rfl) (by exact fun _ _ _ h => h) (Or.inl ⟨by rfl, ?_⟩) hH ?_
        rotate_left
        · (intro wS hS; clear hS; go_simp; try rfl)
        try simp only [Act.put, List.setIfInBounds_toArray, List.set_cons_zero, List.set_cons_succ]
        refine wpAnyH_take (i := 11) (v := ?_) (by simp only [List.getElem?_toArray, List.getElem?_cons_succ, List.getElem?_cons_zero]; rfl) (by kernel_rfl) (by kernel_rfl) (by kernel_rfl) (by exact fun _ _ _ h => h) (Or.inl ⟨by rfl, ?_⟩) hH ?_
        rotate_left
        · (intro wS hS; clear hS; go_simp; try rfl)
        try simp only [Act.put, List.setIfInBounds_toArray, List.set_cons_zero, List.set_cons_succ]
        refine wpAnyH_take (i := 12) (v := ?_) (by simp only [List.getElem?_toArray, List.getElem?_cons_succ, List.getElem?_cons_zero]; rfl) (by kernel_rfl) (by kernel_rfl) (by kernel_rfl) (by exact fun _ _ _ h => h) (Or.inl ⟨by rfl, ?_⟩) hH ?_
        rotate_left
        · (intro wS hS; (try dsimp only at hS); obtain ⟨k1, k2, k3, k4, k5, k6, k7⟩ := tenF R0.out R1.out hS (by omega) (by omega); go_simp; try rfl)
        try simp only [Act.put, List.setIfInBounds_toArray, List.set_cons_zero, List.set_cons_succ]
        refine wpAnyH_ready (rs := [13]) (by kernel_rfl) (by simp) ?_
        refine AllReadyH.cons (by simp only [List.getElem?_toArray, List.getElem?_cons_succ, List.getElem?_cons_zero]; rfl) (fun KK hKK => ?_) AllReadyH.nil
        go_simp
        refine (sMulB y t _).mono ?_
        rintro e w' ⟨rfl, rfl⟩
        try dsimp only
        refine hKK.out _ _ ?_ (fun hH2 => ?_)
        · exact (FrS.refl _ wr).drew
        clear hKK KK
        have hO := hH
        clear hH
        have hH := hH2
        clear hH2
        try simp only [Act.put, List.setIfInBounds_toArray, List.set_cons_zero, List.set_cons_succ]
        refine wpAnyH_ready (rs := [14]) (by kernel_rfl) (by simp) ?_
        refine AllReadyH.cons (by simp only [List.getElem?_toArray, List.getElem?_cons_succ, List.getElem?_cons_zero]; rfl) (fun KK hKK => ?_) AllReadyH.nil
        go_simp
        refine (sAddB x _ _).mono ?_
        rintro e w' ⟨rfl, rfl⟩
        try dsimp only
        refine hKK.out _ _ ?_ (fun hH2 => ?_)
        · exact (FrS.refl _ wr).drew
        clear hKK KK
        have hO := hH
        clear hH
        have hH := hH2
        clear hH2
        try simp only [Act.put, List.setIfInBounds_toArray, List.set_cons_zero, List.set_cons_succ]
        refine wpAnyH_take (i := 15) (v := ?_) (by simp only [List.getElem?_toArray, List.getElem?_cons_succ, List.getElem?_cons_zero]; rfl) (by kernel_rfl) (by kernel_rfl) (by kernel_rfl) (by exact fun _ _ _ h => h) (Or.inl ⟨by rfl, ?_⟩) hH ?_
        rotate_left
        · (intro wS hS; clear hS; go_simp; try rfl)
        try simp only [Act.put, List.setIfInBounds_toArray, List.set_cons_zero, List.set_cons_succ]
        have IX := Lib.hid (I.out.set (Iq * C + q) (addB x (mulB y t))).drew
        refine wpAnyH_ready (rs := [16]) (by kernel_rfl) (by simp) ?_
        refine AllReadyH.cons (by simp only [List.getElem?_toArray, List.getElem?_cons_succ, List.getElem?_cons_zero]; rfl) (fun KK hKK => ?_) AllReadyH.nil
        go_simp
        try dsimp only
        refine hKK.out _ _ ?_ (fun hH2 => ?_)
        · exact ((FrS.refl (fun k => k = g) wr).set (a := ⟨g, Iq * C + q, none⟩) (.inl rfl) _).drew
        clear hKK KK
        have hO := hH
        clear hH
        have hH := hH2
        clear hH2
        try simp only [Act.put, List.setIfInBounds_toArray, List.set_cons_zero, List.set_cons_succ]
        refine wpAnyH_done (by kernel_rfl) ?_ _
        go_wp2_with fail
        go_roundw
        case rel => exact ⟨q + 1, by go_num, by omega, by have z := IX.out; rw [KE.out] at z ⊢; rw [← S2.out]; exact z, grown_drew_one (grown_set_one (a := ⟨g, Iq * C + q, none⟩) G.out rfl _)⟩
        case measure => simp [intOf]; omega
    · have hq2 : decide (q < C) = false := by simpa using hlt
      have hqC : q = C := by omega
      have EQ : Hid (opTo k Iq J t C xs q = opL k Iq J t C xs) := by
        show opTo k Iq J t C xs q = opL k Iq J t C xs
        rw [hqC]
        refine opTo_all _ _ _ _ _ _ ?_
        rcases Nat.eq_zero_or_pos C with e | e
        · left; rw [HX.out, HN.out, e, Nat.mul_zero]
        · exact .inr e
      clear hqC
      go_wp2_with fail
      have II : IntsZ S wr g (opL k Iq J t C xs) := by rw [← EQ.out]; exact I.out
      go_end0
      exact ⟨rfl, II, GW.out⟩
theorem sDo (R C Iq J g n cap : Nat) (k t : Int) (xs : List Int) (w : World) (hi : Ints w g xs) (hx : xs.length = n) (hn : n = R * C) (hR : R ≤ 24) (hC : C ≤ 24) (hI : Iq < R) (hJ : J < R) (hk : k = 0 ∨ k = 1 ∨ k = 2) (hIJ : k = 0 → Iq ≠ J) :
    Calls Try.prog 144 #[.agg #[.int .i64 R, .int .i64 C, .slice (some ⟨g, 0, none⟩) n cap], .agg #[.int .i64 k, .int .i64 Iq, .int .i64 J, .int .i64 t]] w (fun e w' => Void e ∧ Ints w' g (opL k Iq J t C xs) ∧ w.grownBy w' (some g)) := by
  obtain ⟨S, h⟩ := IntsZ.of hi
  exact (sDoZ S R C Iq J g n cap k t xs w h hx hn hR hC hI hJ hk hIJ).mono fun _ _ ⟨h1, h2, h3⟩ => ⟨h1, h2.1, h3⟩
end Go.Proofs.Ytpelnfenfeoeeaa
end

section
/-
  Chapter 5, in the model: a copy of a matrix without cells.
-/
namespace Go.Proofs.Ytpelnfenfeoeeaa
set_option maxRecDepth 100000
open Go.RowKit
theorem appendNil (w : World) (g c : Nat) : (Builtin.append_ #[22, 22] 22 #[.slice (some ⟨g, 0, none⟩) 0 0, .slice none 0 c]).run Try.prog w = .ok (.slice (some ⟨g, 0, none⟩) 0 0) w := by
  obtain ⟨fi, hfi, hz0, hz1, hz2⟩ := facts_int
  simp [Builtin.append_, go_sem, Builtin.lenOf, Builtin.firstCells, storeCells]
set_option maxHeartbeats 1000000 in
theorem sCopyN (r c : Int) (m : Nat) (w : World) :
    Calls Try.prog 54 #[.agg #[.int .i64 r, .int .i64 c, .slice none 0 m]] w (fun e w' => ∃ g cap : Nat, e = .returned (.agg #[.int .i64 r, .int .i64 c, .slice (some ⟨g, 0, none⟩) 0 cap]) ∧ w.heap.size ≤ g ∧ IntsC w' g cap [] ∧ Below w.heap.size w w') := by
  have BH : Hid (Below w.heap.size w ((w.alloc (.cells #[.int .i64 r, .int .i64 c, .slice none 0 m] 26)).alloc (.cells #[.int .i64 0, .int .i64 0, .slice none 0 0] 26))) := ((Below.refl _ _).alloc (Nat.le_refl _) _).alloc (by simp) _
  have K0 : Hid (Blk3 ((w.alloc (.cells #[.int .i64 r, .int .i64 c, .slice none 0 m] 26)).alloc (.cells #[.int .i64 0, .int .i64 0, .slice none 0 0] 26)) w.heap.size 26 (.int .i64 r) (.int .i64 c) (.slice none 0 m)) := (Blk3.at_ _ _ _ _ rfl).old _
  have K2 : Hid (Blk3 ((w.alloc (.cells #[.int .i64 r, .int .i64 c, .slice none 0 m] 26)).alloc (.cells #[.int .i64 0, .int .i64 0, .slice none 0 0] 26)) (w.heap.size + 1) 26 (.int .i64 0) (.int .i64 0) (.slice none 0 0)) := Blk3.at_ _ _ _ _ (by simp)
  obtain ⟨w2, hw2⟩ : ∃ w2, (w.alloc (.cells #[.int .i64 r, .int .i64 c, .slice none 0 m] 26)).alloc (.cells #[.int .i64 0, .int .i64 0, .slice none 0 0] 26) = w2 := ⟨_, rfl⟩
  rw [hw2] at BH K0 K2
  go_enter Try.func54, Try.ntmps54
  go_wp2_with fail
  clear hw2
  refine wp_region_held_drew (S := fun w' => FrS (fun k => k = w.heap.size + 1) w2 w') (by kernel_rfl) (FrS.refl _ _).drew (fun hH => ?_)
  refine wpAnyH_take (i := 0) (v := ?_) (by simp only [List.getElem?_toArray, List.getElem?_cons_zero]; rfl) (by kernel_rfl) (by kernel_rfl) (by kernel_rfl) (by exact fun _ _ _ h => h) (Or.inl ⟨by rfl, ?_⟩) hH ?_
  rotate_left
  · (intro wS hS; clear hS; go_simp; try rfl)
  try simp only [Act.put, List.setIfInBounds_toArray, List.set_cons_zero, List.set_cons_succ]
  refine wpAnyH_take (i := 1) (v := ?_) (by simp only [List.getElem?_toArray, List.getElem?_cons_succ, List.getElem?_cons_zero]; rfl) (by kernel_rfl) (by kernel_rfl) (by kernel_rfl) (by exact fun _ _ _ h => h) (Or.inl ⟨by rfl, ?_⟩) hH ?_
  rotate_left
  · (intro wS hS; (try dsimp only at hS); obtain ⟨k1, k2, k3⟩ := sevenF K0.out hS (by omega); go_simp; try rfl)
  try simp only [Act.put, List.setIfInBounds_toArray, List.set_cons_zero, List.set_cons_succ]
  refine wpAnyH_take (i := 2) (v := ?_) (by simp only [List.getElem?_toArray, List.getElem?_cons_succ, List.getElem?_cons_zero]; rfl) (by kernel_rfl) (by kernel_rfl) (by kernel_rfl) (by exact fun _ _ _ h => h) (Or.inl ⟨by rfl, ?_⟩) hH ?_
  rotate_left
  · (intro wS hS; clear hS; go_simp; try rfl)
  try simp only [Act.put, List.setIfInBounds_toArray, List.set_cons_zero, List.set_cons_succ]
  refine wpAnyH_take (i := 3) (v := ?_) (by simp only [List.getElem?_toArray, List.getElem?_cons_succ, List.getElem?_cons_zero]; rfl) (by kernel_rfl) (by kernel_rfl) (by kernel_rfl) (by exact fun _ _ _ h => h) (Or.inl ⟨by rfl, ?_⟩) hH ?_
  rotate_left
  · (intro wS hS; (try dsimp only at hS); obtain ⟨k1, k2, k3⟩ := sevenF K0.out hS (by omega); go_simp; try rfl)
  try simp only [Act.put, List.setIfInBounds_toArray, List.set_cons_zero, List.set_cons_succ]
  refine wpAnyH_take (i := 5) (v := ?_) (by simp only [List.getElem?_toArray, List.getElem?_cons_succ, List.getElem?_cons_zero]; rfl) (by kernel_rfl) (by kernel_rfl) (by kernel_rfl) (by exact fun _ _ _ h => h) (Or.inl ⟨by rfl, ?_⟩) hH ?_
  rotate_left
  · (intro wS hS; clear hS; go_simp; try rfl)
  try simp only [Act.put, List.setIfInBounds_toArray, List.set_cons_zero, List.set_cons_succ]
  refine wpAnyH_take (i := 6) (v := ?_) (by simp only [List.getElem?_toArray, List.getElem?_cons_succ, List.getElem?_cons_zero]; rfl) (by kernel_rfl) (by kernel_rfl) (by kernel_rfl) (by exact fun _ _ _ h => h) (Or.inl ⟨by rfl, ?_⟩) hH ?_
  rotate_left
  · (intro wS hS; (try dsimp only at hS); obtain ⟨k1, k2, k3⟩ := sevenF K0.out hS (by omega); go_simp; try rfl)
  try simp only [Act.put, List.setIfInBounds_toArray, List.set_cons_zero, List.set_cons_succ]
  refine wpAnyH_ready (rs := [4]) (by kernel_rfl) (by simp) ?_
  refine AllReadyH.cons (by simp only [List.getElem?_toArray, List.getElem?_cons_succ, List.getElem?_cons_zero]; rfl) (fun KK hKK => ?_) AllReadyH.nil
  go_simp
  try dsimp only
  refine hKK.out _ _ ?_ (fun hH2 => ?_)
  · exact (((FrS.refl _ w2).alloc _).drew)
  clear hKK KK
  have hO := hH
  clear hH
  have hH := hH2
  clear hH2
  try simp only [Act.put, List.setIfInBounds_toArray, List.set_cons_zero, List.set_cons_succ]
  have own0 : ((w2.alloc (.cells #[] 3)).drew).ownsRow w2.heap.size 3 1 (.slice (some ⟨w2.heap.size, 0, none⟩) 0 0) 0 (([] : List Int).map (Value.int .i64)) := ⟨rfl, .inr ⟨w2.heap.size, 0, #[], rfl, Nat.le_refl _, heap_alloc_new w2 _, Nat.le_refl _, by decide, rfl, rfl⟩⟩
  have BA : Hid (Below w2.heap.size w2 ((w2.alloc (.cells #[] 3)).drew)) := ((Below.refl _ _).alloc (Nat.le_refl _) _).drew
  have hr1 := appendNil ((w2.alloc (.cells #[] 3)).drew) w2.heap.size m
  refine wpAnyH_ready (rs := [7]) (by kernel_rfl) (by simp) ?_
  refine AllReadyH.cons (by simp only [List.getElem?_toArray, List.getElem?_cons_succ, List.getElem?_cons_zero]; rfl) (fun KK hKK => ?_) AllReadyH.nil
  refine step_append rfl _ _ 22 rfl _ _ rfl rfl _ _ hr1 ?_
  have BA1 := BA
  try dsimp only
  refine hKK.out _ _ ?_ (fun hH2 => ?_)
  · exact FrS.of_below BA1.out
  clear hKK KK
  have hO := hH
  clear hH
  have hH := hH2
  clear hH2
  try simp only [Act.put, List.setIfInBounds_toArray, List.set_cons_zero, List.set_cons_succ]
  have O2 : Hid (OwnC w2.heap.size ((w2.alloc (.cells #[] 3)).drew) (.slice (some ⟨w2.heap.size, 0, none⟩) 0 0) []) := OwnC.of_row own0
  have O3 := O2.out
  rcases O3 with ⟨h, -⟩ | ⟨g, qc2, hv, gB, gI⟩
  · exact absurd h (by simp)
  have GB := Lib.hid gB
  have GI := Lib.hid gI
  simp only [Value.slice.injEq, Option.some.injEq, Addr.mk.injEq] at hv
  obtain ⟨⟨rfl, -, -⟩, -, rfl⟩ := hv
  clear gB gI
  obtain ⟨wa, hwa⟩ : ∃ wa, (w2.alloc (.cells #[] 3)).drew = wa := ⟨_, rfl⟩
  rw [hwa] at GI O2 BA1 own0 hr1 hH ⊢
  refine wpAnyH_take (i := 8) (v := ?_) (by simp only [List.getElem?_toArray, List.getElem?_cons_succ, List.getElem?_cons_zero]; rfl) (by kernel_rfl) (by kernel_rfl) (by kernel_rfl) (by exact fun _ _ _ h => h) (Or.inl ⟨by rfl, ?_⟩) hH ?_
  rotate_left
  · (intro wS hS; clear hS; go_simp; try rfl)
  try simp only [Act.put, List.setIfInBounds_toArray, List.set_cons_zero, List.set_cons_succ]
  have K2 := Lib.hid (K2.out.step BA1.out)
  obtain ⟨s0, s1, s2, f0, f1, f2⟩ := K2.out.all
  have gs : ∀ x y z, FrS (fun k => k = w.heap.size + 1) w2 (((wa.setCell ⟨w.heap.size + 1, 0, none⟩ x).setCell ⟨w.heap.size + 1, 1, none⟩ y).setCell ⟨w.heap.size + 1, 2, none⟩ z) := fun x y z => (FrS.of_below (p := fun k => k = w.heap.size + 1) BA1.out).set3 (b := w.heap.size + 1) (.inl rfl) x y z
  have GS := Lib.hid gs
  clear gs
  refine wpAnyH_ready (rs := [9]) (by kernel_rfl) (by simp) ?_
  refine AllReadyH.cons (by simp only [List.getElem?_toArray, List.getElem?_cons_succ, List.getElem?_cons_zero]; rfl) (fun KK hKK => ?_) AllReadyH.nil
  go_simp
  try dsimp only
  refine hKK.out _ _ ?_ (fun hH2 => ?_)
  · exact GS.out _ _ _
  clear hKK KK
  have hO := hH
  clear hH
  have hH := hH2
  clear hH2
  try simp only [Act.put, List.setIfInBounds_toArray, List.set_cons_zero, List.set_cons_succ]
  refine wpAnyH_done (by kernel_rfl) ?_ _
  go_wp2_with fail
  obtain ⟨E0, E1, E2, -, -, -⟩ := (K2.out.set3 (.int .i64 r) (.int .i64 c) (.slice (some ⟨w2.heap.size, 0, none⟩) 0 0)).all
  have B2 := BH.out.trans (BA1.out.mono BH.out.size)
  refine bodyPost_ret (v := .agg #[.int .i64 r, .int .i64 c, .slice (some ⟨w2.heap.size, 0, none⟩) 0 0]) (by simp [results, Try.results54, go_sem, E0, E1, E2]) rfl ⟨w2.heap.size, 0, rfl, Nat.le_trans BH.out.size GB.out, ((GI.out.far (GI.out.ints.ne_blk K2.out) _).far (GI.out.ints.ne_blk K2.out) _).far (GI.out.ints.ne_blk K2.out) _, ?_⟩
  exact (((B2.setCell (by show w.heap.size ≤ w.heap.size + 1; omega) _).setCell (by show w.heap.size ≤ w.heap.size + 1; omega) _).setCell (by show w.heap.size ≤ w.heap.size + 1; omega) _)
def Spot (a : Option Addr) : Prop := a = none ∨ ∃ g o : Nat, a = some ⟨g, o, none⟩
theorem Spot.of (g o : Nat) : Spot (some ⟨g, o, none⟩) := .inr ⟨g, o, rfl⟩
theorem sCopyA (r c : Int) (a : Option Addr) (m n : Nat) (xs : List Int) (w : World) (h : Rd w a xs) (ha : Spot a) (hx : xs.length = n) (hn : n ≤ 1048576) :
    Calls Try.prog 54 #[.agg #[.int .i64 r, .int .i64 c, .slice a n m]] w (fun e w' => ∃ g cap : Nat, e = .returned (.agg #[.int .i64 r, .int .i64 c, .slice (some ⟨g, 0, none⟩) n cap]) ∧ w.heap.size ≤ g ∧ IntsC w' g cap xs ∧ Below w.heap.size w w') := by
  rcases ha with rfl | ⟨g, o, rfl⟩
  · have e : xs = [] := by
      cases xs with
      | nil => rfl
      | cons x xs => obtain ⟨b, o, h1, -⟩ := h 0 (by simp); exact absurd h1 (by simp)
    subst e
    subst hx
    exact sCopyN r c m w
  · exact sCopy r c g o m n xs w h hx hn
end Go.Proofs.Ytpelnfenfeoeeaa
end

section
/-
  Chapter 3, in the model: a matrix that is done.
-/
namespace Go.Proofs.Ytpelnfenfeoeeaa
open Go.RowKit
def DoneRes (r c : Int) (v : Value) (ok : Bool) : Value := if ok = true then .tuple #[.agg #[.int .i64 r, .int .i64 c, v], .bool true] else .tuple #[.agg #[.int .i64 0, .int .i64 0, .slice none 0 0], .bool false]
end Go.Proofs.Ytpelnfenfeoeeaa
end

section
/-
  Chapter 5, in the model: DoRowOp.
-/
namespace Go.Proofs.Ytpelnfenfeoeeaa
set_option maxRecDepth 100000
open Go.RowKit
def opM (k i j t r c : Int) (xs : List Int) : MR := if (isMat r c xs && isOp k i j t r) = true then MR.done r c (opL k i.toNat j.toNat t c.toNat xs) else MR.no
theorem isOp_says {k i j t r : Int} (h : isOp k i j t r = true) : (k = 0 ∨ k = 1 ∨ k = 2) ∧ (0 ≤ r ∧ r ≤ 24) ∧ (0 ≤ i ∧ i < r) ∧ (0 ≤ j ∧ j < r) ∧ NumP t ∧ (k = 0 → i ≠ j) := by
  unfold isOp rangeOp at h
  simp only [Bool.and_eq_true, decide_eq_true_eq] at h
  obtain ⟨⟨⟨⟨⟨h1, h2⟩, h3⟩, h4⟩, h5⟩, h6⟩ := h
  refine ⟨by omega, h2, by omega, by omega, h5, ?_⟩
  rintro rfl
  simp at h6
  exact fun e => h6.1 e.symm
end Go.Proofs.Ytpelnfenfeoeeaa
end

section
/-
  Plain mathematics of chapter 5: an operation on rows without marks. Nothing of a program is used.
-/
namespace Go.Proofs.Ytpelnfenfeoeeaa
open Go.RowKit
theorem isOp_rows0 {i j t r : Int} (h : isOp 0 i j t r = true) : i ≠ j := by
  unfold isOp at h; simp at h; exact fun e => h.2.1 e.symm
theorem isOp_rows1 {i j t r : Int} (h : isOp 1 i j t r = true) : i = j := by
  unfold isOp at h; simp at h; exact h.2.1.symm
theorem isOp_rows2 {i j t r : Int} (h : isOp 2 i j t r = true) : i ≠ j := by
  unfold isOp at h; simp at h; exact fun e => h.2 e.symm
def colTo (f : Nat → Int) (C : Nat) (xs : List Int) (q : Nat) : List Int := (List.range xs.length).map fun p => if p % C < q then f p else xs.getD p 0
theorem colTo_length (f : Nat → Int) (C : Nat) (xs : List Int) (q : Nat) : (colTo f C xs q).length = xs.length := by simp [colTo]
theorem colTo_getD (f : Nat → Int) (C : Nat) (xs : List Int) (q p : Nat) (hp : p < xs.length) : (colTo f C xs q).getD p 0 = if p % C < q then f p else xs.getD p 0 := by
  simp [colTo, List.getD, hp]
theorem colTo_zero (f : Nat → Int) (C : Nat) (xs : List Int) : colTo f C xs 0 = xs := by
  refine list_getD (colTo_length _ _ _ _) fun p hp => ?_
  rw [colTo_length] at hp
  rw [colTo_getD _ _ _ _ _ hp, if_neg (by omega)]
theorem colTo_all (f : Nat → Int) (C : Nat) (xs : List Int) (h : xs.length = 0 ∨ 0 < C) : colTo f C xs C = (List.range xs.length).map f := by
  unfold colTo
  refine List.map_congr_left fun p hp => ?_
  have hp := List.mem_range.mp hp
  rw [if_pos (Nat.mod_lt p (by omega))]
theorem colTo_two (f : Nat → Int) (I J C R : Nat) (xs : List Int) (q : Nat) (a b : Int) (hl : xs.length = R * C) (hI : I < R) (hJ : J < R) (hq : q < C)
    (hb : f (J * C + q) = b) (ha : I ≠ J → f (I * C + q) = a) (hr : ∀ p, p / C ≠ I → p / C ≠ J → f p = xs.getD p 0) :
    ((colTo f C xs q).set (I * C + q) a).set (J * C + q) b = colTo f C xs (q + 1) := by
  have a1 : I * C + q < xs.length := by rw [hl]; exact idx_lt hI hq
  have a2 : J * C + q < xs.length := by rw [hl]; exact idx_lt hJ hq
  refine list_getD (by rw [List.length_set, List.length_set, colTo_length, colTo_length]) fun p hp => ?_
  rw [List.length_set, List.length_set, colTo_length] at hp
  rw [getD_set _ _ _ _ (by rw [List.length_set, colTo_length]; exact a2), getD_set _ _ _ _ (by rw [colTo_length]; exact a1), colTo_getD _ _ _ _ _ hp, colTo_getD _ _ _ _ _ hp]
  by_cases e : p % C = q
  · have sp := split_idx e
    rw [if_pos (show p % C < q + 1 by omega), if_neg (show ¬ p % C < q by omega)]
    by_cases e2 : p / C = J
    · have : p = J * C + q := by rw [← e2]; exact sp
      rw [if_pos this, this, hb]
    · rw [if_neg (fun h => e2 (by rw [h, idx_div hq]))]
      by_cases e1 : p / C = I
      · have : p = I * C + q := by rw [← e1]; exact sp
        rw [if_pos this, this, ha (fun h => e2 (by rw [e1, h]))]
      · rw [if_neg (fun h => e1 (by rw [h, idx_div hq])), hr p e1 e2]
  · rw [if_neg (fun h => e (by rw [h, idx_mod hq])), if_neg (fun h => e (by rw [h, idx_mod hq]))]
    by_cases e2 : p % C < q
    · rw [if_pos e2, if_pos (by omega)]
    · rw [if_neg e2, if_neg (by omega)]
def rwAt (k : Int) (I J : Nat) (t : Int) (C : Nat) (xs : List Int) (p : Nat) : Int :=
  if k = 0 then (if p / C = I then xs.getD (J * C + p % C) 0 else if p / C = J then xs.getD (I * C + p % C) 0 else xs.getD p 0)
  else if k = 1 then (if p / C = I then - xs.getD p 0 else xs.getD p 0)
  else (if p / C = I then xs.getD p 0 + xs.getD (J * C + p % C) 0 * t else xs.getD p 0)
def prodTo (k : Int) (J : Nat) (t : Int) (C : Nat) (xs : List Int) (q : Nat) : Prop := k = 2 → ∀ s, s < q → NumP (xs.getD (J * C + s) 0 * t)
theorem prodTo_zero (k : Int) (J : Nat) (t : Int) (C : Nat) (xs : List Int) : prodTo k J t C xs 0 := fun _ s hs => absurd hs (by omega)
theorem prodTo_succ {k : Int} {J : Nat} {t : Int} {C : Nat} {xs : List Int} {q : Nat} (h : prodTo k J t C xs q) (h2 : k = 2 → NumP (xs.getD (J * C + q) 0 * t)) : prodTo k J t C xs (q + 1) := fun hk s hs => by
  rcases Nat.lt_or_ge s q with h3 | h3
  · exact h hk s h3
  · obtain rfl : s = q := by omega
    exact h2 hk
theorem rw_swap (I J : Nat) (t : Int) (C R : Nat) (xs : List Int) (q : Nat) (hl : xs.length = R * C) (hI : I < R) (hJ : J < R) (hq : q < C) (hIJ : I ≠ J) :
    ((colTo (rwAt 0 I J t C xs) C xs q).set (I * C + q) (xs.getD (J * C + q) 0)).set (J * C + q) (xs.getD (I * C + q) 0) = colTo (rwAt 0 I J t C xs) C xs (q + 1) := by
  refine colTo_two _ I J C R xs q _ _ hl hI hJ hq ?_ (fun _ => ?_) fun p h1 h2 => ?_
  · unfold rwAt; rw [if_pos rfl, idx_div hq, idx_mod hq, if_neg (fun h => hIJ h.symm), if_pos rfl]
  · unfold rwAt; rw [if_pos rfl, idx_div hq, idx_mod hq, if_pos rfl]
  · unfold rwAt; rw [if_pos rfl, if_neg h1, if_neg h2]
theorem rw_neg (I : Nat) (t : Int) (C R : Nat) (xs : List Int) (q : Nat) (hl : xs.length = R * C) (hI : I < R) (hq : q < C) :
    ((colTo (rwAt 1 I I t C xs) C xs q).set (I * C + q) (- xs.getD (I * C + q) 0)).set (I * C + q) (- xs.getD (I * C + q) 0) = colTo (rwAt 1 I I t C xs) C xs (q + 1) := by
  refine colTo_two _ I I C R xs q _ _ hl hI hI hq ?_ (fun h => absurd rfl h) fun p h1 h2 => ?_
  · unfold rwAt; rw [if_neg (by decide), if_pos rfl, idx_div hq, if_pos rfl]
  · unfold rwAt; rw [if_neg (by decide), if_pos rfl, if_neg h1]
theorem rw_add (I J : Nat) (t : Int) (C R : Nat) (xs : List Int) (q : Nat) (hl : xs.length = R * C) (hI : I < R) (hJ : J < R) (hq : q < C) (hIJ : I ≠ J) :
    ((colTo (rwAt 2 I J t C xs) C xs q).set (I * C + q) (xs.getD (I * C + q) 0 + xs.getD (J * C + q) 0 * t)).set (J * C + q) (xs.getD (J * C + q) 0) = colTo (rwAt 2 I J t C xs) C xs (q + 1) := by
  refine colTo_two _ I J C R xs q _ _ hl hI hJ hq ?_ (fun _ => ?_) fun p h1 h2 => ?_
  · unfold rwAt; rw [if_neg (by decide), if_neg (by decide), idx_div hq, if_neg (fun h => hIJ h.symm)]
  · unfold rwAt; rw [if_neg (by decide), if_neg (by decide), idx_div hq, idx_mod hq, if_pos rfl]
  · unfold rwAt; rw [if_neg (by decide), if_neg (by decide), if_neg h1]
theorem fitB_num {z : Int} (h : NumP z) : fitB z = z := by unfold fitB; rw [if_pos h]
theorem bad_ne {z : Int} (h : NumP z) : z ≠ badN := by unfold NumP at h; unfold badN; omega
theorem wrap_small {z : Int} (h : -1000000000000000000 ≤ z ∧ z ≤ 1000000000000000000) : wrap64 z = z := IntWalk.wrap64_in _ (by omega)
theorem mulB_num {a b : Int} (ha : NumP a) (hb : NumP b) : mulB a b = fitB (a * b) := by
  unfold mulB
  have := mul_num a b ha hb
  rw [if_neg (fun h => h.elim (bad_ne ha) (bad_ne hb)), wrap_small (by omega)]
theorem addB_num {a b : Int} (ha : NumP a) (hb : NumP b) : addB a b = fitB (a + b) := by
  unfold addB
  obtain ⟨a1, a2⟩ := ha
  obtain ⟨b1, b2⟩ := hb
  rw [if_neg (fun h => h.elim (bad_ne ⟨a1, a2⟩) (bad_ne ⟨b1, b2⟩)), wrap_small (by omega)]
theorem addB_bad (a : Int) : addB a badN = badN := by unfold addB; rw [if_pos (.inr rfl)]
theorem nums_def {xs : List Int} (h : nums xs = true) (p : Nat) : NumP (xs.getD p 0) := by
  rcases Nat.lt_or_ge p xs.length with h1 | h1
  · exact nums_at h h1
  · simp [List.getD, h1, NumP]
theorem opAt_raw (k : Int) (I J : Nat) (t : Int) (C : Nat) (xs : List Int) (p : Nat) (hk : k = 0 ∨ k = 1 ∨ k = 2) (hx : nums xs = true) (ht : NumP t) (hp : k = 2 → p / C = I → NumP (xs.getD (J * C + p % C) 0 * t)) :
    opAt k I J t C xs p = fitB (rwAt k I J t C xs p) := by
  unfold opAt rwAt
  rcases hk with rfl | rfl | rfl
  · rw [if_pos rfl, if_pos rfl, fitB_num]
    by_cases e1 : p / C = I
    · rw [if_pos e1]; exact nums_def hx _
    · rw [if_neg e1]
      by_cases e2 : p / C = J
      · rw [if_pos e2]; exact nums_def hx _
      · rw [if_neg e2]; exact nums_def hx _
  · simp only [show (1 : Int) ≠ 0 by decide, if_false, if_true]
    by_cases e1 : p / C = I
    · rw [if_pos e1, if_pos e1, mulB_num (nums_def hx _) (by decide), Int.mul_neg, Int.mul_one]
    · rw [if_neg e1, if_neg e1, fitB_num (nums_def hx _)]
  · simp only [show (2 : Int) ≠ 0 by decide, show (2 : Int) ≠ 1 by decide, if_false]
    by_cases e1 : p / C = I
    · rw [if_pos e1, if_pos e1, mulB_num (nums_def hx _) ht, fitB_num (hp rfl e1), addB_num (nums_def hx _) (hp rfl e1)]
    · rw [if_neg e1, if_neg e1, fitB_num (nums_def hx _)]
theorem fitB_bad {z : Int} (h : ¬ NumP z) : fitB z = badN := by unfold fitB; rw [if_neg h]
theorem bad_not : ¬ NumP badN := by decide
theorem done_fit (r c : Int) (f g : Nat → Int) (n : Nat) (h : ∀ p, p < n → f p = fitB (g p)) : MR.done r c ((List.range n).map f) = MR.done r c ((List.range n).map g) := by
  by_cases hn : nums ((List.range n).map g) = true
  · have : (List.range n).map f = (List.range n).map g := by
      refine List.map_congr_left fun p hp => ?_
      have hp := List.mem_range.mp hp
      have := nums_at hn (j := p) (by simpa using hp)
      rw [h p hp, fitB_num]
      simpa [List.getD, hp] using this
    rw [this]
  · have hf : nums ((List.range n).map f) = false := by
      rcases Bool.eq_false_or_eq_true (nums ((List.range n).map f)) with hf | hf
      · refine absurd (nums_true fun p hp => ?_) hn
        have hp' : p < n := by simpa using hp
        have := nums_at hf (j := p) (by simpa using hp')
        simp only [List.getD, List.getElem?_map, List.getElem?_range hp', Option.map_some, Option.getD_some] at this ⊢
        by_cases hg : NumP (g p)
        · exact hg
        · rw [h p hp', fitB_bad hg] at this
          exact absurd this bad_not
      · exact hf
    have hg : nums ((List.range n).map g) = false := by simpa using hn
    have e1 : isMat r c ((List.range n).map f) = false := by unfold isMat; rw [hf]; simp
    have e2 : isMat r c ((List.range n).map g) = false := by unfold isMat; rw [hg]; simp
    unfold MR.done
    rw [e1, e2]; rfl
theorem rw_done (k : Int) (I J : Nat) (t : Int) (R C : Nat) (xs : List Int) (hk : k = 0 ∨ k = 1 ∨ k = 2) (hl : xs.length = R * C) (hx : nums xs = true) (ht : NumP t) (hp : prodTo k J t C xs C) :
    MR.done R C (opL k I J t C xs) = MR.done R C (colTo (rwAt k I J t C xs) C xs C) := by
  have hC : xs.length = 0 ∨ 0 < C := by
    rcases Nat.eq_zero_or_pos C with h | h
    · left; rw [hl, h, Nat.mul_zero]
    · exact .inr h
  rw [colTo_all _ _ _ hC]
  unfold opL
  refine done_fit _ _ _ _ _ fun p hp' => opAt_raw k I J t C xs p hk hx ht fun h2 _ => hp h2 _ (Nat.mod_lt p ?_)
  omega
theorem rw_over (I J : Nat) (t : Int) (R C : Nat) (xs : List Int) (q : Nat) (hl : xs.length = R * C) (hI : I < R) (hq : q < C) (hx : nums xs = true) (ht : NumP t) (hb : ¬ NumP (xs.getD (J * C + q) 0 * t)) :
    MR.done R C (opL 2 I J t C xs) = MR.no := by
  have hi : I * C + q < xs.length := by rw [hl]; exact idx_lt hI hq
  have e : (opL 2 I J t C xs).getD (I * C + q) 0 = badN := by
    unfold opL
    simp only [List.getD, List.getElem?_map, List.getElem?_range hi, Option.map_some, Option.getD_some]
    rw [opAt_two _ _ _ _ _ hq, mulB_num (nums_def hx _) ht, fitB_bad hb, addB_bad]
  have e2 : nums (opL 2 I J t C xs) = false := nums_false (j := I * C + q) (by rw [opL_length]; exact hi) (by rw [e]; exact bad_not)
  unfold MR.done isMat
  rw [e2]; simp
end Go.Proofs.Ytpelnfenfeoeeaa
end

section
/-
  Plain mathematics of chapter 6: a matrix without a row and a column is a minor. Nothing of a program is used.
-/
namespace Go.Proofs.Ytpelnfenfeoeeaa
end Go.Proofs.Ytpelnfenfeoeeaa
end

section
/-
  Determinants: expansion along any row and column; turned over; of products; the adjugate. Plain mathematics: nothing of a program is used.
-/
namespace Go.Proofs.Ytpelnfenfeoeeaa
def ej (j c : Nat) : Int := if c = j then 1 else 0
def idX : Mx := fun r c => if r = c then 1 else 0
def trX (A : Mx) : Mx := fun r c => A c r
def mulX (n : Nat) (A B : Mx) : Mx := fun i j => sumN n fun k => A i k * B k j
theorem ej_self (j : Nat) : ej j j = 1 := if_pos rfl
theorem ej_ne {j c : Nat} (h : c ≠ j) : ej j c = 0 := if_neg h
theorem mnr_mnr (A : Mx) (i j : Nat) : mnr (mnr A (i + 1) 0) 0 j = mnr (mnr A 0 (j + 1)) i 0 := by
  funext r c
  show A (skp (i + 1) (skp 0 r)) (skp 0 (skp j c)) = A (skp 0 (skp i r)) (skp (j + 1) (skp 0 c))
  rw [skp_zero, skp_zero, skp_zero, skp_zero, skp_succ, skp_succ]
theorem det_unit (n : Nat) : ∀ (A : Mx) (j : Nat), j < n + 1 → det (n + 1) (stR A 0 (ej j)) = sg j * det n (mnr A 0 j) := by
  induction n with
  | zero =>
    intro A j hj
    obtain rfl : j = 0 := by omega
    rw [det_succ]
    show 0 + sg 0 * stR A 0 (ej 0) 0 0 * 1 = sg 0 * 1
    rw [stR_at, ej_self]
    omega
  | succ n ih =>
    intro A j hj
    rw [det_succ, sumN_first]
    cases j with
    | zero =>
      rw [mnr_stR_same, stR_at, ej_self, sumN_all_zero]
      · rw [Int.add_zero, Int.mul_one]
      · intro i hi
        rw [mnr_stR _ _ _ _ _ (by omega)]
        have e : unskp (i + 1) 0 = 0 := by unfold unskp; rw [if_pos (by omega)]
        have e2 : (fun c => ej 0 (skp 0 c)) = fun _ => 0 := by
          funext c
          exact ej_ne (skp_ne 0 c)
        rw [e, e2, lin_zero (det_lin (n + 1)) (by omega), Int.mul_zero]
    | succ j =>
      rw [stR_at, ej_ne (by omega), Int.mul_zero, Int.zero_mul, Int.zero_add, det_succ, sumN_mul_left]
      refine sumN_congr fun i hi => ?_
      rw [stR_ne _ _ _ _ _ (by omega), mnr_stR _ _ _ _ _ (by omega)]
      have e : unskp (i + 1) 0 = 0 := by unfold unskp; rw [if_pos (by omega)]
      have e2 : (fun c => ej (j + 1) (skp 0 c)) = ej j := by
        funext c
        rw [skp_zero]
        unfold ej
        by_cases h : c = j
        · rw [if_pos h, if_pos (by omega)]
        · rw [if_neg h, if_neg (by omega)]
      rw [e, e2, ih _ j (by omega), mnr_mnr, sg_succ, sg_succ]
      have e3 : mnr A 0 (j + 1) i 0 = A (i + 1) 0 := by
        show A (skp 0 i) (skp (j + 1) 0) = _
        rw [skp_zero, skp_first _ (by omega)]
      rw [e3]
      generalize det n (mnr (mnr A 0 (j + 1)) i 0) = d
      generalize A (i + 1) 0 = a
      generalize sg i = s
      generalize sg j = t
      grind
theorem row_sum (n : Nat) (v : Nat → Int) (c : Nat) (hc : c < n) : v c = sumN n fun k => v k * ej k c := by
  rw [sumN_one (a := c) hc (fun k _ hk => by rw [ej_ne (Ne.symm hk), Int.mul_zero]), ej_self, Int.mul_one]
theorem row_split {n r : Nat} {f : Mx → Int} (hl : Lin n f) (ho : Loc n f) (hr : r < n) (A : Mx) : f A = sumN n fun j => A r j * f (stR A r (ej j)) := by
  rw [← lin_sum hl hr A n (A r) ej]
  refine ho _ _ fun i c hi hc => ?_
  unfold stR
  by_cases h : i = r
  · rw [if_pos h, h]
    exact row_sum n (A r) c hc
  · rw [if_neg h]
theorem det_row (n : Nat) (A : Mx) : det (n + 1) A = sumN (n + 1) fun j => sg j * A 0 j * det n (mnr A 0 j) := by
  rw [row_split (det_lin (n + 1)) (det_loc (n + 1)) (r := 0) (by omega)]
  refine sumN_congr fun j hj => ?_
  rw [det_unit n A j hj]
  generalize det n (mnr A 0 j) = d
  generalize sg j = s
  grind
theorem mnr_trX (A : Mx) (i j : Nat) : mnr (trX A) i j = trX (mnr A j i) := rfl
theorem det_tr (n : Nat) : ∀ A : Mx, det n (trX A) = det n A := by
  induction n with
  | zero => intro A; rfl
  | succ n ih =>
    intro A
    rw [det_succ, det_row]
    refine sumN_congr fun i _ => ?_
    rw [mnr_trX, ih]
    rfl
theorem det_id (n : Nat) : det n idX = 1 := by
  induction n with
  | zero => rfl
  | succ n ih =>
    rw [det_succ, sumN_one (a := 0) (by omega)]
    · have e : mnr idX 0 0 = idX := by
        funext r c
        show (if skp 0 r = skp 0 c then (1 : Int) else 0) = if r = c then 1 else 0
        rw [skp_zero, skp_zero]
        by_cases h : r = c
        · rw [if_pos h, if_pos (by omega)]
        · rw [if_neg h, if_neg (by omega)]
      rw [e, ih]; rfl
    · intro i _ hi
      have : idX i 0 = 0 := if_neg hi
      rw [this, Int.mul_zero, Int.zero_mul]
end Go.Proofs.Ytpelnfenfeoeeaa
end

section
/-
  Elimination without fractions: the cells that are made are bordered minors, so each division is exact. Plain mathematics: nothing of a program is used.
-/
namespace Go.Proofs.Ytpelnfenfeoeeaa
end Go.Proofs.Ytpelnfenfeoeeaa
end

section
/-
  Plain mathematics of chapter 6: the determinant by expansion along the first row, with a mark where one that is met is beyond the limit. Nothing of a program is used.
-/
namespace Go.Proofs.Ytpelnfenfeoeeaa
def mxL (n : Nat) (xs : List Int) : Mx := fun r c => xs.getD (r * n + c) 0
theorem fitB_or (z : Int) : fitB z = badN ∨ NumP (fitB z) := by
  unfold fitB
  by_cases h : NumP z
  · rw [if_pos h]; exact .inr h
  · rw [if_neg h]; exact .inl rfl
end Go.Proofs.Ytpelnfenfeoeeaa
end

section
/-
  Chapter 3, in the model: a matrix of zeros.
-/
namespace Go.Proofs.Ytpelnfenfeoeeaa
open Go.RowKit
end Go.Proofs.Ytpelnfenfeoeeaa
end

section
/-
  Plain mathematics: a row that is filled from the left.
-/
namespace Go.Proofs.Ytpelnfenfeoeeaa
end Go.Proofs.Ytpelnfenfeoeeaa
end

section
/-
  Chapter 3, in the model: IdentityMatrix.
-/
namespace Go.Proofs.Ytpelnfenfeoeeaa
open Go.RowKit
def idL (n k : Nat) : List Int := (List.range (n * n)).map fun j => if j % (n + 1) = 0 ∧ j < k * (n + 1) then 1 else 0
theorem idL_length (n k : Nat) : (idL n k).length = n * n := by simp [idL]
theorem idL_zero (n : Nat) : idL n 0 = List.replicate (n * n) 0 := by
  apply List.ext_getElem (by simp [idL])
  intro i h1 h2
  simp [idL]
theorem idL_at (n k : Nat) : (idL n k).getD (k * n + k) 0 = 0 := by
  have e : k * n + k = k * (n + 1) := (Nat.mul_succ k n).symm
  rw [e]
  unfold idL List.getD
  rcases Nat.lt_or_ge (k * (n + 1)) (n * n) with h | h
  · simp [h]
  · simp [h]
theorem idL_step (n k : Nat) : (idL n k).set (k * n + k) 1 = idL n (k + 1) := by
  have e : k * n + k = k * (n + 1) := (Nat.mul_succ k n).symm
  rw [e]
  apply List.ext_getElem (by simp [idL])
  intro i h1 h2
  have hi : i < n * n := by simpa [idL] using h2
  rw [List.getElem_set]
  by_cases hk : k * (n + 1) = i
  · rw [if_pos hk]
    have h3 : i % (n + 1) = 0 := by rw [← hk]; exact Nat.mul_mod_left _ _
    have h4 : i < (k + 1) * (n + 1) := by rw [← hk, Nat.succ_mul]; omega
    simp [idL, h3, h4]
  · rw [if_neg hk]
    have h5 : (i % (n + 1) = 0 ∧ i < k * (n + 1)) ↔ (i % (n + 1) = 0 ∧ i < (k + 1) * (n + 1)) := by
      constructor
      · rintro ⟨a, b⟩; exact ⟨a, by rw [Nat.succ_mul]; omega⟩
      · rintro ⟨a, b⟩
        refine ⟨a, ?_⟩
        obtain ⟨q, hq⟩ := Nat.dvd_of_mod_eq_zero a
        rw [Nat.mul_comm] at hq
        rw [hq] at b ⊢
        have := Nat.lt_of_mul_lt_mul_right b
        have hne : q ≠ k := by rintro rfl; exact hk hq.symm
        exact Nat.mul_lt_mul_of_pos_right (by omega) (by omega)
    simp only [idL, List.getElem_map, List.getElem_range, h5]
end Go.Proofs.Ytpelnfenfeoeeaa
end

section
/-
  Plain mathematics of chapters 5 and 6: what operations on rows do to the determinant. Nothing of a program is used.
-/
namespace Go.Proofs.Ytpelnfenfeoeeaa
theorem opL_getD {k : Int} {I J : Nat} {t : Int} {C : Nat} {xs : List Int} {p : Nat} (hp : p < xs.length) : (opL k I J t C xs).getD p 0 = opAt k I J t C xs p := by
  unfold opL
  simp only [List.getD, List.getElem?_map, List.getElem?_range hp, Option.map_some, Option.getD_some]
theorem opL_raw {k : Int} {I J : Nat} {t : Int} {R C : Nat} {xs : List Int} (hk : k = 0 ∨ k = 1 ∨ k = 2) (hl : xs.length = R * C) (hx : nums xs = true) (hI : I < R) (ht : NumP t) (hn : nums (opL k I J t C xs) = true) (p : Nat) (hp : p < R * C) :
    (opL k I J t C xs).getD p 0 = rwAt k I J t C xs p := by
  have hpr : ∀ q, q < C → k = 2 → NumP (xs.getD (J * C + q) 0 * t) := by
    intro q hq h2
    subst h2
    by_cases hb : NumP (xs.getD (J * C + q) 0 * t)
    · exact hb
    · exfalso
      have hi : I * C + q < xs.length := by rw [hl]; exact idx_lt hI hq
      have e : (opL 2 I J t C xs).getD (I * C + q) 0 = badN := by
        rw [opL_getD hi, opAt_two _ _ _ _ _ hq, mulB_num (nums_def hx _) ht, fitB_bad hb, addB_bad]
      have := nums_at hn (j := I * C + q) (by rw [opL_length]; exact hi)
      rw [e] at this
      exact bad_not this
  have hC : 0 < C := by
    rcases Nat.eq_zero_or_pos C with e | e
    · subst e; omega
    · exact e
  have hp' : p < xs.length := by rw [hl]; exact hp
  have h1 := nums_at hn (j := p) (by rw [opL_length]; exact hp')
  rw [opL_getD hp', opAt_raw k I J t C xs p hk hx ht (fun h2 _ => hpr _ (Nat.mod_lt p hC) h2)] at h1 ⊢
  by_cases hz : NumP (rwAt k I J t C xs p)
  · exact fitB_num hz
  · rw [fitB_bad hz] at h1; exact absurd h1 bad_not
def opX (k : Int) (I J : Nat) (t : Int) (A : Mx) : Mx := fun r c =>
  if k = 0 then (if r = I then A J c else if r = J then A I c else A r c)
  else if k = 1 then (if r = I then - A r c else A r c)
  else (if r = I then A r c + A J c * t else A r c)
theorem rwAt_mx {k : Int} {I J : Nat} {t : Int} {C : Nat} {xs : List Int} {r c : Nat} (hc : c < C) : rwAt k I J t C xs (r * C + c) = opX k I J t (fun r c => xs.getD (r * C + c) 0) r c := by
  unfold rwAt opX
  rw [idx_div hc, idx_mod hc]
def opSg (k : Int) : Int := if k = 2 then 1 else -1
theorem opX_det {k : Int} {I J : Nat} {t : Int} {n : Nat} (A : Mx) (hk : k = 0 ∨ k = 1 ∨ k = 2) (hI : I < n) (hJ : J < n) (hIJ : k ≠ 1 → I ≠ J) : det n (opX k I J t A) = opSg k * det n A := by
  rcases hk with rfl | rfl | rfl
  · have e : opX 0 I J t A = swR A I J := by
      funext r c
      unfold opX swR
      rw [if_pos rfl]
    rw [e, alt_swap (det_lin n) (det_alt n) (hIJ (by decide)) hI hJ A]
    unfold opSg
    rw [if_neg (by decide)]; omega
  · have e : opX 1 I J t A = stR A I (fun c => (-1) * A I c) := by
      funext r c
      unfold opX stR
      rw [if_neg (by decide), if_pos rfl]
      by_cases h : r = I
      · rw [if_pos h, if_pos h, h]
        show - A I c = (-1) * A I c
        omega
      · rw [if_neg h, if_neg h]
    rw [e, lin_scale (det_lin n) hI A (-1) (A I), stR_self]
    unfold opSg
    rw [if_neg (by decide)]
  · have e : opX 2 I J t A = stR A I (fun c => A I c + t * A J c) := by
      funext r c
      unfold opX stR
      rw [if_neg (by decide), if_neg (by decide)]
      by_cases h : r = I
      · rw [if_pos h, if_pos h, h, Int.mul_comm]
      · rw [if_neg h, if_neg h]
    rw [e, alt_add (det_lin n) (det_alt n) (hIJ (by decide)) hI hJ A t]
    unfold opSg
    rw [if_pos rfl, Int.one_mul]
theorem mxL_idL (n : Nat) : EqX n (mxL n (idL n n)) idX := fun r c hr hc => by
  have hp : r * n + c < n * n := idx_lt hr hc
  have e : (idL n n).getD (r * n + c) 0 = if (r * n + c) % (n + 1) = 0 ∧ r * n + c < n * (n + 1) then 1 else 0 := by
    unfold idL
    simp only [List.getD, List.getElem?_map, List.getElem?_range hp, Option.map_some, Option.getD_some]
  show (idL n n).getD (r * n + c) 0 = _
  rw [e]
  have hlt : r * n + c < n * (n + 1) := by rw [Nat.mul_add, Nat.mul_one]; omega
  unfold idX
  rcases Nat.lt_trichotomy r c with h | h | h
  · have e2 : r * n + c = r * (n + 1) + (c - r) := by rw [Nat.mul_add, Nat.mul_one]; omega
    rw [if_neg (fun h' => by rw [e2, idx_mod (by omega)] at h'; omega), if_neg (by omega)]
  · subst h
    have e2 : r * n + r = r * (n + 1) + 0 := by rw [Nat.mul_add, Nat.mul_one]; omega
    rw [if_pos ⟨by rw [e2, idx_mod (by omega)], hlt⟩, if_pos rfl]
  · obtain ⟨p, rfl⟩ : ∃ p, r = p + 1 := ⟨r - 1, by omega⟩
    have e2 : (p + 1) * n + c = p * (n + 1) + (n + c - p) := by rw [Nat.mul_add, Nat.mul_one, Nat.add_mul, Nat.one_mul]; omega
    rw [if_neg (fun h' => by rw [e2, idx_mod (by omega)] at h'; omega), if_neg (by omega)]
theorem idL_nums (n : Nat) : nums (idL n n) = true := by
  refine nums_true fun p hp => ?_
  rw [idL_length] at hp
  unfold idL
  simp only [List.getD, List.getElem?_map, List.getElem?_range hp, Option.map_some, Option.getD_some]
  split
  · exact ⟨by decide, by decide⟩
  · exact ⟨by decide, by decide⟩
end Go.Proofs.Ytpelnfenfeoeeaa
end

section
/-
  Plain mathematics of chapter 3: what a product and a matrix turned over are. Nothing of a program is used.
-/
namespace Go.Proofs.Ytpelnfenfeoeeaa
open Go.RowKit
def turnL (R C : Nat) (xs : List Int) : List Int := tab C R fun j i => xs.getD (i * C + j) 0
end Go.Proofs.Ytpelnfenfeoeeaa
end

section
/-
  What SameMatrix answers.
-/
namespace Go.Proofs.Ytpelnfenfeoeeaa
end Go.Proofs.Ytpelnfenfeoeeaa
end

section
/-
  Plain mathematics of chapter 3: products and matrices turned over. Nothing of a program is used.
-/
namespace Go.Proofs.Ytpelnfenfeoeeaa
theorem turnL_length (R C : Nat) (xs : List Int) : (turnL R C xs).length = C * R := tab_length _ _ _
theorem turnL_at (R C : Nat) (xs : List Int) {i j : Nat} (hi : i < R) (hj : j < C) : (turnL R C xs).getD (j * R + i) 0 = xs.getD (i * C + j) 0 := by
  unfold turnL
  rw [tab_at C R _ hj hi]
theorem turn_turn (R C : Nat) (xs : List Int) (h : xs.length = R * C) : turnL C R (turnL R C xs) = xs := by
  unfold turnL
  rw [eq_comm]
  refine tab_ext h fun i j hi hj => ?_
  exact (turnL_at R C xs hi hj).symm
end Go.Proofs.Ytpelnfenfeoeeaa
end

section
/-
  Plain mathematics of chapter 3: products can be grouped in any way, and distribute over sums. Nothing of a program is used.
-/
namespace Go.Proofs.Ytpelnfenfeoeeaa
end Go.Proofs.Ytpelnfenfeoeeaa
end

section
/-
  Plain mathematics of chapter 12: unimodular multiples span one lattice; the state of the work towards a Hermite form. Nothing of a program is used.
-/
namespace Go.Proofs.Ytpelnfenfeoeeaa
theorem opX_mul {k : Int} {I J : Nat} {t : Int} {n : Nat} {U M A : Mx} {c : Nat} (hI : I < n) (hJ : J < n) (h : ∀ i j, i < n → j < c → mulX n U M i j = A i j) : ∀ i j, i < n → j < c → mulX n (opX k I J t U) M i j = opX k I J t A i j := fun i j hi hj => by
  unfold opX
  by_cases k0 : k = 0
  · rw [if_pos k0]
    show (sumN n fun a => (if k = 0 then (if i = I then U J a else if i = J then U I a else U i a) else if k = 1 then (if i = I then - U i a else U i a) else (if i = I then U i a + U J a * t else U i a)) * M a j) = _
    simp only [if_pos k0]
    by_cases e1 : i = I
    · simp only [if_pos e1]; exact h J j hJ hj
    · simp only [if_neg e1]
      by_cases e2 : i = J
      · simp only [if_pos e2]; exact h I j hI hj
      · simp only [if_neg e2]; exact h i j hi hj
  · rw [if_neg k0]
    show (sumN n fun a => (if k = 0 then (if i = I then U J a else if i = J then U I a else U i a) else if k = 1 then (if i = I then - U i a else U i a) else (if i = I then U i a + U J a * t else U i a)) * M a j) = _
    simp only [if_neg k0]
    by_cases k1 : k = 1
    · simp only [if_pos k1]
      by_cases e1 : i = I
      · simp only [if_pos e1]
        rw [← h i j hi hj]
        show _ = - sumN n fun a => U i a * M a j
        rw [show (- sumN n fun a => U i a * M a j) = (-1) * sumN n fun a => U i a * M a j by omega, sumN_mul_left]
        exact sumN_congr fun a _ => by grind
      · simp only [if_neg e1]; exact h i j hi hj
    · simp only [if_neg k1]
      by_cases e1 : i = I
      · simp only [if_pos e1]
        rw [← h i j hi hj, ← h J j hJ hj]
        show _ = (sumN n fun a => U i a * M a j) + (sumN n fun a => U J a * M a j) * t
        rw [sumN_mul, ← sumN_add]
        exact sumN_congr fun a _ => by grind
      · simp only [if_neg e1]; exact h i j hi hj
structure Acc (n c : Nat) (U M A : Mx) : Prop where
  mul : ∀ i j, i < n → j < c → mulX n U M i j = A i j
  uni : det n U = 1 ∨ det n U = -1
theorem Acc.start (n c : Nat) (M : Mx) : Acc n c idX M M := ⟨fun i j hi _ => by
  show (sumN n fun k => idX i k * M k j) = M i j
  rw [sumN_one (a := i) hi (fun k _ hne => by unfold idX; rw [if_neg (Ne.symm hne), Int.zero_mul])]
  unfold idX
  rw [if_pos rfl, Int.one_mul], .inl (det_id n)⟩
section
variable {r c t j : Nat} {A B : Mx} {q : Nat → Nat}
end
end Go.Proofs.Ytpelnfenfeoeeaa
end

section
/-
  Plain mathematics of chapter 7: primitive rows. Nothing of a program is used.
-/
namespace Go.Proofs.Ytpelnfenfeoeeaa
end Go.Proofs.Ytpelnfenfeoeeaa
end

section
/-
  Plain mathematics of chapter 7: elimination over lists of cells with primitive rows ends in the echelon form. Nothing of a program is used.
-/
namespace Go.Proofs.Ytpelnfenfeoeeaa
def mxC (c : Nat) (xs : List Int) : Mx := fun i j => xs.getD (i * c + j) 0
end Go.Proofs.Ytpelnfenfeoeeaa
end

section
/-
  Plain mathematics of chapter 12: the work towards a Hermite form, on lists, with marks for what is beyond the limit. Nothing of a program is used.
-/
namespace Go.Proofs.Ytpelnfenfeoeeaa
def MkOr (xs : List Int) : Prop := ∀ p, xs.getD p 0 = badN ∨ NumP (xs.getD p 0)
theorem getD_out {xs : List Int} {p : Nat} (h : xs.length ≤ p) : xs.getD p 0 = 0 := by simp [List.getD, h]
theorem MkOr.of_nums {xs : List Int} (h : nums xs = true) : MkOr xs := fun p => .inr (nums_def h p)
theorem mulB_or (a b : Int) : mulB a b = badN ∨ NumP (mulB a b) := by
  unfold mulB
  split
  · exact .inl rfl
  · exact fitB_or _
theorem addB_or (a b : Int) : addB a b = badN ∨ NumP (addB a b) := by
  unfold addB
  split
  · exact .inl rfl
  · exact fitB_or _
theorem MkOr.op {k : Int} {I J : Nat} {z : Int} {C : Nat} {xs : List Int} (h : MkOr xs) : MkOr (opL k I J z C xs) := fun p => by
  rcases Nat.lt_or_ge p xs.length with hp | hp
  · rw [opL_getD hp]
    unfold opAt
    split
    · split
      · exact h _
      · split
        · exact h _
        · exact h _
    · split
      · split
        · exact mulB_or _ _
        · exact h _
      · split
        · exact addB_or _ _
        · exact h _
  · rw [getD_out (by rw [opL_length]; exact hp)]
    exact .inr (by decide)
theorem mulB_keeps {a b : Int} (h : NumP (mulB a b)) : a ≠ badN := fun e => by
  unfold mulB at h
  rw [if_pos (.inl e)] at h
  exact bad_not h
theorem addB_keeps {a b : Int} (h : NumP (addB a b)) : a ≠ badN := fun e => by
  unfold addB at h
  rw [if_pos (.inl e)] at h
  exact bad_not h
theorem nums_back {k : Int} {I J : Nat} {z : Int} {R C : Nat} {xs : List Int} (h : MkOr xs) (hl : xs.length = R * C) (hI : I < R) (hJ : J < R) (hn : nums (opL k I J z C xs) = true) : nums xs = true := by
  have at_ : ∀ p, p < xs.length → NumP (opAt k I J z C xs p) := fun p hp => by
    have := nums_at hn (j := p) (by rw [opL_length]; exact hp)
    rwa [opL_getD hp] at this
  refine nums_true fun p hp => ?_
  have hC : 0 < C := by
    rcases Nat.eq_zero_or_pos C with e | e
    · subst e; omega
    · exact e
  have hm : p % C < C := Nat.mod_lt p hC
  have ep : p / C * C + p % C = p := Nat.div_add_mod' p C
  have h1 := at_ p hp
  unfold opAt at h1
  by_cases k0 : k = 0
  · rw [if_pos k0] at h1
    by_cases e1 : p / C = I
    · have hq : J * C + p % C < xs.length := by rw [hl]; exact idx_lt hJ hm
      have h2 := at_ _ hq
      unfold opAt at h2
      rw [if_pos k0, idx_div hm, idx_mod hm] at h2
      by_cases e2 : J = I
      · rw [if_pos e2, e2, ← e1, ep] at h2; exact h2
      · rw [if_neg e2, if_pos rfl, ← e1, ep] at h2; exact h2
    · by_cases e2 : p / C = J
      · have hq : I * C + p % C < xs.length := by rw [hl]; exact idx_lt hI hm
        have h2 := at_ _ hq
        unfold opAt at h2
        rw [if_pos k0, idx_div hm, idx_mod hm, if_pos rfl, ← e2, ep] at h2
        exact h2
      · rw [if_neg e1, if_neg e2] at h1; exact h1
  · rw [if_neg k0] at h1
    by_cases k1 : k = 1
    · rw [if_pos k1] at h1
      split at h1
      · exact (h p).resolve_left (mulB_keeps h1)
      · exact h1
    · rw [if_neg k1] at h1
      split at h1
      · exact (h p).resolve_left (addB_keeps h1)
      · exact h1
theorem opL_mx {k : Int} {I J : Nat} {z : Int} {R C : Nat} {xs : List Int} (hk : k = 0 ∨ k = 1 ∨ k = 2) (hl : xs.length = R * C) (hx : nums xs = true) (hI : I < R) (hz : NumP z) (hn : nums (opL k I J z C xs) = true) : ∀ i j, i < R → j < C → mxC C (opL k I J z C xs) i j = opX k I J z (mxC C xs) i j := fun i j hi hj => by
  show (opL k I J z C xs).getD (i * C + j) 0 = _
  rw [opL_raw hk hl hx hI hz hn _ (idx_lt hi hj), rwAt_mx hj]
  rfl
abbrev HSt := List Int × List Int
def op2 (R C : Nat) (k : Int) (I J : Nat) (z : Int) (s : HSt) : HSt := (opL k I J z C s.1, opL k I J z R s.2)
theorem quot_left {x y : Int} (hy : y ≠ 0) : x + y * (-(x / y)) = x % y ∧ 0 ≤ x % y ∧ x % y < (y.natAbs : Int) := by
  refine ⟨?_, Int.emod_nonneg x hy, Int.emod_lt x hy⟩
  rw [Int.emod_def, Int.mul_neg]; rfl
theorem quot_num {x y : Int} (hx : NumP x) (hy : y ≠ 0) : NumP (-(x / y)) := by
  unfold NumP at *
  obtain ⟨q1, q2, q3⟩ := quot_left (x := x) hy
  have hb : ((x / y).natAbs : Int) ≤ 400000000 := by
    have := Int.natAbs_ediv_le_natAbs x y
    omega
  omega
def leastF (f : Nat → Int) (t : Nat) : Nat → Int
  | 0 => -1
  | n + 1 => if f (t + n) ≠ 0 ∧ (leastF f t n < 0 ∨ (f (t + n)).natAbs < (f (leastF f t n).toNat).natAbs) then ((t + n : Nat) : Int) else leastF f t n
theorem leastF_says (f : Nat → Int) (t : Nat) : ∀ n : Nat, (leastF f t n = -1 ∧ ∀ i, t ≤ i → i < t + n → f i = 0) ∨ ∃ p : Nat, leastF f t n = (p : Int) ∧ t ≤ p ∧ p < t + n ∧ f p ≠ 0 ∧ ∀ i, t ≤ i → i < t + n → f i ≠ 0 → (f p).natAbs ≤ (f i).natAbs
  | 0 => .inl ⟨rfl, fun i h1 h2 => by omega⟩
  | n + 1 => by
    have sp : ∀ i, t ≤ i → i < t + (n + 1) → i < t + n ∨ i = t + n := fun i _ _ => by omega
    have step : leastF f t (n + 1) = if f (t + n) ≠ 0 ∧ (leastF f t n < 0 ∨ (f (t + n)).natAbs < (f (leastF f t n).toNat).natAbs) then ((t + n : Nat) : Int) else leastF f t n := rfl
    rcases leastF_says f t n with ⟨h1, h2⟩ | ⟨p, h1, h2, h3, h4, h5⟩
    · by_cases h0 : f (t + n) = 0
      · refine .inl ⟨by rw [step, if_neg (fun h => h.1 h0), h1], fun i hi hi2 => ?_⟩
        rcases sp i hi hi2 with h | rfl
        · exact h2 i hi h
        · exact h0
      · refine .inr ⟨t + n, by rw [step, if_pos ⟨h0, .inl (by omega)⟩], by omega, by omega, h0, fun i hi hi2 hne => ?_⟩
        rcases sp i hi hi2 with h | rfl
        · exact absurd (h2 i hi h) hne
        · exact Nat.le_refl _
    · have ep : (leastF f t n).toNat = p := by omega
      rw [ep] at step
      by_cases hc : f (t + n) ≠ 0 ∧ (leastF f t n < 0 ∨ (f (t + n)).natAbs < (f p).natAbs)
      · refine .inr ⟨t + n, by rw [step, if_pos hc], by omega, by omega, hc.1, fun i hi hi2 hne => ?_⟩
        have hlt : (f (t + n)).natAbs < (f p).natAbs := by
          rcases hc.2 with h | h
          · omega
          · exact h
        rcases sp i hi hi2 with h | rfl
        · have := h5 i hi h hne; omega
        · exact Nat.le_refl _
      · refine .inr ⟨p, by rw [step, if_neg hc, h1], h2, by omega, h4, fun i hi hi2 hne => ?_⟩
        rcases sp i hi hi2 with h | rfl
        · exact h5 i hi h hne
        · exact Nat.le_of_not_lt fun hlt => hc ⟨hne, .inr hlt⟩
end Go.Proofs.Ytpelnfenfeoeeaa
end

section
/-
  Plain mathematics of chapter 8: residues. Nothing of a program is used.
-/
namespace Go.Proofs.Ytpelnfenfeoeeaa
end Go.Proofs.Ytpelnfenfeoeeaa
end

section
/-
  Plain mathematics of chapter 8: determinants over residues. Nothing of a program is used.
-/
namespace Go.Proofs.Ytpelnfenfeoeeaa
end Go.Proofs.Ytpelnfenfeoeeaa
end

section
/-
  Plain mathematics of chapter 9: the bound of a determinant by its rows, Chinese remainders, symmetric residues. Nothing of a program is used.
-/
namespace Go.Proofs.Ytpelnfenfeoeeaa
end Go.Proofs.Ytpelnfenfeoeeaa
end

section
/-
  Plain mathematics of chapter 13: what divides all minors of one size; diagonals that divide one another. Nothing of a program is used.
-/
namespace Go.Proofs.Ytpelnfenfeoeeaa
structure SmP (r c : Nat) (D : Mx) (f : Nat → Int) : Prop where
  dia : ∀ i j, i < r → j < c → D i j = if i = j then f i else 0
  out : ∀ i, r ≤ i ∨ c ≤ i → f i = 0
  nn : ∀ i, 0 ≤ f i
  dvd : ∀ i j, i ≤ j → f i ∣ f j
end Go.Proofs.Ytpelnfenfeoeeaa
end

section
/-
  Plain mathematics of chapter 13: minors with ascending choices are enough. Nothing of a program is used.
-/
namespace Go.Proofs.Ytpelnfenfeoeeaa
end Go.Proofs.Ytpelnfenfeoeeaa
end

section
/-
  Plain mathematics of chapter 13: operations on columns, on lists, with marks; the two accounts; the state of the work towards a Smith form. Nothing of a program is used.
-/
namespace Go.Proofs.Ytpelnfenfeoeeaa
def colAt (k : Int) (I J : Nat) (z : Int) (C : Nat) (xs : List Int) (p : Nat) : Int :=
  if k = 0 then (if p % C = I then xs.getD (p / C * C + J) 0 else if p % C = J then xs.getD (p / C * C + I) 0 else xs.getD p 0)
  else (if p % C = I then addB (xs.getD p 0) (mulB (xs.getD (p / C * C + J) 0) z) else xs.getD p 0)
def colL (k : Int) (I J : Nat) (z : Int) (C : Nat) (xs : List Int) : List Int := (List.range xs.length).map (colAt k I J z C xs)
theorem colL_length (k : Int) (I J : Nat) (z : Int) (C : Nat) (xs : List Int) : (colL k I J z C xs).length = xs.length := by simp [colL]
theorem colL_getD {k : Int} {I J : Nat} {z : Int} {C : Nat} {xs : List Int} {p : Nat} (hp : p < xs.length) : (colL k I J z C xs).getD p 0 = colAt k I J z C xs p := by
  unfold colL
  simp only [List.getD, List.getElem?_map, List.getElem?_range hp, Option.map_some, Option.getD_some]
def clTo (k : Int) (I J : Nat) (z : Int) (C : Nat) (xs : List Int) (i : Nat) : List Int := (List.range xs.length).map fun p => if p / C < i then colAt k I J z C xs p else xs.getD p 0
theorem clTo_length (k : Int) (I J : Nat) (z : Int) (C : Nat) (xs : List Int) (i : Nat) : (clTo k I J z C xs i).length = xs.length := by simp [clTo]
theorem clTo_getD {k : Int} {I J : Nat} {z : Int} {C : Nat} {xs : List Int} {i p : Nat} (hp : p < xs.length) : (clTo k I J z C xs i).getD p 0 = if p / C < i then colAt k I J z C xs p else xs.getD p 0 := by
  unfold clTo
  simp only [List.getD, List.getElem?_map, List.getElem?_range hp, Option.map_some, Option.getD_some]
theorem clTo_zero (k : Int) (I J : Nat) (z : Int) (C : Nat) (xs : List Int) : clTo k I J z C xs 0 = xs := by
  refine list_getD (clTo_length _ _ _ _ _ _ _) fun p hp => ?_
  rw [clTo_length] at hp
  rw [clTo_getD hp, if_neg (Nat.not_lt_zero _)]
theorem clTo_all {k : Int} {I J : Nat} {z : Int} {R C : Nat} {xs : List Int} (hl : xs.length = R * C) : clTo k I J z C xs R = colL k I J z C xs := by
  refine list_getD (by rw [clTo_length, colL_length]) fun p hp => ?_
  rw [clTo_length] at hp
  rw [clTo_getD hp, colL_getD hp, if_pos]
  rw [hl] at hp
  exact Nat.div_lt_of_lt_mul (by rw [Nat.mul_comm]; exact hp)
theorem MkOr.col {k : Int} {I J : Nat} {z : Int} {C : Nat} {xs : List Int} (h : MkOr xs) : MkOr (colL k I J z C xs) := fun p => by
  rcases Nat.lt_or_ge p xs.length with hp | hp
  · rw [colL_getD hp]
    unfold colAt
    split
    · split
      · exact h _
      · split
        · exact h _
        · exact h _
    · split
      · exact addB_or _ _
      · exact h _
  · rw [getD_out (by rw [colL_length]; exact hp)]
    exact .inr (by decide)
theorem nums_backC {k : Int} {I J : Nat} {z : Int} {R C : Nat} {xs : List Int} (h : MkOr xs) (hl : xs.length = R * C) (hI : I < C) (hJ : J < C) (hn : nums (colL k I J z C xs) = true) : nums xs = true := by
  have at_ : ∀ p, p < xs.length → NumP (colAt k I J z C xs p) := fun p hp => by
    have := nums_at hn (j := p) (by rw [colL_length]; exact hp)
    rwa [colL_getD hp] at this
  refine nums_true fun p hp => ?_
  have hC : 0 < C := by omega
  have hm : p % C < C := Nat.mod_lt p hC
  have ep : p / C * C + p % C = p := Nat.div_add_mod' p C
  have hr : p / C < R := Nat.div_lt_of_lt_mul (by rw [Nat.mul_comm, ← hl]; exact hp)
  have h1 := at_ p hp
  unfold colAt at h1
  by_cases k0 : k = 0
  · rw [if_pos k0] at h1
    by_cases e1 : p % C = I
    · have hq : p / C * C + J < xs.length := by rw [hl]; exact idx_lt hr hJ
      have h2 := at_ _ hq
      unfold colAt at h2
      rw [if_pos k0, idx_div hJ, idx_mod hJ] at h2
      by_cases e2 : J = I
      · rw [if_pos e2, e2, ← e1, ep] at h2; exact h2
      · rw [if_neg e2, if_pos rfl, ← e1, ep] at h2; exact h2
    · by_cases e2 : p % C = J
      · have hq : p / C * C + I < xs.length := by rw [hl]; exact idx_lt hr hI
        have h2 := at_ _ hq
        unfold colAt at h2
        rw [if_pos k0, idx_div hI, idx_mod hI, if_pos rfl, ← e2, ep] at h2
        exact h2
      · rw [if_neg e1, if_neg e2] at h1; exact h1
  · rw [if_neg k0] at h1
    split at h1
    · exact (h p).resolve_left (addB_keeps h1)
    · exact h1
theorem colL_mx {k : Int} {I J : Nat} {z : Int} {R C : Nat} {xs : List Int} (hk : k = 0 ∨ k = 2) (hl : xs.length = R * C) (hx : nums xs = true) (hz : NumP z) (hn : nums (colL k I J z C xs) = true) : ∀ i j, i < R → j < C → mxC C (colL k I J z C xs) i j = opX k I J z (trX (mxC C xs)) j i := fun i j hi hj => by
  have hp : i * C + j < xs.length := by rw [hl]; exact idx_lt hi hj
  have h1 := nums_at hn (j := i * C + j) (by rw [colL_length]; exact hp)
  show (colL k I J z C xs).getD (i * C + j) 0 = _
  rw [colL_getD hp] at h1 ⊢
  unfold colAt at h1 ⊢
  unfold opX
  rw [idx_div hj, idx_mod hj] at h1 ⊢
  rcases hk with rfl | rfl
  · rw [if_pos rfl, if_pos rfl]; rfl
  · have e0 : ¬ (2 : Int) = 0 := by decide
    have e1 : ¬ (2 : Int) = 1 := by decide
    rw [if_neg e0] at h1
    rw [if_neg e0, if_neg e0, if_neg e1]
    by_cases e : j = I
    · rw [if_pos e] at h1
      rw [if_pos e, if_pos e]
      have a := nums_def hx (i * C + j)
      have b := nums_def hx (i * C + J)
      rw [mulB_num b hz] at h1 ⊢
      by_cases hb : NumP (xs.getD (i * C + J) 0 * z)
      · rw [fitB_num hb] at h1 ⊢
        rw [addB_num a hb] at h1 ⊢
        by_cases hs : NumP (xs.getD (i * C + j) 0 + xs.getD (i * C + J) 0 * z)
        · rw [fitB_num hs]; rfl
        · rw [fitB_bad hs] at h1; exact absurd h1 bad_not
      · rw [fitB_bad hb, addB_bad] at h1; exact absurd h1 bad_not
    · rw [if_neg e, if_neg e]; rfl
abbrev SSt := List Int × List Int × List Int
def row3 (R C : Nat) (k : Int) (I J : Nat) (z : Int) (s : SSt) : SSt := (opL k I J z C s.1, opL k I J z R s.2.1, s.2.2)
def col3 (C : Nat) (k : Int) (I J : Nat) (z : Int) (s : SSt) : SSt := (colL k I J z C s.1, s.2.1, colL k I J z C s.2.2)
def ok3 (s : SSt) : Bool := nums s.1 && nums s.2.1 && nums s.2.2
def cel3S (C : Nat) (s : SSt) (i j : Nat) : Int := mxC C s.1 i j
structure Siz3 (R C : Nat) (s : SSt) : Prop where
  l1 : s.1.length = R * C
  l2 : s.2.1.length = R * R
  l3 : s.2.2.length = C * C
  m1 : MkOr s.1
  m2 : MkOr s.2.1
  m3 : MkOr s.2.2
theorem Siz3.row {R C : Nat} {s : SSt} (h : Siz3 R C s) (k : Int) (I J : Nat) (z : Int) : Siz3 R C (row3 R C k I J z s) :=
  ⟨by show (opL k I J z C s.1).length = _; rw [opL_length]; exact h.l1, by show (opL k I J z R s.2.1).length = _; rw [opL_length]; exact h.l2, h.l3, h.m1.op, h.m2.op, h.m3⟩
theorem Siz3.col {R C : Nat} {s : SSt} (h : Siz3 R C s) (k : Int) (I J : Nat) (z : Int) : Siz3 R C (col3 C k I J z s) :=
  ⟨by show (colL k I J z C s.1).length = _; rw [colL_length]; exact h.l1, h.l2, by show (colL k I J z C s.2.2).length = _; rw [colL_length]; exact h.l3, h.m1.col, h.m2, h.m3.col⟩
theorem ok3_and {s : SSt} (h : ok3 s = true) : nums s.1 = true ∧ nums s.2.1 = true ∧ nums s.2.2 = true := by
  unfold ok3 at h
  rw [Bool.and_eq_true, Bool.and_eq_true] at h
  exact ⟨h.1.1, h.1.2, h.2⟩
theorem ok3_of {s : SSt} (h1 : nums s.1 = true) (h2 : nums s.2.1 = true) (h3 : nums s.2.2 = true) : ok3 s = true := by unfold ok3; rw [h1, h2, h3]; rfl
theorem ok3_row {R C : Nat} {s : SSt} (h : Siz3 R C s) {k : Int} {I J : Nat} {z : Int} (hI : I < R) (hJ : J < R) (ho : ok3 (row3 R C k I J z s) = true) : ok3 s = true := by
  obtain ⟨a, b, c⟩ := ok3_and ho
  exact ok3_of (nums_back h.m1 h.l1 hI hJ a) (nums_back h.m2 h.l2 hI hJ b) c
theorem ok3_col {R C : Nat} {s : SSt} (h : Siz3 R C s) {k : Int} {I J : Nat} {z : Int} (hI : I < C) (hJ : J < C) (ho : ok3 (col3 C k I J z s) = true) : ok3 s = true := by
  obtain ⟨a, b, c⟩ := ok3_and ho
  exact ok3_of (nums_backC h.m1 h.l1 hI hJ a) b (nums_backC h.m3 h.l3 hI hJ c)
structure Acc3 (r c : Nat) (U V M A : Mx) : Prop where
  mul : ∀ i j, i < r → j < c → (sumN c fun b => mulX r U M i b * V b j) = A i j
  uu : det r U = 1 ∨ det r U = -1
  vv : det c V = 1 ∨ det c V = -1
theorem Acc3.start (r c : Nat) (M : Mx) : Acc3 r c idX idX M M := ⟨fun i j hi hj => by
  have h := (Acc.start r c M).mul
  rw [sumN_one (a := j) hj (fun b _ hne => by unfold idX; rw [if_neg hne, Int.mul_zero])]
  unfold idX
  rw [if_pos rfl, Int.mul_one]
  exact h i j hi hj, .inl (det_id r), .inl (det_id c)⟩
theorem Acc3.congr {r c : Nat} {U V U' V' M A B : Mx} (h : Acc3 r c U V M A) (hu : EqX r U U') (hv : EqX c V V') (ha : ∀ i j, i < r → j < c → A i j = B i j) : Acc3 r c U' V' M B := by
  refine ⟨fun i j hi hj => ?_, by rw [← det_congr hu]; exact h.uu, by rw [← det_congr hv]; exact h.vv⟩
  rw [← ha i j hi hj, ← h.mul i j hi hj]
  refine sumN_congr fun b hb => ?_
  rw [hv b j hb hj]
  refine congrArg (· * _) (sumN_congr fun x hx => ?_)
  rw [hu i x hi hx]
theorem Acc3.row {r c : Nat} {U V M A : Mx} (h : Acc3 r c U V M A) {k : Int} {I J : Nat} {z : Int} (hk : k = 0 ∨ k = 1 ∨ k = 2) (hI : I < r) (hJ : J < r) (hIJ : k ≠ 1 → I ≠ J) : Acc3 r c (opX k I J z U) V M (opX k I J z A) := by
  refine ⟨fun i j hi hj => ?_, ?_, h.vv⟩
  · -- (op U) M V: the operation passes through both products
    have e1 := opX_mul (k := k) (t := z) (c := c) (M := M) hI hJ (A := mulX r U M) fun i j _ _ => rfl
    have e2 : (sumN c fun b => mulX r (opX k I J z U) M i b * V b j) = sumN c fun b => opX k I J z (mulX r U M) i b * V b j := sumN_congr fun b hb => by rw [e1 i b hi hb]
    rw [e2]
    have m := h.mul
    unfold opX
    by_cases k0 : k = 0
    · simp only [if_pos k0]
      by_cases a1 : i = I
      · simp only [if_pos a1]; exact m J j hJ hj
      · simp only [if_neg a1]
        by_cases a2 : i = J
        · simp only [if_pos a2]; exact m I j hI hj
        · simp only [if_neg a2]; exact m i j hi hj
    · simp only [if_neg k0]
      by_cases k1 : k = 1
      · simp only [if_pos k1]
        by_cases a1 : i = I
        · simp only [if_pos a1]
          rw [← m i j hi hj, show (- sumN c fun b => mulX r U M i b * V b j) = (-1) * sumN c fun b => mulX r U M i b * V b j by omega, sumN_mul_left]
          exact sumN_congr fun b _ => by grind
        · simp only [if_neg a1]; exact m i j hi hj
      · simp only [if_neg k1]
        by_cases a1 : i = I
        · simp only [if_pos a1]
          rw [← m i j hi hj, ← m J j hJ hj, sumN_mul, ← sumN_add]
          exact sumN_congr fun b _ => by grind
        · simp only [if_neg a1]; exact m i j hi hj
  · rw [opX_det U hk hI hJ hIJ]
    have := h.uu
    unfold opSg
    split <;> omega
theorem Acc3.col {r c : Nat} {U V M A : Mx} (h : Acc3 r c U V M A) {k : Int} {I J : Nat} {z : Int} (hk : k = 0 ∨ k = 2) (hI : I < c) (hJ : J < c) (hIJ : I ≠ J) : Acc3 r c U (trX (opX k I J z (trX V))) M (trX (opX k I J z (trX A))) := by
  have hk' : k = 0 ∨ k = 1 ∨ k = 2 := by omega
  refine ⟨fun i j hi hj => ?_, h.uu, ?_⟩
  · have m : ∀ j i, j < c → i < r → mulX c (trX V) (trX (mulX r U M)) j i = trX A j i := fun j i hj hi => by
      show (sumN c fun b => V b j * mulX r U M i b) = A i j
      rw [← h.mul i j hi hj]
      exact sumN_congr fun b _ => Int.mul_comm _ _
    have e := opX_mul (k := k) (t := z) hI hJ m j i hj hi
    show (sumN c fun b => mulX r U M i b * opX k I J z (trX V) j b) = opX k I J z (trX A) j i
    rw [← e]
    exact sumN_congr fun b _ => Int.mul_comm _ _
  · rw [det_tr, opX_det (trX V) hk' hI hJ fun _ => hIJ, det_tr]
    have := h.vv
    unfold opSg
    split <;> omega
structure Fin3 (R C : Nat) (M : Mx) (s : SSt) : Prop where
  siz : Siz3 R C s
  ok : ok3 s = true
  acc : Acc3 R C (mxC R s.2.1) (mxC C s.2.2) M (mxC C s.1)
theorem Fin3.row {R C : Nat} {M : Mx} {s : SSt} (h : Fin3 R C M s) {k : Int} {I J : Nat} {z : Int} (hk : k = 0 ∨ k = 1 ∨ k = 2) (hI : I < R) (hJ : J < R) (hIJ : k ≠ 1 → I ≠ J) (hz : NumP z) (ho : ok3 (row3 R C k I J z s) = true) :
    Fin3 R C M (row3 R C k I J z s) ∧ ∀ i j, i < R → j < C → cel3S C (row3 R C k I J z s) i j = opX k I J z (mxC C s.1) i j := by
  obtain ⟨a, b, c⟩ := ok3_and ho
  obtain ⟨a0, b0, c0⟩ := ok3_and h.ok
  have e1 := opL_mx hk h.siz.l1 a0 hI hz a
  have e2 := opL_mx hk h.siz.l2 b0 hI hz b
  exact ⟨⟨h.siz.row k I J z, ho, (h.acc.row hk hI hJ hIJ).congr (fun i j hi hj => (e2 i j hi hj).symm) (EqX.refl _ _) fun i j hi hj => (e1 i j hi hj).symm⟩, e1⟩
theorem Fin3.col {R C : Nat} {M : Mx} {s : SSt} (h : Fin3 R C M s) {k : Int} {I J : Nat} {z : Int} (hk : k = 0 ∨ k = 2) (hI : I < C) (hJ : J < C) (hIJ : I ≠ J) (hz : NumP z) (ho : ok3 (col3 C k I J z s) = true) :
    Fin3 R C M (col3 C k I J z s) ∧ ∀ i j, i < R → j < C → cel3S C (col3 C k I J z s) i j = opX k I J z (trX (mxC C s.1)) j i := by
  obtain ⟨a, b, c⟩ := ok3_and ho
  obtain ⟨a0, b0, c0⟩ := ok3_and h.ok
  have e1 := colL_mx hk h.siz.l1 a0 hz a
  have e2 := colL_mx hk h.siz.l3 c0 hz c
  exact ⟨⟨h.siz.col k I J z, ho, (h.acc.col hk hI hJ hIJ).congr (EqX.refl _ _) (fun i j hi hj => (e2 i j hi hj).symm) fun i j hi hj => (e1 i j hi hj).symm⟩, e1⟩
theorem Fin3.num {R C : Nat} {M : Mx} {s : SSt} (h : Fin3 R C M s) (i j : Nat) : NumP (cel3S C s i j) := nums_def (ok3_and h.ok).1 _
end Go.Proofs.Ytpelnfenfeoeeaa
end

section
/-
  Plain mathematics of chapter 13: the rounds towards a Smith form. Nothing of a program is used.
-/
namespace Go.Proofs.Ytpelnfenfeoeeaa
structure SmI (r c : Nat) (A : Mx) (t : Nat) : Prop where
  le1 : t ≤ r
  le2 : t ≤ c
  pos : ∀ i, i < t → 0 < A i i
  row : ∀ i j, i < t → j < c → j ≠ i → A i j = 0
  col : ∀ i j, j < t → i < r → i ≠ j → A i j = 0
  dvd : ∀ k i j, k < t → k ≤ i → i < r → k ≤ j → j < c → A k k ∣ A i j
section
variable {r c t : Nat} {A B : Mx}
theorem SmI.start (r c : Nat) (A : Mx) : SmI r c A 0 := ⟨Nat.zero_le _, Nat.zero_le _, fun i hi => by omega, fun i j hi => by omega, fun i j hj => by omega, fun k i j hk => by omega⟩
theorem SmI.move (h : SmI r c A t) (e : ∀ i j, i < t ∨ j < t → i < r → j < c → B i j = A i j) (d : ∀ k i j, k < t → t ≤ i → i < r → t ≤ j → j < c → A k k ∣ B i j) : SmI r c B t := by
  have l1 := h.le1
  have l2 := h.le2
  refine ⟨h.le1, h.le2, fun i hi => ?_, fun i j hi hj hne => ?_, fun i j hj hi hne => ?_, fun k i j hk h1 h2 h3 h4 => ?_⟩
  · rw [e i i (.inl hi) (by omega) (by omega)]; exact h.pos i hi
  · rw [e i j (.inl hi) (by omega) hj]; exact h.row i j hi hj hne
  · rw [e i j (.inr hj) hi (by omega)]; exact h.col i j hj hi hne
  · rw [e k k (.inl hk) (by omega) (by omega)]
    by_cases h5 : i < t ∨ j < t
    · rw [e i j h5 h2 h4]; exact h.dvd k i j hk h1 h2 h3 h4
    · exact d k i j hk (by omega) h2 (by omega) h4
theorem SmI.congr (h : SmI r c A t) (e : ∀ i j, i < r → j < c → B i j = A i j) : SmI r c B t :=
  h.move (fun i j _ hi hj => e i j hi hj) fun k i j hk h1 h2 h3 h4 => by rw [e i j h2 h4]; exact h.dvd k i j hk (by omega) h2 (by omega) h4
theorem SmI.tr (h : SmI r c A t) : SmI c r (trX A) t := ⟨h.le2, h.le1, h.pos, fun i j hi hj hne => h.col j i hi hj hne, fun i j hj hi hne => h.row j i hj hi hne, fun k i j hk h1 h2 h3 h4 => h.dvd k j i hk h3 h4 h1 h2⟩
theorem SmI.op (h : SmI r c A t) {k : Int} {I J : Nat} {z : Int} (hI : t ≤ I) (hIr : I < r) (hJ : t ≤ J) (hJr : J < r) : SmI r c (opX k I J z A) t := by
  refine h.move (fun i j hij hi hj => ?_) fun a i j ha h1 h2 h3 h4 => ?_
  · unfold opX
    rcases Nat.lt_or_ge i t with h5 | h5
    · rw [if_neg (by omega : ¬ i = I), if_neg (by omega : ¬ i = J), if_neg (by omega : ¬ i = I), if_neg (by omega : ¬ i = I)]
      split
      · rfl
      · split <;> rfl
    · have hj' : j < t := by omega
      have zI := h.col I j hj' hIr (by omega)
      have zJ := h.col J j hj' hJr (by omega)
      split
      · split
        · rename_i e; rw [zJ, e, zI]
        · split
          · rename_i e; rw [zI, e, zJ]
          · rfl
      · split
        · split
          · rename_i e; rw [e, zI]; rfl
          · rfl
        · split
          · rw [zJ, Int.zero_mul, Int.add_zero]
          · rfl
  · have d1 := h.dvd a i j ha (by omega) h2 (by omega) h4
    have dI := h.dvd a I j ha (by omega) hIr (by omega) h4
    have dJ := h.dvd a J j ha (by omega) hJr (by omega) h4
    unfold opX
    split
    · split
      · exact dJ
      · split
        · exact dI
        · exact d1
    · split
      · split
        · exact Int.dvd_neg.mpr d1
        · exact d1
      · split
        · exact Int.dvd_add d1 (Int.dvd_trans dJ (Int.dvd_mul_right _ _))
        · exact d1
theorem SmI.opC (h : SmI r c A t) {k : Int} {I J : Nat} {z : Int} (hI : t ≤ I) (hIr : I < c) (hJ : t ≤ J) (hJr : J < c) : SmI r c (trX (opX k I J z (trX A))) t := (h.tr.op hI hIr hJ hJr).tr
theorem SmI.put (h : SmI r c A t) (hr : t < r) (hc : t < c) (hp : 0 < A t t) (hrow : ∀ j, t < j → j < c → A t j = 0) (hcol : ∀ i, t < i → i < r → A i t = 0) (hd : ∀ i j, t < i → i < r → t < j → j < c → A t t ∣ A i j) : SmI r c A (t + 1) := by
  have sp : ∀ i, i < t + 1 → i < t ∨ i = t := fun i hi => by omega
  refine ⟨hr, hc, fun i hi => ?_, fun i j hi hj hne => ?_, fun i j hj hi hne => ?_, fun k i j hk h1 h2 h3 h4 => ?_⟩
  · rcases sp i hi with h5 | rfl
    · exact h.pos i h5
    · exact hp
  · rcases sp i hi with h5 | rfl
    · exact h.row i j h5 hj hne
    · rcases Nat.lt_or_ge j i with h6 | h6
      · exact h.col i j h6 hr (by omega)
      · exact hrow j (by omega) hj
  · rcases sp j hj with h5 | rfl
    · exact h.col i j h5 hi hne
    · rcases Nat.lt_or_ge i j with h6 | h6
      · exact h.row i j h6 hc (by omega)
      · exact hcol i (by omega) hi
  · rcases sp k hk with h5 | rfl
    · exact h.dvd k i j h5 h1 h2 h3 h4
    · by_cases h6 : i = k
      · by_cases h7 : j = k
        · rw [h6, h7]; exact Int.dvd_refl _
        · rw [h6, hrow j (by omega) h4]; exact ⟨0, by rw [Int.mul_zero]⟩
      · by_cases h7 : j = k
        · rw [h7, hcol i (by omega) h2]; exact ⟨0, by rw [Int.mul_zero]⟩
        · exact hd i j (by omega) h2 (by omega) h4
theorem SmI.done (h : SmI r c A t) (hz : ∀ i j, t ≤ i → i < r → t ≤ j → j < c → A i j = 0) : SmP r c A (fun i => if i < t then A i i else 0) := by
  have l1 := h.le1
  have l2 := h.le2
  refine ⟨fun i j hi hj => ?_, fun i hi => ?_, fun i => ?_, fun i j hij => ?_⟩
  · by_cases e : i = j
    · rw [if_pos e]
      subst e
      show A i i = if i < t then A i i else 0
      split
      · rfl
      · exact hz i i (by omega) hi (by omega) hj
    · rw [if_neg e]
      rcases Nat.lt_or_ge i t with h1 | h1
      · exact h.row i j h1 hj (Ne.symm e)
      · rcases Nat.lt_or_ge j t with h2 | h2
        · exact h.col i j h2 hi e
        · exact hz i j h1 hi h2 hj
  · show (if i < t then A i i else 0) = 0
    rw [if_neg (by omega)]
  · show 0 ≤ if i < t then A i i else 0
    split
    · rename_i h1; have := h.pos i h1; omega
    · exact Int.le_refl _
  · show (if i < t then A i i else 0) ∣ if j < t then A j j else 0
    by_cases h1 : j < t
    · rw [if_pos h1, if_pos (by omega)]
      exact h.dvd i j j (by omega) hij (by omega) hij (by omega)
    · rw [if_neg h1]; exact ⟨0, by rw [Int.mul_zero]⟩
end
def rowsF (R C t : Nat) (p : Int) (s : SSt) : Nat → SSt
  | 0 => s
  | n + 1 => if cel3S C (rowsF R C t p s n) (t + 1 + n) t ≠ 0 then row3 R C 2 (t + 1 + n) t (-(cel3S C (rowsF R C t p s n) (t + 1 + n) t / p)) (rowsF R C t p s n) else rowsF R C t p s n
def colsF (C t : Nat) (p : Int) (s : SSt) : Nat → SSt
  | 0 => s
  | n + 1 => if cel3S C (colsF C t p s n) t (t + 1 + n) ≠ 0 then col3 C 2 (t + 1 + n) t (-(cel3S C (colsF C t p s n) t (t + 1 + n) / p)) (colsF C t p s n) else colsF C t p s n
section
variable {R C t : Nat} {M : Mx} {s : SSt} {p : Int}
theorem rowsF_siz (h : Siz3 R C s) : ∀ n, Siz3 R C (rowsF R C t p s n)
  | 0 => h
  | n + 1 => by
    show Siz3 R C (if _ then _ else _)
    split
    · exact (rowsF_siz h n).row _ _ _ _
    · exact rowsF_siz h n
theorem colsF_siz (h : Siz3 R C s) : ∀ n, Siz3 R C (colsF C t p s n)
  | 0 => h
  | n + 1 => by
    show Siz3 R C (if _ then _ else _)
    split
    · exact (colsF_siz h n).col _ _ _ _
    · exact colsF_siz h n
theorem rowsF_back (h : Siz3 R C s) (ht : t < R) {n : Nat} (hn : t + 1 + n < R) (ho : ok3 (rowsF R C t p s (n + 1)) = true) : ok3 (rowsF R C t p s n) = true := by
  change ok3 (if _ then _ else _) = true at ho
  split at ho
  · exact ok3_row (rowsF_siz h n) hn ht ho
  · exact ho
theorem colsF_back (h : Siz3 R C s) (ht : t < C) {n : Nat} (hn : t + 1 + n < C) (ho : ok3 (colsF C t p s (n + 1)) = true) : ok3 (colsF C t p s n) = true := by
  change ok3 (if _ then _ else _) = true at ho
  split at ho
  · exact ok3_col (colsF_siz h n) hn ht ho
  · exact ho
theorem colsF_back0 (h : Siz3 R C s) (ht : t < C) : ∀ n, t + 1 + n ≤ C → ok3 (colsF C t p s n) = true → ok3 s = true
  | 0, _, ho => ho
  | n + 1, hn, ho => colsF_back0 h ht n (by omega) (colsF_back h ht (by omega) ho)
theorem rowsF_back0 (h : Siz3 R C s) (ht : t < R) : ∀ n, t + 1 + n ≤ R → ok3 (rowsF R C t p s n) = true → ok3 s = true
  | 0, _, ho => ho
  | n + 1, hn, ho => rowsF_back0 h ht n (by omega) (rowsF_back h ht (by omega) ho)
theorem rowsF_says (hF : Fin3 R C M s) (hI : SmI R C (mxC C s.1) t) (hr : t < R) (hc : t < C) (hp : cel3S C s t t = p) (hp0 : p ≠ 0) : ∀ n, t + 1 + n ≤ R → ok3 (rowsF R C t p s n) = true →
    Fin3 R C M (rowsF R C t p s n) ∧ SmI R C (mxC C (rowsF R C t p s n).1) t ∧ (∀ i j, i < R → j < C → (i ≤ t ∨ t + 1 + n ≤ i) → cel3S C (rowsF R C t p s n) i j = cel3S C s i j) ∧ (∀ i, t < i → i < t + 1 + n → 0 ≤ cel3S C (rowsF R C t p s n) i t ∧ cel3S C (rowsF R C t p s n) i t < (p.natAbs : Int))
  | 0, _, _ => ⟨hF, hI, fun _ _ _ _ _ => rfl, fun i h1 h2 => by omega⟩
  | n + 1, hn, ho => by
    obtain ⟨g1, g2, g3, g4⟩ := rowsF_says hF hI hr hc hp hp0 n (by omega) (rowsF_back hF.siz hr (by omega) ho)
    have ept : cel3S C (rowsF R C t p s n) t t = p := by rw [g3 t t hr hc (.inl (Nat.le_refl _))]; exact hp
    by_cases hc0 : cel3S C (rowsF R C t p s n) (t + 1 + n) t ≠ 0
    · have es : rowsF R C t p s (n + 1) = row3 R C 2 (t + 1 + n) t (-(cel3S C (rowsF R C t p s n) (t + 1 + n) t / p)) (rowsF R C t p s n) := if_pos hc0
      rw [es] at ho ⊢
      obtain ⟨k1, k2⟩ := g1.row (.inr (.inr rfl)) (by omega) hr (fun _ => by omega) (quot_num (g1.num _ _) hp0) ho
      have ql := quot_left (x := cel3S C (rowsF R C t p s n) (t + 1 + n) t) hp0
      have ce : ∀ i b, i < R → b < C → i ≠ t + 1 + n → cel3S C (row3 R C 2 (t + 1 + n) t (-(cel3S C (rowsF R C t p s n) (t + 1 + n) t / p)) (rowsF R C t p s n)) i b = cel3S C (rowsF R C t p s n) i b := fun i b hi hb hne => by
        rw [k2 i b hi hb]
        unfold opX
        rw [if_neg (by decide), if_neg (by decide), if_neg hne]; rfl
      have cn : cel3S C (row3 R C 2 (t + 1 + n) t (-(cel3S C (rowsF R C t p s n) (t + 1 + n) t / p)) (rowsF R C t p s n)) (t + 1 + n) t = cel3S C (rowsF R C t p s n) (t + 1 + n) t % p := by
        rw [k2 (t + 1 + n) t (by omega) hc, ← ql.1]
        unfold opX
        rw [if_neg (by decide), if_neg (by decide), if_pos rfl]
        change cel3S C (rowsF R C t p s n) (t + 1 + n) t + cel3S C (rowsF R C t p s n) t t * _ = _
        rw [ept]
      refine ⟨k1, (g2.op (by omega) (by omega) (Nat.le_refl _) hr).congr fun i b hi hb => k2 i b hi hb, fun i j hi hj h1 => by rw [ce i j hi hj (by omega)]; exact g3 i j hi hj (by omega), fun i h1 h2 => ?_⟩
      rcases Nat.lt_or_ge i (t + 1 + n) with h4 | h4
      · rw [ce i t (by omega) hc (by omega)]; exact g4 i h1 h4
      · obtain rfl : i = t + 1 + n := by omega
        rw [cn]; exact ql.2
    · have es : rowsF R C t p s (n + 1) = rowsF R C t p s n := if_neg hc0
      rw [es]
      refine ⟨g1, g2, fun i j hi hj h1 => g3 i j hi hj (by omega), fun i h1 h2 => ?_⟩
      rcases Nat.lt_or_ge i (t + 1 + n) with h4 | h4
      · exact g4 i h1 h4
      · obtain rfl : i = t + 1 + n := by omega
        have h0 : cel3S C (rowsF R C t p s n) (t + 1 + n) t = 0 := Classical.byContradiction fun h => hc0 h
        rw [h0]; omega
theorem colsF_says (hF : Fin3 R C M s) (hI : SmI R C (mxC C s.1) t) (hr : t < R) (hc : t < C) (hp : cel3S C s t t = p) (hp0 : p ≠ 0) : ∀ n, t + 1 + n ≤ C → ok3 (colsF C t p s n) = true →
    Fin3 R C M (colsF C t p s n) ∧ SmI R C (mxC C (colsF C t p s n).1) t ∧ (∀ i j, i < R → j < C → (j ≤ t ∨ t + 1 + n ≤ j) → cel3S C (colsF C t p s n) i j = cel3S C s i j) ∧ (∀ j, t < j → j < t + 1 + n → cel3S C (colsF C t p s n) t j = cel3S C s t j % p)
  | 0, _, _ => ⟨hF, hI, fun _ _ _ _ _ => rfl, fun i h1 h2 => by omega⟩
  | n + 1, hn, ho => by
    obtain ⟨g1, g2, g3, g4⟩ := colsF_says hF hI hr hc hp hp0 n (by omega) (colsF_back hF.siz hc (by omega) ho)
    have ept : cel3S C (colsF C t p s n) t t = p := by rw [g3 t t hr hc (.inl (Nat.le_refl _))]; exact hp
    have eold : cel3S C (colsF C t p s n) t (t + 1 + n) = cel3S C s t (t + 1 + n) := g3 t (t + 1 + n) hr (by omega) (.inr (Nat.le_refl _))
    by_cases hc0 : cel3S C (colsF C t p s n) t (t + 1 + n) ≠ 0
    · have es : colsF C t p s (n + 1) = col3 C 2 (t + 1 + n) t (-(cel3S C (colsF C t p s n) t (t + 1 + n) / p)) (colsF C t p s n) := if_pos hc0
      rw [es] at ho ⊢
      obtain ⟨k1, k2⟩ := g1.col (.inr rfl) (by omega) hc (by omega) (quot_num (g1.num _ _) hp0) ho
      have ql := quot_left (x := cel3S C (colsF C t p s n) t (t + 1 + n)) hp0
      have ce : ∀ i b, i < R → b < C → b ≠ t + 1 + n → cel3S C (col3 C 2 (t + 1 + n) t (-(cel3S C (colsF C t p s n) t (t + 1 + n) / p)) (colsF C t p s n)) i b = cel3S C (colsF C t p s n) i b := fun i b hi hb hne => by
        rw [k2 i b hi hb]
        unfold opX
        rw [if_neg (by decide), if_neg (by decide), if_neg hne]; rfl
      have cn : cel3S C (col3 C 2 (t + 1 + n) t (-(cel3S C (colsF C t p s n) t (t + 1 + n) / p)) (colsF C t p s n)) t (t + 1 + n) = cel3S C (colsF C t p s n) t (t + 1 + n) % p := by
        rw [k2 t (t + 1 + n) hr (by omega), ← ql.1]
        unfold opX
        rw [if_neg (by decide), if_neg (by decide), if_pos rfl]
        change cel3S C (colsF C t p s n) t (t + 1 + n) + cel3S C (colsF C t p s n) t t * _ = _
        rw [ept]
      refine ⟨k1, (g2.opC (by omega) (by omega) (Nat.le_refl _) hc).congr fun i b hi hb => k2 i b hi hb, fun i j hi hj h1 => by rw [ce i j hi hj (by omega)]; exact g3 i j hi hj (by omega), fun j h1 h2 => ?_⟩
      rcases Nat.lt_or_ge j (t + 1 + n) with h4 | h4
      · rw [ce t j hr (by omega) (by omega)]; exact g4 j h1 h4
      · obtain rfl : j = t + 1 + n := by omega
        rw [cn, eold]
    · have es : colsF C t p s (n + 1) = colsF C t p s n := if_neg hc0
      rw [es]
      refine ⟨g1, g2, fun i j hi hj h1 => g3 i j hi hj (by omega), fun j h1 h2 => ?_⟩
      rcases Nat.lt_or_ge j (t + 1 + n) with h4 | h4
      · exact g4 j h1 h4
      · obtain rfl : j = t + 1 + n := by omega
        have h0 : cel3S C (colsF C t p s n) t (t + 1 + n) = 0 := Classical.byContradiction fun h => hc0 h
        rw [h0]
        rw [eold] at h0
        rw [h0, Int.zero_emod]
def rdF (R C t : Nat) (s : SSt) : SSt := colsF C t (cel3S C s t t) (rowsF R C t (cel3S C s t t) s (R - t - 1)) (C - t - 1)
theorem rdF_says (hF : Fin3 R C M s) (hI : SmI R C (mxC C s.1) t) (hr : t < R) (hc : t < C) (hp0 : cel3S C s t t ≠ 0) (ho : ok3 (rdF R C t s) = true) :
    Fin3 R C M (rdF R C t s) ∧ SmI R C (mxC C (rdF R C t s).1) t ∧ cel3S C (rdF R C t s) t t = cel3S C s t t ∧ (∀ i, t < i → i < R → 0 ≤ cel3S C (rdF R C t s) i t ∧ cel3S C (rdF R C t s) i t < ((cel3S C s t t).natAbs : Int)) ∧ ∀ j, t < j → j < C → cel3S C (rdF R C t s) t j = cel3S C s t j % cel3S C s t t := by
  unfold rdF at ho ⊢
  obtain ⟨p, hp⟩ : ∃ p, cel3S C s t t = p := ⟨_, rfl⟩
  rw [hp] at ho hp0 ⊢
  have o1 := colsF_back0 (rowsF_siz hF.siz (R - t - 1)) hc (C - t - 1) (by omega) ho
  obtain ⟨f1, i1, a1, a2⟩ := rowsF_says hF hI hr hc hp hp0 (R - t - 1) (by omega) o1
  obtain ⟨f2, i2, b1, b2⟩ := colsF_says f1 i1 hr hc (by rw [a1 t t hr hc (.inl (Nat.le_refl _))]; exact hp) hp0 (C - t - 1) (by omega) ho
  refine ⟨f2, i2, ?_, fun i h1 h2 => ?_, fun j h1 h2 => ?_⟩
  · rw [b1 t t hr hc (.inl (Nat.le_refl _)), a1 t t hr hc (.inl (Nat.le_refl _))]; exact hp
  · rw [b1 i t h2 hc (.inl (Nat.le_refl _))]; exact a2 i h1 (by omega)
  · rw [b2 j h1 (by omega), a1 t j hr h2 (.inl (Nat.le_refl _))]
end
end Go.Proofs.Ytpelnfenfeoeeaa
end

section
/-
  Plain mathematics of chapter 13: the whole of the work towards a Smith form, and what it ends in. Nothing of a program is used.
-/
namespace Go.Proofs.Ytpelnfenfeoeeaa
theorem leastF_first (f : Nat → Int) (t : Nat) : ∀ (n p : Nat), leastF f t n = (p : Int) → ∀ i, t ≤ i → i < p → f i ≠ 0 → (f p).natAbs < (f i).natAbs
  | 0, p, h, _, _, _, _ => by
    have h : (-1 : Int) = (p : Int) := h
    omega
  | n + 1, p, h, i, h1, h2, h3 => by
    have step : leastF f t (n + 1) = if f (t + n) ≠ 0 ∧ (leastF f t n < 0 ∨ (f (t + n)).natAbs < (f (leastF f t n).toNat).natAbs) then ((t + n : Nat) : Int) else leastF f t n := rfl
    rw [step] at h
    by_cases hc : f (t + n) ≠ 0 ∧ (leastF f t n < 0 ∨ (f (t + n)).natAbs < (f (leastF f t n).toNat).natAbs)
    · rw [if_pos hc] at h
      obtain rfl : p = t + n := by omega
      rcases leastF_says f t n with ⟨a1, a2⟩ | ⟨b, a1, a2, a3, a4, a5⟩
      · exact absurd (a2 i h1 h2) h3
      · have a6 := a5 i h1 h2 h3
        have e : (leastF f t n).toNat = b := by omega
        rw [e] at hc
        rcases hc.2 with h5 | h5
        · omega
        · omega
    · rw [if_neg hc] at h
      exact leastF_first f t n p h i h1 h2 h3
def plF (C t : Nat) (s : SSt) (m : Nat) : Int := cel3S C s (t + m / (C - t)) (t + m % (C - t))
def plS (R C t : Nat) (s : SSt) : Option (Nat × Nat) :=
  if leastF (plF C t s) 0 ((R - t) * (C - t)) < 0 then none
  else some (t + (leastF (plF C t s) 0 ((R - t) * (C - t))).toNat / (C - t), t + (leastF (plF C t s) 0 ((R - t) * (C - t))).toNat % (C - t))
structure PlaceP (R C t : Nat) (s : SSt) (i j : Nat) : Prop where
  eq : plS R C t s = some (i, j)
  i0 : t ≤ i
  i1 : i < R
  j0 : t ≤ j
  j1 : j < C
  nz : cel3S C s i j ≠ 0
  least : ∀ a b, t ≤ a → a < R → t ≤ b → b < C → cel3S C s a b ≠ 0 → (cel3S C s i j).natAbs ≤ (cel3S C s a b).natAbs
  first : cel3S C s t t ≠ 0 → (cel3S C s t t).natAbs ≤ (cel3S C s i j).natAbs → i = t ∧ j = t
theorem plS_says (R C t : Nat) (s : SSt) (hr : t < R) (hc : t < C) : (plS R C t s = none ∧ ∀ a b, t ≤ a → a < R → t ≤ b → b < C → cel3S C s a b = 0) ∨ ∃ i j, PlaceP R C t s i j := by
  have hw : 0 < C - t := by omega
  have at_ : ∀ a b, t ≤ a → a < R → t ≤ b → b < C → (a - t) * (C - t) + (b - t) < (R - t) * (C - t) ∧ plF C t s ((a - t) * (C - t) + (b - t)) = cel3S C s a b := fun a b h1 h2 h3 h4 => by
    have hb : b - t < C - t := by omega
    refine ⟨idx_lt (by omega) hb, ?_⟩
    unfold plF
    rw [idx_div hb, idx_mod hb, show t + (a - t) = a by omega, show t + (b - t) = b by omega]
  rcases leastF_says (plF C t s) 0 ((R - t) * (C - t)) with ⟨h1, h2⟩ | ⟨m, h1, -, h3, h4, h5⟩
  · refine .inl ⟨by unfold plS; rw [if_pos (by omega)], fun a b a1 a2 a3 a4 => ?_⟩
    obtain ⟨e1, e2⟩ := at_ a b a1 a2 a3 a4
    rw [← e2]; exact h2 _ (Nat.zero_le _) (by omega)
  · have em : (leastF (plF C t s) 0 ((R - t) * (C - t))).toNat = m := by omega
    have hi : m / (C - t) < R - t := Nat.div_lt_of_lt_mul (by rw [Nat.mul_comm]; omega)
    have hj : m % (C - t) < C - t := Nat.mod_lt _ hw
    refine .inr ⟨t + m / (C - t), t + m % (C - t), by unfold plS; rw [if_neg (by omega), em], Nat.le_add_right _ _, by omega, Nat.le_add_right _ _, by omega, h4, fun a b a1 a2 a3 a4 hne => ?_, fun hne hle => ?_⟩
    · obtain ⟨e1, e2⟩ := at_ a b a1 a2 a3 a4
      rw [← e2] at hne ⊢
      exact h5 _ (Nat.zero_le _) (by omega) hne
    · obtain ⟨e1, e2⟩ := at_ t t (Nat.le_refl _) hr (Nat.le_refl _) hc
      have e0 : (t - t) * (C - t) + (t - t) = 0 := by rw [Nat.sub_self, Nat.zero_mul]
      rw [e0] at e2
      have hm : m = 0 := by
        refine Classical.byContradiction fun hm => ?_
        have := leastF_first (plF C t s) 0 _ m h1 0 (Nat.le_refl _) (by omega) (by rw [e2]; exact hne)
        rw [e2] at this
        have hle : (cel3S C s t t).natAbs ≤ (plF C t s m).natAbs := hle
        omega
      rw [hm, Nat.zero_div, Nat.zero_mod]
      exact ⟨rfl, rfl⟩
def sw3 (R C t i j : Nat) (s : SSt) : SSt := if j ≠ t then col3 C 0 j t 0 (if i ≠ t then row3 R C 0 i t 0 s else s) else (if i ≠ t then row3 R C 0 i t 0 s else s)
def clB (R C t : Nat) (u : SSt) : Bool := ((List.range R).all fun i => decide (i ≤ t ∨ cel3S C u i t = 0)) && (List.range C).all fun j => decide (j ≤ t ∨ cel3S C u t j = 0)
theorem clB_true {R C t : Nat} {u : SSt} (h : clB R C t u = true) : (∀ i, t < i → i < R → cel3S C u i t = 0) ∧ ∀ j, t < j → j < C → cel3S C u t j = 0 := by
  unfold clB at h
  rw [Bool.and_eq_true, List.all_eq_true, List.all_eq_true] at h
  refine ⟨fun i h1 h2 => ?_, fun j h1 h2 => ?_⟩
  · have := h.1 i (List.mem_range.mpr h2)
    rw [decide_eq_true_eq] at this
    exact this.resolve_left (by omega)
  · have := h.2 j (List.mem_range.mpr h2)
    rw [decide_eq_true_eq] at this
    exact this.resolve_left (by omega)
theorem clB_false {R C t : Nat} {u : SSt} (h : clB R C t u = false) : (∃ i, t < i ∧ i < R ∧ cel3S C u i t ≠ 0) ∨ ∃ j, t < j ∧ j < C ∧ cel3S C u t j ≠ 0 := by
  refine Classical.byContradiction fun hn => ?_
  rw [not_or] at hn
  have : clB R C t u = true := by
    unfold clB
    rw [Bool.and_eq_true, List.all_eq_true, List.all_eq_true]
    refine ⟨fun i hi => ?_, fun j hj => ?_⟩
    · rw [decide_eq_true_eq]
      rcases Nat.lt_or_ge t i with h1 | h1
      · exact .inr (Classical.byContradiction fun h2 => hn.1 ⟨i, h1, List.mem_range.mp hi, h2⟩)
      · exact .inl h1
    · rw [decide_eq_true_eq]
      rcases Nat.lt_or_ge t j with h1 | h1
      · exact .inr (Classical.byContradiction fun h2 => hn.2 ⟨j, h1, List.mem_range.mp hj, h2⟩)
      · exact .inl h1
  rw [this] at h; cases h
def ndF (R C t : Nat) (u : SSt) : Option Nat := (List.range R).find? fun i => decide (t < i) && (List.range C).any fun j => decide (t < j) && decide (cel3S C u i j % cel3S C u t t ≠ 0)
theorem ndF_none {R C t : Nat} {u : SSt} (h : ndF R C t u = none) : ∀ i j, t < i → i < R → t < j → j < C → cel3S C u t t ∣ cel3S C u i j := fun i j h1 h2 h3 h4 => by
  unfold ndF at h
  rw [List.find?_eq_none] at h
  have := h i (List.mem_range.mpr h2)
  refine Int.dvd_of_emod_eq_zero (Classical.byContradiction fun hz => this ?_)
  rw [Bool.and_eq_true, decide_eq_true_eq, List.any_eq_true]
  exact ⟨h1, j, List.mem_range.mpr h4, by rw [Bool.and_eq_true, decide_eq_true_eq, decide_eq_true_eq]; exact ⟨h3, hz⟩⟩
theorem ndF_some {R C t k : Nat} {u : SSt} (h : ndF R C t u = some k) : t < k ∧ k < R ∧ ∃ j, t < j ∧ j < C ∧ cel3S C u k j % cel3S C u t t ≠ 0 := by
  unfold ndF at h
  have h1 := List.find?_some h
  have h2 := List.mem_of_find?_eq_some h
  rw [Bool.and_eq_true, decide_eq_true_eq, List.any_eq_true] at h1
  obtain ⟨h3, j, h4, h5⟩ := h1
  rw [Bool.and_eq_true, decide_eq_true_eq, decide_eq_true_eq] at h5
  exact ⟨h3, List.mem_range.mp h2, j, h5.1, List.mem_range.mp h4, h5.2⟩
def loopS (R C t : Nat) : Nat → SSt → Option (SSt × Bool)
  | 0, _ => none
  | f + 1, s => match plS R C t s with
    | none => some (s, false)
    | some (i, j) => if ok3 (rdF R C t (sw3 R C t i j s)) = true then
        (if clB R C t (rdF R C t (sw3 R C t i j s)) = true then
          (match ndF R C t (rdF R C t (sw3 R C t i j s)) with
            | none => some (rdF R C t (sw3 R C t i j s), true)
            | some k => if ok3 (row3 R C 2 t k 1 (rdF R C t (sw3 R C t i j s))) = true then loopS R C t f (row3 R C 2 t k 1 (rdF R C t (sw3 R C t i j s))) else none)
        else loopS R C t f (rdF R C t (sw3 R C t i j s)))
      else none
section
variable {R C t : Nat} {M : Mx} {s : SSt}
theorem sw3_siz {i j : Nat} (h : Siz3 R C s) : Siz3 R C (sw3 R C t i j s) := by
  unfold sw3
  split
  · refine Siz3.col ?_ _ _ _ _
    split
    · exact h.row _ _ _ _
    · exact h
  · split
    · exact h.row _ _ _ _
    · exact h
theorem sw3_says {i j : Nat} (hF : Fin3 R C M s) (hI : SmI R C (mxC C s.1) t) (hr : t < R) (hc : t < C) (hi : t ≤ i) (hiR : i < R) (hj : t ≤ j) (hjC : j < C) (ho : ok3 (sw3 R C t i j s) = true) :
    Fin3 R C M (sw3 R C t i j s) ∧ SmI R C (mxC C (sw3 R C t i j s).1) t ∧ cel3S C (sw3 R C t i j s) t t = cel3S C s i j := by
  obtain ⟨s1, hs1⟩ : ∃ s1, (if i ≠ t then row3 R C 0 i t 0 s else s) = s1 := ⟨_, rfl⟩
  have e1 : sw3 R C t i j s = if j ≠ t then col3 C 0 j t 0 s1 else s1 := by unfold sw3; rw [hs1]
  have z1 : Siz3 R C s1 := by
    rw [← hs1]; split
    · exact hF.siz.row _ _ _ _
    · exact hF.siz
  have o1 : ok3 s1 = true := by
    rw [e1] at ho
    split at ho
    · exact ok3_col z1 hjC hc ho
    · exact ho
  have g1 : Fin3 R C M s1 ∧ SmI R C (mxC C s1.1) t ∧ cel3S C s1 t j = cel3S C s i j := by
    by_cases e : i = t
    · have es : s1 = s := by rw [← hs1, if_neg (fun h => h e)]
      rw [es, e]; exact ⟨hF, hI, rfl⟩
    · have es : s1 = row3 R C 0 i t 0 s := by rw [← hs1, if_pos e]
      rw [es] at o1 ⊢
      obtain ⟨k1, k2⟩ := hF.row (.inl rfl) hiR hr (fun _ => e) (by decide) o1
      refine ⟨k1, (hI.op hi hiR (Nat.le_refl _) hr).congr fun a b ha hb => k2 a b ha hb, ?_⟩
      rw [k2 t j hr hjC]
      unfold opX
      rw [if_pos rfl, if_neg (Ne.symm e), if_pos rfl]; rfl
  obtain ⟨f1, i1, c1⟩ := g1
  rw [e1] at ho ⊢
  by_cases e : j = t
  · rw [if_neg (fun h => h e)]
    rw [e] at c1 ⊢
    exact ⟨f1, i1, c1⟩
  · rw [if_pos e] at ho ⊢
    obtain ⟨k1, k2⟩ := f1.col (.inl rfl) hjC hc e (by decide) ho
    refine ⟨k1, (i1.opC hj hjC (Nat.le_refl _) hc).congr fun a b ha hb => k2 a b ha hb, ?_⟩
    rw [k2 t t hr hc, ← c1]
    unfold opX
    rw [if_pos rfl, if_neg (Ne.symm e), if_pos rfl]; rfl
theorem rd_back (h : Siz3 R C s) (hr : t < R) (hc : t < C) (ho : ok3 (rdF R C t s) = true) : ok3 s = true :=
  rowsF_back0 h hr (R - t - 1) (by omega) (colsF_back0 (rowsF_siz h (R - t - 1)) hc (C - t - 1) (by omega) ho)
theorem round_says {i j : Nat} (hF : Fin3 R C M s) (hI : SmI R C (mxC C s.1) t) (hr : t < R) (hc : t < C) (hP : PlaceP R C t s i j) (ho : ok3 (rdF R C t (sw3 R C t i j s)) = true) :
    Fin3 R C M (rdF R C t (sw3 R C t i j s)) ∧ SmI R C (mxC C (rdF R C t (sw3 R C t i j s)).1) t ∧ cel3S C (rdF R C t (sw3 R C t i j s)) t t = cel3S C s i j ∧ (∀ a, t < a → a < R → 0 ≤ cel3S C (rdF R C t (sw3 R C t i j s)) a t ∧ cel3S C (rdF R C t (sw3 R C t i j s)) a t < ((cel3S C s i j).natAbs : Int)) ∧ ∀ b, t < b → b < C → cel3S C (rdF R C t (sw3 R C t i j s)) t b = cel3S C (sw3 R C t i j s) t b % cel3S C s i j := by
  have o1 := rd_back (sw3_siz hF.siz) hr hc ho
  obtain ⟨f1, i1, c1⟩ := sw3_says hF hI hr hc hP.i0 hP.i1 hP.j0 hP.j1 o1
  have := rdF_says f1 i1 hr hc (by rw [c1]; exact hP.nz) ho
  rwa [c1] at this
theorem loopS_says (hr : t < R) (hc : t < C) : ∀ (f : Nat) (s : SSt) {u : SSt} {b : Bool}, Fin3 R C M s → SmI R C (mxC C s.1) t → loopS R C t f s = some (u, b) →
    Fin3 R C M u ∧ SmI R C (mxC C u.1) t ∧ (b = false → ∀ i j, t ≤ i → i < R → t ≤ j → j < C → cel3S C u i j = 0) ∧ (b = true → cel3S C u t t ≠ 0 ∧ (∀ i, t < i → i < R → cel3S C u i t = 0) ∧ (∀ j, t < j → j < C → cel3S C u t j = 0) ∧ ∀ i j, t < i → i < R → t < j → j < C → cel3S C u t t ∣ cel3S C u i j)
  | 0, _, _, _, _, _, h => by cases h
  | f + 1, s, u, b, hF, hI, h => by
    rcases plS_says R C t s hr hc with ⟨h1, h2⟩ | ⟨i, j, hP⟩
    · have e : loopS R C t (f + 1) s = some (s, false) := by
        show (match plS R C t s with | none => some (s, false) | some (i, j) => _) = _
        rw [h1]
      rw [e] at h
      cases h
      exact ⟨hF, hI, fun _ => h2, fun h => by cases h⟩
    · have e : loopS R C t (f + 1) s = if ok3 (rdF R C t (sw3 R C t i j s)) = true then
          (if clB R C t (rdF R C t (sw3 R C t i j s)) = true then
            (match ndF R C t (rdF R C t (sw3 R C t i j s)) with
              | none => some (rdF R C t (sw3 R C t i j s), true)
              | some k => if ok3 (row3 R C 2 t k 1 (rdF R C t (sw3 R C t i j s))) = true then loopS R C t f (row3 R C 2 t k 1 (rdF R C t (sw3 R C t i j s))) else none)
          else loopS R C t f (rdF R C t (sw3 R C t i j s)))
        else none := by
        show (match plS R C t s with | none => some (s, false) | some (i, j) => _) = _
        rw [hP.eq]
      rw [e] at h
      by_cases ho : ok3 (rdF R C t (sw3 R C t i j s)) = true
      · rw [if_pos ho] at h
        obtain ⟨g1, g2, g3, -, -⟩ := round_says hF hI hr hc hP ho
        by_cases hcl : clB R C t (rdF R C t (sw3 R C t i j s)) = true
        · rw [if_pos hcl] at h
          cases hn : ndF R C t (rdF R C t (sw3 R C t i j s)) with
          | none =>
            rw [hn] at h
            cases h
            obtain ⟨c1, c2⟩ := clB_true hcl
            exact ⟨g1, g2, (fun h => by cases h), fun _ => ⟨by rw [g3]; exact hP.nz, c1, c2, ndF_none hn⟩⟩
          | some k =>
            rw [hn] at h
            dsimp only at h
            obtain ⟨k0, k1, -⟩ := ndF_some hn
            by_cases ho2 : ok3 (row3 R C 2 t k 1 (rdF R C t (sw3 R C t i j s))) = true
            · rw [if_pos ho2] at h
              obtain ⟨q1, q2⟩ := g1.row (.inr (.inr rfl)) hr k1 (fun _ => by omega) (by decide) ho2
              exact loopS_says hr hc f _ q1 ((g2.op (Nat.le_refl _) hr (by omega) k1).congr fun a b ha hb => q2 a b ha hb) h
            · rw [if_neg ho2] at h; cases h
        · rw [if_neg hcl] at h
          exact loopS_says hr hc f _ g1 g2 h
      · rw [if_neg ho] at h; cases h
end
end Go.Proofs.Ytpelnfenfeoeeaa
end
