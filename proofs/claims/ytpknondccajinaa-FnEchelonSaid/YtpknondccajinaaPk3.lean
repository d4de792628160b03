/-
  Texts of this seat, joined: Row3 · Row2n · MatDone · Row4 · RowRaw · WoMath · Det3 · DetL · MatNew · UptoMath · MatS9 · OpDet · MulMath · SameMath · TurnMath
-/
import Derived.IntWalk
import Derived.StillTailTactics
import Derived.Test.YtpknondccajinaaRows
import Derived.Test.YtpknondccajinaaPk1
import Derived.Test.YtpknondccajinaaPk2

section
/-
  Chapter 5, in the model: an operation on rows, in place.
-/
namespace Go.Proofs.Ytpknondccajinaa
set_option maxRecDepth 100000
open Go.RowKit

/-! ### l5Do -/
/-- A statement that gives back nothing. -/
def Void (e : Ending) : Prop := e = .returned (.tuple #[])
theorem tenF {W w' : World} {b b' : Nat} {t t' : TypeId} {p q r x y z u : Value} {pr : Nat → Prop} (h0 : Blk3 W b t p q r) (h1 : Blk4 W b' t' x y z u) (hg : FrS pr W w') (hb : ¬ pr b) (hb' : ¬ pr b') :
    w'.cell? ⟨b, 0, none⟩ = some p ∧ w'.cell? ⟨b, 1, none⟩ = some q ∧ w'.cell? ⟨b, 2, none⟩ = some r ∧ w'.cell? ⟨b', 0, none⟩ = some x ∧ w'.cell? ⟨b', 1, none⟩ = some y ∧ w'.cell? ⟨b', 2, none⟩ = some z ∧ w'.cell? ⟨b', 3, none⟩ = some u := by
  have k1 : Blk4 w' b' t' x y z u := (hg.block b' h1.lt hb').trans h1
  exact ⟨(h0.frs hg hb).cell0, (h0.frs hg hb).cell1, (h0.frs hg hb).cell2, k1.cell0, k1.cell1, k1.cell2, k1.cell3⟩
/-- Ints in a block whose size is known. -/
def IntsZ (S : Nat) (w : World) (g : Nat) (zs : List Int) : Prop := Ints w g zs ∧ ∃ (cur : Array Value) (t : TypeId) (f : Nat × Nat), w.heap[g]? = some (.cells cur t f) ∧ cur.size = S
theorem IntsZ.of {w : World} {g : Nat} {zs : List Int} (h : Ints w g zs) : ∃ S, IntsZ S w g zs := by
  obtain ⟨rest, e⟩ := id h
  exact ⟨_, h, _, _, _, e, rfl⟩
theorem IntsZ.move {S : Nat} {w w' : World} {g : Nat} {zs : List Int} (h : IntsZ S w g zs) (e : w'.heap[g]? = w.heap[g]?) : IntsZ S w' g zs := by
  obtain ⟨h1, cur, t, f, h2, h3⟩ := h
  exact ⟨h1.move e, cur, t, f, e.trans h2, h3⟩
theorem IntsZ.lt {S : Nat} {w : World} {g : Nat} {zs : List Int} (h : IntsZ S w g zs) : g < w.heap.size := h.1.lt
theorem IntsZ.cell {S : Nat} {w : World} {g : Nat} {zs : List Int} (h : IntsZ S w g zs) {i : Nat} (hi : i < zs.length) : w.cell? ⟨g, i, none⟩ = some (.int .i64 (zs.getD i 0)) := h.1.cell hi
theorem IntsZ.free {S : Nat} {w : World} {g : Nat} {zs : List Int} (h : IntsZ S w g zs) (i : Nat) : w.frozen? ⟨g, i, none⟩ = false := h.1.free i
theorem IntsZ.drew {S : Nat} {w : World} {g : Nat} {zs : List Int} (h : IntsZ S w g zs) : IntsZ S w.drew g zs := h
theorem IntsZ.old {S : Nat} {w : World} {g : Nat} {zs : List Int} (h : IntsZ S w g zs) (o : Obj) : IntsZ S (w.alloc o) g zs := h.move (Below.heap_alloc w o g h.lt)
theorem IntsZ.set {S : Nat} {w : World} {g : Nat} {zs : List Int} (h : IntsZ S w g zs) (i : Nat) (z : Int) : IntsZ S (w.setCell ⟨g, i, none⟩ (.int .i64 z)) g (zs.set i z) := by
  obtain ⟨h1, cur, t, f, h2, h3⟩ := h
  refine ⟨h1.set i z, cur.setIfInBounds i (.int .i64 z), t, f, ?_, by simp [h3]⟩
  obtain ⟨hlt, hget⟩ := Array.getElem?_eq_some_iff.mp h2
  simp [World.setCell, hlt, Array.getElem_modify, hget]
theorem IntsC.z {w : World} {g cap : Nat} {zs : List Int} (h : IntsC w g cap zs) : IntsZ cap w g zs := by
  obtain ⟨-, rest, hl, e⟩ := id h
  exact ⟨h.ints, _, _, _, e, by simp; omega⟩
theorem IntsZ.c {w : World} {g cap : Nat} {zs : List Int} (h : IntsZ cap w g zs) (hc : cap ≤ maxLen) : IntsC w g cap zs := by
  obtain ⟨⟨rest, e⟩, cur, t, f, h2, h3⟩ := h
  rw [e] at h2
  simp only [Option.some.injEq, Obj.cells.injEq] at h2
  refine ⟨hc, rest, ?_, e⟩
  rw [← h3, ← h2.1]
  simp
set_option maxRecDepth 100000 in
set_option maxHeartbeats 4000000 in
theorem sDoZ (S R C Iq J g n cap : Nat) (k t : Int) (xs : List Int) (w : World) (hi : IntsZ S w g xs) (hx : xs.length = n) (hn : n = R * C) (hR : R ≤ 24) (hC : C ≤ 24) (hI : Iq < R) (hJ : J < R) (hk : k = 0 ∨ k = 1 ∨ k = 2) (hIJ : k = 0 → Iq ≠ J) :
    Calls Try.prog 86 #[.agg #[.int .i64 R, .int .i64 C, .slice (some ⟨g, 0, none⟩) n cap], .agg #[.int .i64 k, .int .i64 Iq, .int .i64 J, .int .i64 t]] w (fun e w' => Void e ∧ IntsZ S w' g (opL k Iq J t C xs) ∧ w.grownBy w' (some g)) := by
  have hle : R * C ≤ 24 * 24 := Nat.mul_le_mul hR hC
  have I0 := Lib.hid hi
  have HX := Lib.hid hx
  have HN := Lib.hid hn
  have HIJ := Lib.hid hIJ
  have gl := hi.lt
  rw [← hn] at hle
  have K0 : Hid (Blk3 ((w.alloc (.cells #[.int .i64 R, .int .i64 C, .slice (some ⟨g, 0, none⟩) n cap] 26)).alloc (.cells #[.int .i64 k, .int .i64 Iq, .int .i64 J, .int .i64 t] 61)) w.heap.size 26 (.int .i64 R) (.int .i64 C) (.slice (some ⟨g, 0, none⟩) n cap)) := (Blk3.at_ _ _ _ _ rfl).old _
  have K1 : Hid (Blk4 ((w.alloc (.cells #[.int .i64 R, .int .i64 C, .slice (some ⟨g, 0, none⟩) n cap] 26)).alloc (.cells #[.int .i64 k, .int .i64 Iq, .int .i64 J, .int .i64 t] 61)) (w.heap.size + 1) 61 (.int .i64 k) (.int .i64 Iq) (.int .i64 J) (.int .i64 t)) := Blk4.at_ _ _ _ _ _ (by simp)
  have I1 : Hid (IntsZ S ((w.alloc (.cells #[.int .i64 R, .int .i64 C, .slice (some ⟨g, 0, none⟩) n cap] 26)).alloc (.cells #[.int .i64 k, .int .i64 Iq, .int .i64 J, .int .i64 t] 61)) g xs) := (hi.old _).old _
  have G0 : Hid (w.grownBy ((w.alloc (.cells #[.int .i64 R, .int .i64 C, .slice (some ⟨g, 0, none⟩) n cap] 26)).alloc (.cells #[.int .i64 k, .int .i64 Iq, .int .i64 J, .int .i64 t] 61)) (some g)) := (World.grownBy_alloc w _ _).trans (World.grownBy_alloc _ _ _)
  clear hi hx hn hIJ
  go_enter Try.func86, Try.ntmps86
  go_wp2_with fail
  go_loopw [4, 5, 6] (fun i _ _ wr => ∃ q : Nat, i = .int .i64 q ∧ q ≤ C ∧ IntsZ S wr g (opTo k Iq J t C xs q) ∧ ((w.alloc (.cells #[.int .i64 R, .int .i64 C, .slice (some ⟨g, 0, none⟩) n cap] 26)).alloc (.cells #[.int .i64 k, .int .i64 Iq, .int .i64 J, .int .i64 t] 61)).grownBy wr (some g)) (fun i _ _ _ => C - (intOf i).toNat)
  case atStart => exact ⟨0, rfl, by omega, by rw [opTo_zero]; exact I1.out, World.grownBy.refl _ _⟩
  case round =>
    obtain ⟨q, rfl, hq, hi, hgr⟩ := hrel
    have I := Lib.hid hi
    have G := Lib.hid hgr
    have GW := Lib.hid (G0.out.trans hgr)
    clear hi hgr
    have R0 := Lib.hid (K0.out.keepOne G.out (by omega))
    have R1 := Lib.hid (K1.out.keepOne G.out (by omega))
    obtain ⟨r0, r1, r2, -, -, -⟩ := R0.out.all
    obtain ⟨o0, o1, o2, o3⟩ := R1.out.all
    by_cases hlt : q < C
    · have a1 : Iq * C + q < n := by rw [HN.out]; exact idx_lt hI hlt
      have a2 : J * C + q < n := by rw [HN.out]; exact idx_lt hJ hlt
      have c1 : (Iq : Int) * (C : Int) = ((Iq * C : Nat) : Int) := (Int.natCast_mul _ _).symm
      have c2 : (J : Int) * (C : Int) = ((J * C : Nat) : Int) := (Int.natCast_mul _ _).symm
      have d1 : 0 ≤ (Iq : Int) * (C : Int) ∧ (Iq : Int) * (C : Int) ≤ 600 := by rw [c1]; omega
      have d2 : 0 ≤ (J : Int) * (C : Int) ∧ (J : Int) * (C : Int) ≤ 600 := by rw [c2]; omega
      have e1 : 0 ≤ (Iq : Int) * (C : Int) + (q : Int) := by omega
      have e2 : (Iq : Int) * (C : Int) + (q : Int) < (n : Int) := by rw [c1]; omega
      have e3 : ((Iq : Int) * (C : Int) + (q : Int)).toNat = Iq * C + q := by rw [c1]; omega
      have f1 : 0 ≤ (J : Int) * (C : Int) + (q : Int) := by omega
      have f2 : (J : Int) * (C : Int) + (q : Int) < (n : Int) := by rw [c2]; omega
      have f3 : ((J : Int) * (C : Int) + (q : Int)).toNat = J * C + q := by rw [c2]; omega
      obtain ⟨d11, d12⟩ := d1
      obtain ⟨d21, d22⟩ := d2
      have v1 : IntKind.i64.wrap ((Iq : Int) * (C : Int)) = (Iq : Int) * (C : Int) := IntWalk.i64_in _ (by omega)
      have v2 : IntKind.i64.wrap ((Iq : Int) * (C : Int) + (q : Int)) = (Iq : Int) * (C : Int) + (q : Int) := IntWalk.i64_in _ (by omega)
      have v3 : IntKind.i64.wrap ((J : Int) * (C : Int)) = (J : Int) * (C : Int) := IntWalk.i64_in _ (by omega)
      have v4 : IntKind.i64.wrap ((J : Int) * (C : Int) + (q : Int)) = (J : Int) * (C : Int) + (q : Int) := IntWalk.i64_in _ (by omega)
      have h1 := I.out.cell (i := Iq * C + q) (by rw [opTo_length, HX.out]; exact a1)
      have h2 := I.out.cell (i := J * C + q) (by rw [opTo_length, HX.out]; exact a2)
      rw [opTo_at _ _ _ _ _ _ _ _ hlt (by rw [HX.out]; exact a1)] at h1
      rw [opTo_at _ _ _ _ _ _ _ _ hlt (by rw [HX.out]; exact a2)] at h2
      have fr1 := I.out.free (Iq * C + q)
      have fr2 := I.out.free (J * C + q)
      have hlen : xs.length = R * C := by rw [HX.out, HN.out]
      obtain ⟨x, hxx⟩ : ∃ x, xs.getD (Iq * C + q) 0 = x := ⟨_, rfl⟩
      obtain ⟨y, hyy⟩ : ∃ y, xs.getD (J * C + q) 0 = y := ⟨_, rfl⟩
      have s0 := op_swap Iq J t C R xs q hlen hI hJ hlt
      have s1 := op_one 1 Iq J t C R xs q (mulB x (-1)) hlen hI hlt (.inl rfl) (by rw [opAt_one _ _ _ _ _ hlt, hxx])
      have s2 := op_one 2 Iq J t C R xs q (addB x (mulB y t)) hlen hI hlt (.inr rfl) (by rw [opAt_two _ _ _ _ _ hlt, hxx, hyy])
      rw [hxx, hyy] at s0
      rw [hxx] at h1
      rw [hyy] at h2
      have S0 := Lib.hid s0
      have S1 := Lib.hid s1
      have S2 := Lib.hid s2
      have A1 := Lib.hid a1
      have A2 := Lib.hid a2
      clear c1 c2 hxx hyy s0 s1 s2 hlen a1 a2
      rcases hk with e0 | e0 | e0
      · have n0 : (k == 0) = true := by simpa using e0
        have n1 : (k == 1) = false := by rw [e0]; rfl
        have KE := Lib.hid e0
        clear e0
        have IS := I.out.set (Iq * C + q) y
        have fr2 := IS.free (J * C + q)
        have hold := IS.cell (i := J * C + q) (by rw [List.length_set, opTo_length, HX.out]; exact A2.out)
        have rr0 : Blk3 (wr.setCell ⟨g, Iq * C + q, none⟩ (.int .i64 y)) w.heap.size 26 (.int .i64 R) (.int .i64 C) (.slice (some ⟨g, 0, none⟩) n cap) := R0.out.far (by simp; omega) _
        have rr1 : Blk4 (wr.setCell ⟨g, Iq * C + q, none⟩ (.int .i64 y)) (w.heap.size + 1) 61 (.int .i64 k) (.int .i64 Iq) (.int .i64 J) (.int .i64 t) := (Below.heap_setCell wr ⟨g, Iq * C + q, none⟩ (.int .i64 y) (w.heap.size + 1) (by simp; omega)).trans R1.out
        obtain ⟨z0, z1, z2, -, -, -⟩ := rr0.all
        obtain ⟨y0, y1, y2, y3⟩ := rr1.all
        have IS2 := Lib.hid (IS.set (J * C + q) x)
        clear IS rr0 rr1
        go_wp2_with fail
        go_roundw
        case rel =>
          refine ⟨q + 1, by go_num, by omega, ?_, ?_⟩
          · have := S0.out
            rcases this with h | h
            · have z := IS2.out; rw [KE.out] at z ⊢; rw [← h]; exact z
            · exact absurd h (HIJ.out KE.out)
          · exact grown_set_one (a := ⟨g, J * C + q, none⟩) (grown_set_one (a := ⟨g, Iq * C + q, none⟩) G.out rfl _) rfl _
        case measure => simp [intOf]; omega
      · have n0 : (k == 0) = false := by rw [e0]; rfl
        have n1 : (k == 1) = true := by simpa using e0
        have KE := Lib.hid e0
        clear e0
        go_upto_region 12 with fail
        refine wp_region_held_drew (S := fun w' => FrS (fun k => k = g) wr w') (by kernel_rfl) (FrS.refl _ _).drew (fun hH => ?_)
        refine wpAnyH_take (i := 0) (v := ?_) (by simp only [List.getElem?_toArray, List.getElem?_cons_zero]; rfl) (by kernel_rfl) (by kernel_rfl) (by kernel_rfl) (by exact fun _ _ _ h => h) (Or.inl ⟨by rfl, ?_⟩) hH ?_
        rotate_left
        · (intro wS hS; clear hS; go_simp; try rfl)
        try simp only [Act.put, List.setIfInBounds_toArray, List.set_cons_zero, List.set_cons_succ]
        refine wpAnyH_take (i := 1) (v := ?_) (by simp only [List.getElem?_toArray, List.getElem?_cons_succ, List.getElem?_cons_zero]; rfl) (by kernel_rfl) (by kernel_rfl) (by kernel_rfl) (by exact fun _ _ _ h => h) (Or.inl ⟨by rfl, ?_⟩) hH ?_
        rotate_left
        · (intro wS hS; (try dsimp only at hS); obtain ⟨k1, k2, k3, k4, k5, k6, k7⟩ := tenF R0.out R1.out hS (by omega) (by omega); go_simp; try rfl)
        try simp only [Act.put, List.setIfInBounds_toArray, List.set_cons_zero, List.set_cons_succ]
        refine wpAnyH_take (i := 2) (v := ?_) (by simp only [List.getElem?_toArray, List.getElem?_cons_succ, List.getElem?_cons_zero]; rfl) (by kernel_rfl) (by kernel_rfl) (by kernel_rfl) (by exact fun _ _ _ h => h) (Or.inl ⟨by rfl, ?_⟩) hH ?_
        rotate_left
        · (intro wS hS; clear hS; go_simp; try rfl)
        try simp only [Act.put, List.setIfInBounds_toArray, List.set_cons_zero, List.set_cons_succ]
        refine wpAnyH_take (i := 3) (v := ?_) (by simp only [List.getElem?_toArray, List.getElem?_cons_succ, List.getElem?_cons_zero]; rfl) (by kernel_rfl) (by kernel_rfl) (by kernel_rfl) (by exact fun _ _ _ h => h) (Or.inl ⟨by rfl, ?_⟩) hH ?_
        rotate_left
        · (intro wS hS; (try dsimp only at hS); obtain ⟨k1, k2, k3, k4, k5, k6, k7⟩ := tenF R0.out R1.out hS (by omega) (by omega); go_simp; try rfl)
        try simp only [Act.put, List.setIfInBounds_toArray, List.set_cons_zero, List.set_cons_succ]
        refine wpAnyH_take (i := 4) (v := ?_) (by simp only [List.getElem?_toArray, List.getElem?_cons_succ, List.getElem?_cons_zero]; rfl) (by kernel_rfl) (by kernel_rfl) (by kernel_rfl) (by exact fun _ _ _ h => h) (Or.inl ⟨by rfl, ?_⟩) hH ?_
        rotate_left
        · (intro wS hS; clear hS; go_simp; try rfl)
        try simp only [Act.put, List.setIfInBounds_toArray, List.set_cons_zero, List.set_cons_succ]
        refine wpAnyH_take (i := 5) (v := ?_) (by simp only [List.getElem?_toArray, List.getElem?_cons_succ, List.getElem?_cons_zero]; rfl) (by kernel_rfl) (by kernel_rfl) (by kernel_rfl) (by exact fun _ _ _ h => h) (Or.inl ⟨by rfl, ?_⟩) hH ?_
        rotate_left
        · (intro wS hS; (try dsimp only at hS); obtain ⟨k1, k2, k3, k4, k5, k6, k7⟩ := tenF R0.out R1.out hS (by omega) (by omega); go_simp; try rfl)
        try simp only [Act.put, List.setIfInBounds_toArray, List.set_cons_zero, List.set_cons_succ]
        refine wpAnyH_take (i := 6) (v := ?_) (by simp only [List.getElem?_toArray, List.getElem?_cons_succ, List.getElem?_cons_zero]; rfl) (by kernel_rfl) (by kernel_rfl) (by kernel_rfl) (by exact fun _ _ _ h => h) (Or.inl ⟨by rfl, ?_⟩) hH ?_
        rotate_left
        · (intro wS hS; clear hS; go_simp; try rfl)
        try simp only [Act.put, List.setIfInBounds_toArray, List.set_cons_zero, List.set_cons_succ]
        refine wpAnyH_take (i := 7) (v := ?_) (by simp only [List.getElem?_toArray, List.getElem?_cons_succ, List.getElem?_cons_zero]; rfl) (by kernel_rfl) (by kernel_rfl) (by kernel_rfl) (by exact fun _ _ _ h => h) (Or.inl ⟨by rfl, ?_⟩) hH ?_
        rotate_left
        · (intro wS hS; clear hS; go_simp; try rfl)
        try simp only [Act.put, List.setIfInBounds_toArray, List.set_cons_zero, List.set_cons_succ]
        refine wpAnyH_take (i := 8) (v := ?_) (by simp only [List.getElem?_toArray, List.getElem?_cons_succ, List.getElem?_cons_zero]; rfl) (by kernel_rfl) (by kernel_rfl) (by kernel_rfl) (by exact fun _ _ _ h => h) (Or.inl ⟨by rfl, ?_⟩) hH ?_
        rotate_left
        · (intro wS hS; clear hS; go_simp; try rfl)
        try simp only [Act.put, List.setIfInBounds_toArray, List.set_cons_zero, List.set_cons_succ]
        refine wpAnyH_take (i := 9) (v := ?_) (by simp only [List.getElem?_toArray, List.getElem?_cons_succ, List.getElem?_cons_zero]; rfl) (by kernel_rfl) (by kernel_rfl) (by kernel_rfl) (by exact fun _ _ _ h => h) (Or.inl ⟨by rfl, ?_⟩) hH ?_
        rotate_left
        · (intro wS hS; clear hS; go_simp; try rfl)
        try simp only [Act.put, List.setIfInBounds_toArray, List.set_cons_zero, List.set_cons_succ]
        refine wpAnyH_ready (rs := [10]) (by kernel_rfl) (by simp) ?_
        refine AllReadyH.cons (by simp only [List.getElem?_toArray, List.getElem?_cons_succ, List.getElem?_cons_zero]; rfl) (fun KK hKK => ?_) AllReadyH.nil
        go_simp
        refine (sMulB x (-1) _).mono ?_
        rintro e w' ⟨rfl, rfl⟩
        try dsimp only
        refine hKK.out _ _ ?_ (fun hH2 => ?_)
        · exact (FrS.refl _ wr).drew
        clear hKK KK
        have hO := hH
        clear hH
        have hH := hH2
        clear hH2
        try simp only [Act.put, List.setIfInBounds_toArray, List.set_cons_zero, List.set_cons_succ]
        refine wpAnyH_take (i := 11) (v := ?_) (by simp only [List.getElem?_toArray, List.getElem?_cons_succ, List.getElem?_cons_zero]; rfl) (by kernel_rfl) (by kernel_rfl) (by kernel_rfl) (by exact fun _ _ _ h => h) (Or.inl ⟨by rfl, ?_⟩) hH ?_
        rotate_left
        · (intro wS hS; clear hS; go_simp; try rfl)
        try simp only [Act.put, List.setIfInBounds_toArray, List.set_cons_zero, List.set_cons_succ]
        have IX := Lib.hid (I.out.set (Iq * C + q) (mulB x (-1))).drew
        refine wpAnyH_ready (rs := [12]) (by kernel_rfl) (by simp) ?_
        refine AllReadyH.cons (by simp only [List.getElem?_toArray, List.getElem?_cons_succ, List.getElem?_cons_zero]; rfl) (fun KK hKK => ?_) AllReadyH.nil
        go_simp
        try dsimp only
        refine hKK.out _ _ ?_ (fun hH2 => ?_)
        · exact ((FrS.refl (fun k => k = g) wr).set (a := ⟨g, Iq * C + q, none⟩) (.inl rfl) _).drew
        clear hKK KK
        have hO := hH
        clear hH
        have hH := hH2
        clear hH2
        try simp only [Act.put, List.setIfInBounds_toArray, List.set_cons_zero, List.set_cons_succ]
        refine wpAnyH_done (by kernel_rfl) ?_ _
        go_wp2_with fail
        go_roundw
        case rel => exact ⟨q + 1, by go_num, by omega, by have z := IX.out; rw [KE.out] at z ⊢; rw [← S1.out]; exact z, grown_drew_one (grown_set_one (a := ⟨g, Iq * C + q, none⟩) G.out rfl _)⟩
        case measure => simp [intOf]; omega
      · have n0 : (k == 0) = false := by rw [e0]; rfl
        have n1 : (k == 1) = false := by rw [e0]; rfl
        have KE := Lib.hid e0
        clear e0
        go_upto_region 7 with fail
        refine wp_region_held_drew (S := fun w' => FrS (fun k => k = g) wr w') (by kernel_rfl) (FrS.refl _ _).drew (fun hH => ?_)
        refine wpAnyH_take (i := 0) (v := ?_) (by simp only [List.getElem?_toArray, List.getElem?_cons_zero]; rfl) (by kernel_rfl) (by kernel_rfl) (by kernel_rfl) (by exact fun _ _ _ h => h) (Or.inl ⟨by rfl, ?_⟩) hH ?_
        rotate_left
        · (intro wS hS; clear hS; go_simp; try rfl)
        try simp only [Act.put, List.setIfInBounds_toArray, List.set_cons_zero, List.set_cons_succ]
        refine wpAnyH_take (i := 1) (v := ?_) (by simp only [List.getElem?_toArray, List.getElem?_cons_succ, List.getElem?_cons_zero]; rfl) (by kernel_rfl) (by kernel_rfl) (by kernel_rfl) (by exact fun _ _ _ h => h) (Or.inl ⟨by rfl, ?_⟩) hH ?_
        rotate_left
        · (intro wS hS; (try dsimp only at hS); obtain ⟨k1, k2, k3, k4, k5, k6, k7⟩ := tenF R0.out R1.out hS (by omega) (by omega); go_simp; try rfl)
        try simp only [Act.put, List.setIfInBounds_toArray, List.set_cons_zero, List.set_cons_succ]
        refine wpAnyH_take (i := 2) (v := ?_) (by simp only [List.getElem?_toArray, List.getElem?_cons_succ, List.getElem?_cons_zero]; rfl) (by kernel_rfl) (by kernel_rfl) (by kernel_rfl) (by exact fun _ _ _ h => h) (Or.inl ⟨by rfl, ?_⟩) hH ?_
        rotate_left
        · (intro wS hS; clear hS; go_simp; try rfl)
        try simp only [Act.put, List.setIfInBounds_toArray, List.set_cons_zero, List.set_cons_succ]
        refine wpAnyH_take (i := 3) (v := ?_) (by simp only [List.getElem?_toArray, List.getElem?_cons_succ, List.getElem?_cons_zero]; rfl) (by kernel_rfl) (by kernel_rfl) (by kernel_rfl) (by exact fun _ _ _ h => h) (Or.inl ⟨by rfl, ?_⟩) hH ?_
        rotate_left
        · (intro wS hS; (try dsimp only at hS); obtain ⟨k1, k2, k3, k4, k5, k6, k7⟩ := tenF R0.out R1.out hS (by omega) (by omega); go_simp; try rfl)
        try simp only [Act.put, List.setIfInBounds_toArray, List.set_cons_zero, List.set_cons_succ]
        refine wpAnyH_take (i := 4) (v := ?_) (by simp only [List.getElem?_toArray, List.getElem?_cons_succ, List.getElem?_cons_zero]; rfl) (by kernel_rfl) (by kernel_rfl) (by kernel_rfl) (by exact fun _ _ _ h => h) (Or.inl ⟨by rfl, ?_⟩) hH ?_
        rotate_left
        · (intro wS hS; clear hS; go_simp; try rfl)
        try simp only [Act.put, List.setIfInBounds_toArray, List.set_cons_zero, List.set_cons_succ]
        refine wpAnyH_take (i := 5) (v := ?_) (by simp only [List.getElem?_toArray, List.getElem?_cons_succ, List.getElem?_cons_zero]; rfl) (by kernel_rfl) (by kernel_rfl) (by kernel_rfl) (by exact fun _ _ _ h => h) (Or.inl ⟨by rfl, ?_⟩) hH ?_
        rotate_left
        · (intro wS hS; (try dsimp only at hS); obtain ⟨k1, k2, k3, k4, k5, k6, k7⟩ := tenF R0.out R1.out hS (by omega) (by omega); go_simp; try rfl)
        try simp only [Act.put, List.setIfInBounds_toArray, List.set_cons_zero, List.set_cons_succ]
        refine wpAnyH_take (i := 6) (v := ?_) (by simp only [List.getElem?_toArray, List.getElem?_cons_succ, List.getElem?_cons_zero]; rfl) (by kernel_rfl) (by kernel_rfl) (by kernel_rfl) (by exact fun _ _ _ h => h) (Or.inl ⟨by rfl, ?_⟩) hH ?_
        rotate_left
        · (intro wS hS; clear hS; go_simp; try rfl)
        try simp only [Act.put, List.setIfInBounds_toArray, List.set_cons_zero, List.set_cons_succ]
        refine wpAnyH_take (i := 7) (v := ?_) (by simp only [List.getElem?_toArray, List.getElem?_cons_succ, List.getElem?_cons_zero]; rfl) (by kernel_rfl) (by kernel_rfl) (by kernel_rfl) (by exact fun _ _ _ h => h) (Or.inl ⟨by rfl, ?_⟩) hH ?_
        rotate_left
        · (intro wS hS; clear hS; go_simp; try rfl)
        try simp only [Act.put, List.setIfInBounds_toArray, List.set_cons_zero, List.set_cons_succ]
        refine wpAnyH_take (i := 8) (v := ?_) (by simp only [List.getElem?_toArray, List.getElem?_cons_succ, List.getElem?_cons_zero]; rfl) (by kernel_rfl) (by kernel_rfl) (by kernel_rfl) (by exact fun _ _ _ h => h) (Or.inl ⟨by rfl, ?_⟩) hH ?_
        rotate_left
        · (intro wS hS; clear hS; go_simp; try rfl)
        try simp only [Act.put, List.setIfInBounds_toArray, List.set_cons_zero, List.set_cons_succ]
        refine wpAnyH_take (i := 9) (v := ?_) (by simp only [List.getElem?_toArray, List.getElem?_cons_succ, List.getElem?_cons_zero]; rfl) (by kernel_rfl) (by kernel_rfl) (by kernel_rfl) (by exact fun _ _ _ h => h) (Or.inl ⟨by rfl, ?_⟩) hH ?_
        rotate_left
        · (intro wS hS; clear hS; go_simp; try rfl)
        try simp only [Act.put, List.setIfInBounds_toArray, List.set_cons_zero, List.set_cons_succ]
        refine wpAnyH_take (i := 10) (v := ?_) (by simp only [List.getElem?_toArray, List.getElem?_cons_succ, List.getElem?_cons_zero]; rfl) (by kernel_rfl) (by kernel_rfl) (by kernel_rfl) (by exact fun _ _ _ h => h) (Or.inl ⟨by rfl, ?_⟩) hH ?_
        rotate_left
        · (intro wS hS; clear hS; go_simp; try rfl)
        try simp only [Act.put, List.setIfInBounds_toArray, List.set_cons_zero, List.set_cons_succ]
        refine wpAnyH_take (i := 11) (v := ?_) (by simp only [List.getElem?_toArray, List.getElem?_cons_succ, List.getElem?_cons_zero]; rfl) (by kernel_rfl) (by kernel_rfl) (by kernel_rfl) (by exact fun _ _ _ h => h) (Or.inl ⟨by rfl, ?_⟩) hH ?_
        rotate_left
        · (intro wS hS; clear hS; go_simp; try rfl)
        try simp only [Act.put, List.setIfInBounds_toArray, List.set_cons_zero, List.set_cons_succ]
        refine wpAnyH_take (i := 12) (v := ?_) (by simp only [List.getElem?_toArray, List.getElem?_cons_succ, List.getElem?_cons_zero]; rfl) (by kernel_rfl) (by kernel_rfl) (by kernel_rfl) (by exact fun _ _ _ h => h) (Or.inl ⟨by rfl, ?_⟩) hH ?_
        rotate_left
        · (intro wS hS; (try dsimp only at hS); obtain ⟨k1, k2, k3, k4, k5, k6, k7⟩ := tenF R0.out R1.out hS (by omega) (by omega); go_simp; try rfl)
        try simp only [Act.put, List.setIfInBounds_toArray, List.set_cons_zero, List.set_cons_succ]
        refine wpAnyH_ready (rs := [13]) (by kernel_rfl) (by simp) ?_
        refine AllReadyH.cons (by simp only [List.getElem?_toArray, List.getElem?_cons_succ, List.getElem?_cons_zero]; rfl) (fun KK hKK => ?_) AllReadyH.nil
        go_simp
        refine (sMulB y t _).mono ?_
        rintro e w' ⟨rfl, rfl⟩
        try dsimp only
        refine hKK.out _ _ ?_ (fun hH2 => ?_)
        · exact (FrS.refl _ wr).drew
        clear hKK KK
        have hO := hH
        clear hH
        have hH := hH2
        clear hH2
        try simp only [Act.put, List.setIfInBounds_toArray, List.set_cons_zero, List.set_cons_succ]
        refine wpAnyH_ready (rs := [14]) (by kernel_rfl) (by simp) ?_
        refine AllReadyH.cons (by simp only [List.getElem?_toArray, List.getElem?_cons_succ, List.getElem?_cons_zero]; rfl) (fun KK hKK => ?_) AllReadyH.nil
        go_simp
        refine (sAddB x _ _).mono ?_
        rintro e w' ⟨rfl, rfl⟩
        try dsimp only
        refine hKK.out _ _ ?_ (fun hH2 => ?_)
        · exact (FrS.refl _ wr).drew
        clear hKK KK
        have hO := hH
        clear hH
        have hH := hH2
        clear hH2
        try simp only [Act.put, List.setIfInBounds_toArray, List.set_cons_zero, List.set_cons_succ]
        refine wpAnyH_take (i := 15) (v := ?_) (by simp only [List.getElem?_toArray, List.getElem?_cons_succ, List.getElem?_cons_zero]; rfl) (by kernel_rfl) (by kernel_rfl) (by kernel_rfl) (by exact fun _ _ _ h => h) (Or.inl ⟨by rfl, ?_⟩) hH ?_
        rotate_left
        · (intro wS hS; clear hS; go_simp; try rfl)
        try simp only [Act.put, List.setIfInBounds_toArray, List.set_cons_zero, List.set_cons_succ]
        have IX := Lib.hid (I.out.set (Iq * C + q) (addB x (mulB y t))).drew
        refine wpAnyH_ready (rs := [16]) (by kernel_rfl) (by simp) ?_
        refine AllReadyH.cons (by simp only [List.getElem?_toArray, List.getElem?_cons_succ, List.getElem?_cons_zero]; rfl) (fun KK hKK => ?_) AllReadyH.nil
        go_simp
        try dsimp only
        refine hKK.out _ _ ?_ (fun hH2 => ?_)
        · exact ((FrS.refl (fun k => k = g) wr).set (a := ⟨g, Iq * C + q, none⟩) (.inl rfl) _).drew
        clear hKK KK
        have hO := hH
        clear hH
        have hH := hH2
        clear hH2
        try simp only [Act.put, List.setIfInBounds_toArray, List.set_cons_zero, List.set_cons_succ]
        refine wpAnyH_done (by kernel_rfl) ?_ _
        go_wp2_with fail
        go_roundw
        case rel => exact ⟨q + 1, by go_num, by omega, by have z := IX.out; rw [KE.out] at z ⊢; rw [← S2.out]; exact z, grown_drew_one (grown_set_one (a := ⟨g, Iq * C + q, none⟩) G.out rfl _)⟩
        case measure => simp [intOf]; omega
    · have hq2 : decide (q < C) = false := by simpa using hlt
      have hqC : q = C := by omega
      have EQ : Hid (opTo k Iq J t C xs q = opL k Iq J t C xs) := by
        show opTo k Iq J t C xs q = opL k Iq J t C xs
        rw [hqC]
        refine opTo_all _ _ _ _ _ _ ?_
        rcases Nat.eq_zero_or_pos C with e | e
        · left; rw [HX.out, HN.out, e, Nat.mul_zero]
        · exact .inr e
      clear hqC
      go_wp2_with fail
      have II : IntsZ S wr g (opL k Iq J t C xs) := by rw [← EQ.out]; exact I.out
      go_end0
      exact ⟨rfl, II, GW.out⟩
theorem sDo (R C Iq J g n cap : Nat) (k t : Int) (xs : List Int) (w : World) (hi : Ints w g xs) (hx : xs.length = n) (hn : n = R * C) (hR : R ≤ 24) (hC : C ≤ 24) (hI : Iq < R) (hJ : J < R) (hk : k = 0 ∨ k = 1 ∨ k = 2) (hIJ : k = 0 → Iq ≠ J) :
    Calls Try.prog 86 #[.agg #[.int .i64 R, .int .i64 C, .slice (some ⟨g, 0, none⟩) n cap], .agg #[.int .i64 k, .int .i64 Iq, .int .i64 J, .int .i64 t]] w (fun e w' => Void e ∧ Ints w' g (opL k Iq J t C xs) ∧ w.grownBy w' (some g)) := by
  obtain ⟨S, h⟩ := IntsZ.of hi
  exact (sDoZ S R C Iq J g n cap k t xs w h hx hn hR hC hI hJ hk hIJ).mono fun _ _ ⟨h1, h2, h3⟩ => ⟨h1, h2.1, h3⟩
theorem sDoC (R C Iq J g n cap : Nat) (k t : Int) (xs : List Int) (w : World) (hi : IntsC w g cap xs) (hx : xs.length = n) (hn : n = R * C) (hR : R ≤ 24) (hC : C ≤ 24) (hI : Iq < R) (hJ : J < R) (hk : k = 0 ∨ k = 1 ∨ k = 2) (hIJ : k = 0 → Iq ≠ J) :
    Calls Try.prog 86 #[.agg #[.int .i64 R, .int .i64 C, .slice (some ⟨g, 0, none⟩) n cap], .agg #[.int .i64 k, .int .i64 Iq, .int .i64 J, .int .i64 t]] w (fun e w' => Void e ∧ IntsC w' g cap (opL k Iq J t C xs) ∧ w.grownBy w' (some g)) :=
  (sDoZ cap R C Iq J g n cap k t xs w hi.z hx hn hR hC hI hJ hk hIJ).mono fun _ _ ⟨h1, h2, h3⟩ => ⟨h1, h2.c hi.1, h3⟩
end Go.Proofs.Ytpknondccajinaa
end

section
/-
  Chapter 5, in the model: a copy of a matrix without cells.
-/
namespace Go.Proofs.Ytpknondccajinaa
set_option maxRecDepth 100000
open Go.RowKit

theorem appendNil (w : World) (g c : Nat) : (Builtin.append_ #[24, 24] 24 #[.slice (some ⟨g, 0, none⟩) 0 0, .slice none 0 c]).run Try.prog w = .ok (.slice (some ⟨g, 0, none⟩) 0 0) w := by
  obtain ⟨fi, hfi, hz0, hz1, hz2⟩ := facts_int
  simp [Builtin.append_, go_sem, Builtin.lenOf, Builtin.firstCells, storeCells]
set_option maxHeartbeats 1000000 in
theorem sCopyN (r c : Int) (m : Nat) (w : World) :
    Calls Try.prog 58 #[.agg #[.int .i64 r, .int .i64 c, .slice none 0 m]] w (fun e w' => ∃ g cap : Nat, e = .returned (.agg #[.int .i64 r, .int .i64 c, .slice (some ⟨g, 0, none⟩) 0 cap]) ∧ w.heap.size ≤ g ∧ IntsC w' g cap [] ∧ Below w.heap.size w w') := by
  have BH : Hid (Below w.heap.size w ((w.alloc (.cells #[.int .i64 r, .int .i64 c, .slice none 0 m] 26)).alloc (.cells #[.int .i64 0, .int .i64 0, .slice none 0 0] 26))) := ((Below.refl _ _).alloc (Nat.le_refl _) _).alloc (by simp) _
  have K0 : Hid (Blk3 ((w.alloc (.cells #[.int .i64 r, .int .i64 c, .slice none 0 m] 26)).alloc (.cells #[.int .i64 0, .int .i64 0, .slice none 0 0] 26)) w.heap.size 26 (.int .i64 r) (.int .i64 c) (.slice none 0 m)) := (Blk3.at_ _ _ _ _ rfl).old _
  have K2 : Hid (Blk3 ((w.alloc (.cells #[.int .i64 r, .int .i64 c, .slice none 0 m] 26)).alloc (.cells #[.int .i64 0, .int .i64 0, .slice none 0 0] 26)) (w.heap.size + 1) 26 (.int .i64 0) (.int .i64 0) (.slice none 0 0)) := Blk3.at_ _ _ _ _ (by simp)
  obtain ⟨w2, hw2⟩ : ∃ w2, (w.alloc (.cells #[.int .i64 r, .int .i64 c, .slice none 0 m] 26)).alloc (.cells #[.int .i64 0, .int .i64 0, .slice none 0 0] 26) = w2 := ⟨_, rfl⟩
  rw [hw2] at BH K0 K2
  go_enter Try.func58, Try.ntmps58
  go_wp2_with fail
  clear hw2
  refine wp_region_held_drew (S := fun w' => FrS (fun k => k = w.heap.size + 1) w2 w') (by kernel_rfl) (FrS.refl _ _).drew (fun hH => ?_)
  refine wpAnyH_take (i := 0) (v := ?_) (by simp only [List.getElem?_toArray, List.getElem?_cons_zero]; rfl) (by kernel_rfl) (by kernel_rfl) (by kernel_rfl) (by exact fun _ _ _ h => h) (Or.inl ⟨by rfl, ?_⟩) hH ?_
  rotate_left
  · (intro wS hS; clear hS; go_simp; try rfl)
  try simp only [Act.put, List.setIfInBounds_toArray, List.set_cons_zero, List.set_cons_succ]
  refine wpAnyH_take (i := 1) (v := ?_) (by simp only [List.getElem?_toArray, List.getElem?_cons_succ, List.getElem?_cons_zero]; rfl) (by kernel_rfl) (by kernel_rfl) (by kernel_rfl) (by exact fun _ _ _ h => h) (Or.inl ⟨by rfl, ?_⟩) hH ?_
  rotate_left
  · (intro wS hS; (try dsimp only at hS); obtain ⟨k1, k2, k3⟩ := sevenF K0.out hS (by omega); go_simp; try rfl)
  try simp only [Act.put, List.setIfInBounds_toArray, List.set_cons_zero, List.set_cons_succ]
  refine wpAnyH_take (i := 2) (v := ?_) (by simp only [List.getElem?_toArray, List.getElem?_cons_succ, List.getElem?_cons_zero]; rfl) (by kernel_rfl) (by kernel_rfl) (by kernel_rfl) (by exact fun _ _ _ h => h) (Or.inl ⟨by rfl, ?_⟩) hH ?_
  rotate_left
  · (intro wS hS; clear hS; go_simp; try rfl)
  try simp only [Act.put, List.setIfInBounds_toArray, List.set_cons_zero, List.set_cons_succ]
  refine wpAnyH_take (i := 3) (v := ?_) (by simp only [List.getElem?_toArray, List.getElem?_cons_succ, List.getElem?_cons_zero]; rfl) (by kernel_rfl) (by kernel_rfl) (by kernel_rfl) (by exact fun _ _ _ h => h) (Or.inl ⟨by rfl, ?_⟩) hH ?_
  rotate_left
  · (intro wS hS; (try dsimp only at hS); obtain ⟨k1, k2, k3⟩ := sevenF K0.out hS (by omega); go_simp; try rfl)
  try simp only [Act.put, List.setIfInBounds_toArray, List.set_cons_zero, List.set_cons_succ]
  refine wpAnyH_take (i := 5) (v := ?_) (by simp only [List.getElem?_toArray, List.getElem?_cons_succ, List.getElem?_cons_zero]; rfl) (by kernel_rfl) (by kernel_rfl) (by kernel_rfl) (by exact fun _ _ _ h => h) (Or.inl ⟨by rfl, ?_⟩) hH ?_
  rotate_left
  · (intro wS hS; clear hS; go_simp; try rfl)
  try simp only [Act.put, List.setIfInBounds_toArray, List.set_cons_zero, List.set_cons_succ]
  refine wpAnyH_take (i := 6) (v := ?_) (by simp only [List.getElem?_toArray, List.getElem?_cons_succ, List.getElem?_cons_zero]; rfl) (by kernel_rfl) (by kernel_rfl) (by kernel_rfl) (by exact fun _ _ _ h => h) (Or.inl ⟨by rfl, ?_⟩) hH ?_
  rotate_left
  · (intro wS hS; (try dsimp only at hS); obtain ⟨k1, k2, k3⟩ := sevenF K0.out hS (by omega); go_simp; try rfl)
  try simp only [Act.put, List.setIfInBounds_toArray, List.set_cons_zero, List.set_cons_succ]
  refine wpAnyH_ready (rs := [4]) (by kernel_rfl) (by simp) ?_
  refine AllReadyH.cons (by simp only [List.getElem?_toArray, List.getElem?_cons_succ, List.getElem?_cons_zero]; rfl) (fun KK hKK => ?_) AllReadyH.nil
  go_simp
  try dsimp only
  refine hKK.out _ _ ?_ (fun hH2 => ?_)
  · exact (((FrS.refl _ w2).alloc _).drew)
  clear hKK KK
  have hO := hH
  clear hH
  have hH := hH2
  clear hH2
  try simp only [Act.put, List.setIfInBounds_toArray, List.set_cons_zero, List.set_cons_succ]
  have own0 : ((w2.alloc (.cells #[] 3)).drew).ownsRow w2.heap.size 3 1 (.slice (some ⟨w2.heap.size, 0, none⟩) 0 0) 0 (([] : List Int).map (Value.int .i64)) := ⟨rfl, .inr ⟨w2.heap.size, 0, #[], rfl, Nat.le_refl _, heap_alloc_new w2 _, Nat.le_refl _, by decide, rfl, rfl⟩⟩
  have BA : Hid (Below w2.heap.size w2 ((w2.alloc (.cells #[] 3)).drew)) := ((Below.refl _ _).alloc (Nat.le_refl _) _).drew
  have hr1 := appendNil ((w2.alloc (.cells #[] 3)).drew) w2.heap.size m
  refine wpAnyH_ready (rs := [7]) (by kernel_rfl) (by simp) ?_
  refine AllReadyH.cons (by simp only [List.getElem?_toArray, List.getElem?_cons_succ, List.getElem?_cons_zero]; rfl) (fun KK hKK => ?_) AllReadyH.nil
  refine step_append rfl _ _ 24 rfl _ _ rfl rfl _ _ hr1 ?_
  have BA1 := BA
  try dsimp only
  refine hKK.out _ _ ?_ (fun hH2 => ?_)
  · exact FrS.of_below BA1.out
  clear hKK KK
  have hO := hH
  clear hH
  have hH := hH2
  clear hH2
  try simp only [Act.put, List.setIfInBounds_toArray, List.set_cons_zero, List.set_cons_succ]
  have O2 : Hid (OwnC w2.heap.size ((w2.alloc (.cells #[] 3)).drew) (.slice (some ⟨w2.heap.size, 0, none⟩) 0 0) []) := OwnC.of_row own0
  have O3 := O2.out
  rcases O3 with ⟨h, -⟩ | ⟨g, qc2, hv, gB, gI⟩
  · exact absurd h (by simp)
  have GB := Lib.hid gB
  have GI := Lib.hid gI
  simp only [Value.slice.injEq, Option.some.injEq, Addr.mk.injEq] at hv
  obtain ⟨⟨rfl, -, -⟩, -, rfl⟩ := hv
  clear gB gI
  obtain ⟨wa, hwa⟩ : ∃ wa, (w2.alloc (.cells #[] 3)).drew = wa := ⟨_, rfl⟩
  rw [hwa] at GI O2 BA1 own0 hr1 hH ⊢
  refine wpAnyH_take (i := 8) (v := ?_) (by simp only [List.getElem?_toArray, List.getElem?_cons_succ, List.getElem?_cons_zero]; rfl) (by kernel_rfl) (by kernel_rfl) (by kernel_rfl) (by exact fun _ _ _ h => h) (Or.inl ⟨by rfl, ?_⟩) hH ?_
  rotate_left
  · (intro wS hS; clear hS; go_simp; try rfl)
  try simp only [Act.put, List.setIfInBounds_toArray, List.set_cons_zero, List.set_cons_succ]
  have K2 := Lib.hid (K2.out.step BA1.out)
  obtain ⟨s0, s1, s2, f0, f1, f2⟩ := K2.out.all
  have gs : ∀ x y z, FrS (fun k => k = w.heap.size + 1) w2 (((wa.setCell ⟨w.heap.size + 1, 0, none⟩ x).setCell ⟨w.heap.size + 1, 1, none⟩ y).setCell ⟨w.heap.size + 1, 2, none⟩ z) := fun x y z => (FrS.of_below (p := fun k => k = w.heap.size + 1) BA1.out).set3 (b := w.heap.size + 1) (.inl rfl) x y z
  have GS := Lib.hid gs
  clear gs
  refine wpAnyH_ready (rs := [9]) (by kernel_rfl) (by simp) ?_
  refine AllReadyH.cons (by simp only [List.getElem?_toArray, List.getElem?_cons_succ, List.getElem?_cons_zero]; rfl) (fun KK hKK => ?_) AllReadyH.nil
  go_simp
  try dsimp only
  refine hKK.out _ _ ?_ (fun hH2 => ?_)
  · exact GS.out _ _ _
  clear hKK KK
  have hO := hH
  clear hH
  have hH := hH2
  clear hH2
  try simp only [Act.put, List.setIfInBounds_toArray, List.set_cons_zero, List.set_cons_succ]
  refine wpAnyH_done (by kernel_rfl) ?_ _
  go_wp2_with fail
  obtain ⟨E0, E1, E2, -, -, -⟩ := (K2.out.set3 (.int .i64 r) (.int .i64 c) (.slice (some ⟨w2.heap.size, 0, none⟩) 0 0)).all
  have B2 := BH.out.trans (BA1.out.mono BH.out.size)
  refine bodyPost_ret (v := .agg #[.int .i64 r, .int .i64 c, .slice (some ⟨w2.heap.size, 0, none⟩) 0 0]) (by simp [results, Try.results58, go_sem, E0, E1, E2]) rfl ⟨w2.heap.size, 0, rfl, Nat.le_trans BH.out.size GB.out, ((GI.out.far (GI.out.ints.ne_blk K2.out) _).far (GI.out.ints.ne_blk K2.out) _).far (GI.out.ints.ne_blk K2.out) _, ?_⟩
  exact (((B2.setCell (by show w.heap.size ≤ w.heap.size + 1; omega) _).setCell (by show w.heap.size ≤ w.heap.size + 1; omega) _).setCell (by show w.heap.size ≤ w.heap.size + 1; omega) _)
/-- Of what was there or of nil. -/
def Spot (a : Option Addr) : Prop := a = none ∨ ∃ g o : Nat, a = some ⟨g, o, none⟩
theorem Spot.of (g o : Nat) : Spot (some ⟨g, o, none⟩) := .inr ⟨g, o, rfl⟩
theorem sCopyA (r c : Int) (a : Option Addr) (m n : Nat) (xs : List Int) (w : World) (h : Rd w a xs) (ha : Spot a) (hx : xs.length = n) (hn : n ≤ 1048576) :
    Calls Try.prog 58 #[.agg #[.int .i64 r, .int .i64 c, .slice a n m]] w (fun e w' => ∃ g cap : Nat, e = .returned (.agg #[.int .i64 r, .int .i64 c, .slice (some ⟨g, 0, none⟩) n cap]) ∧ w.heap.size ≤ g ∧ IntsC w' g cap xs ∧ Below w.heap.size w w') := by
  rcases ha with rfl | ⟨g, o, rfl⟩
  · have e : xs = [] := by
      cases xs with
      | nil => rfl
      | cons x xs => obtain ⟨b, o, h1, -⟩ := h 0 (by simp); exact absurd h1 (by simp)
    subst e
    subst hx
    exact sCopyN r c m w
  · exact sCopy r c g o m n xs w h hx hn
end Go.Proofs.Ytpknondccajinaa
end

section
/-
  Chapter 3, in the model: a matrix that is done.
-/
namespace Go.Proofs.Ytpknondccajinaa
open Go.RowKit

/-- A matrix that is handed on if it is valid. -/
def DoneRes (r c : Int) (v : Value) (ok : Bool) : Value := if ok = true then .tuple #[.agg #[.int .i64 r, .int .i64 c, v], .bool true] else .tuple #[.agg #[.int .i64 0, .int .i64 0, .slice none 0 0], .bool false]

set_option maxHeartbeats 400000 in
theorem sDone (r c : Int) (a : Option Addr) (cap : Nat) (zs : List Int) (w : World) (h : Rd w a zs) (hn : zs.length ≤ 16777216) :
    Calls Try.prog 89 #[.agg #[.int .i64 r, .int .i64 c, .slice a zs.length cap]] w (Gives (DoneRes r c (.slice a zs.length cap) (isMat r c zs)) w) := by
  have H := Lib.hid h
  clear h
  go_enter Try.func89, Try.ntmps89
  go_wp2_with fail
  refine (sIsMat r c a cap zs _ (H.out.below (((Below.refl _ _).alloc (Nat.le_refl _) _).alloc (by simp) _)) hn).mono ?_
  rintro e w1 ⟨rfl, hb⟩
  have K0 : Hid (Blk3 w1 w.heap.size 26 (.int .i64 r) (.int .i64 c) (.slice a zs.length cap)) := ((Blk3.at_ _ _ _ _ rfl).old _).keep hb (by simp <;> omega)
  have K1 : Hid (Blk3 w1 (w.heap.size + 1) 26 (.int .i64 0) (.int .i64 0) (.slice none 0 0)) := (Blk3.at_ _ _ _ _ (by simp)).keep hb (by simp)
  have B : Hid (Below w.heap.size w w1) := (((Below.refl _ _).alloc (Nat.le_refl _) _).alloc (by simp) _).trans (hb.mono (by simp <;> omega))
  clear hb
  obtain ⟨c0, c1, c2, -, -, -⟩ := K0.out.all
  obtain ⟨d0, d1, d2, g0, g1, g2⟩ := K1.out.all
  have BB : ∀ x y z, Below w.heap.size w (((w1.setCell ⟨w.heap.size + 1, 0, none⟩ x).setCell ⟨w.heap.size + 1, 1, none⟩ y).setCell ⟨w.heap.size + 1, 2, none⟩ z) := fun x y z =>
    ((B.out.setCell (Nat.le_succ _) _).setCell (Nat.le_succ _) _).setCell (Nat.le_succ _) _
  have BH := Lib.hid BB
  clear BB
  rcases Bool.eq_false_or_eq_true (isMat r c zs) with hm | hm
  · rw [hm]
    have M := Lib.hid hm
    clear hm
    go_wp2_with fail
    obtain ⟨E0, E1, E2, -, -, -⟩ := (((K1.out.set0 (.int .i64 r)).set1 (.int .i64 c)).set2 (.slice a zs.length cap)).all
    exact bodyPost_ret (v := .tuple #[.agg #[.int .i64 r, .int .i64 c, .slice a zs.length cap], .bool true]) (by simp [results, Try.results89, go_sem, E0, E1, E2]) rfl ⟨by rw [M.out]; rfl, BH.out _ _ _⟩
  · rw [hm]
    have M := Lib.hid hm
    clear hm
    go_wp2_with fail
    obtain ⟨E0, E1, E2, -, -, -⟩ := (((K1.out.set0 (.int .i64 0)).set1 (.int .i64 0)).set2 (.slice none 0 0)).all
    exact bodyPost_ret (v := .tuple #[.agg #[.int .i64 0, .int .i64 0, .slice none 0 0], .bool false]) (by simp [results, Try.results89, go_sem, E0, E1, E2]) rfl ⟨by rw [M.out]; rfl, BH.out _ _ _⟩
end Go.Proofs.Ytpknondccajinaa
end

section
/-
  Chapter 5, in the model: DoRowOp.
-/
namespace Go.Proofs.Ytpknondccajinaa
set_option maxRecDepth 100000
open Go.RowKit

def opM (k i j t r c : Int) (xs : List Int) : MR := if (isMat r c xs && isOp k i j t r) = true then MR.done r c (opL k i.toNat j.toNat t c.toNat xs) else MR.no
theorem isOp_says {k i j t r : Int} (h : isOp k i j t r = true) : (k = 0 ∨ k = 1 ∨ k = 2) ∧ (0 ≤ r ∧ r ≤ 24) ∧ (0 ≤ i ∧ i < r) ∧ (0 ≤ j ∧ j < r) ∧ NumP t ∧ (k = 0 → i ≠ j) := by
  unfold isOp rangeOp at h
  simp only [Bool.and_eq_true, decide_eq_true_eq] at h
  obtain ⟨⟨⟨⟨⟨h1, h2⟩, h3⟩, h4⟩, h5⟩, h6⟩ := h
  refine ⟨by omega, h2, by omega, by omega, h5, ?_⟩
  rintro rfl
  simp at h6
  exact fun e => h6.1 e.symm
set_option maxRecDepth 100000 in
set_option maxHeartbeats 4000000 in
theorem sOp_t (R C I J : Nat) (a : Option Addr) (m : Nat) (k t : Int) (xs : List Int) (w : World) (h : Rd w a xs) (ha : Spot a) (hn : xs.length ≤ 16777216) (hm : isMat R C xs = true) (ho : isOp k I J t R = true) :
    Calls Try.prog 50 #[.agg #[.int .i64 R, .int .i64 C, .slice a xs.length m], .agg #[.int .i64 k, .int .i64 I, .int .i64 J, .int .i64 t]] w (MatRes (MR.done R C (opL k I J t C xs)) w) := by
  obtain ⟨⟨r1, r2⟩, ⟨c1, c2⟩, l1, -⟩ := isMat_says hm
  obtain ⟨hk, -, ⟨i1, i2⟩, ⟨j1, j2⟩, -, hIJ⟩ := isOp_says ho
  rw [← Int.natCast_mul] at l1
  have hle : R * C ≤ 24 * 24 := Nat.mul_le_mul (by omega) (by omega)
  have hR : R ≤ 24 := by omega
  have hC : C ≤ 24 := by omega
  have hI : I < R := by omega
  have hJ : J < R := by omega
  have HIJ : Hid (k = 0 → I ≠ J) := fun h e => hIJ h (by rw [e])
  have HA := Lib.hid ha
  have M := Lib.hid hm
  have OP := Lib.hid ho
  have hn2 : xs.length ≤ 576 := by omega
  have hN0 : xs.length = R * C := by omega
  have B0 : ∀ o1 o2 o3, Below w.heap.size w (((w.alloc o1).alloc o2).alloc o3) := fun o1 o2 o3 => (((Below.refl _ _).alloc (Nat.le_refl _) _).alloc (by simp) _).alloc (by simp <;> omega) _
  have BH := Lib.hid B0
  have H := Lib.hid h
  obtain ⟨n, hx⟩ : ∃ n, xs.length = n := ⟨_, rfl⟩
  have HX := Lib.hid hx
  rw [hx] at hn hn2 hN0 ⊢
  have HN := Lib.hid hN0
  clear B0 h hx hm ho ha r1 r2 c1 c2 l1 i1 i2 j1 j2 hle hIJ hN0
  go_enter Try.func50, Try.ntmps50
  go_wp2_with fail
  have ST := sIsMat R C a m xs _ (H.out.below (BH.out (.cells #[.int .i64 R, .int .i64 C, .slice a n m] 26) (.cells #[.int .i64 k, .int .i64 I, .int .i64 J, .int .i64 t] 61) (.cells #[.int .i64 0, .int .i64 0, .slice none 0 0] 26))) (by rw [HX.out]; omega)
  rw [HX.out] at ST
  refine ST.mono ?_
  clear ST
  rintro e w1 ⟨rfl, hb⟩
  have K0 : Hid (Blk3 w1 w.heap.size 26 (.int .i64 R) (.int .i64 C) (.slice a n m)) := (((Blk3.at_ _ _ _ _ rfl).old _).old _).keep hb (by simp <;> omega)
  have K1 : Hid (Blk4 w1 (w.heap.size + 1) 61 (.int .i64 k) (.int .i64 I) (.int .i64 J) (.int .i64 t)) := ((Blk4.at_ _ _ _ _ _ (by simp)).old _).keep hb (by simp <;> omega)
  have K2 : Hid (Blk3 w1 (w.heap.size + 1 + 1) 26 (.int .i64 0) (.int .i64 0) (.slice none 0 0)) := (Blk3.at_ _ _ _ _ (by simp)).keep hb (by simp)
  have B : Hid (Below w.heap.size w w1) := (BH.out _ _ _).trans (hb.mono (by simp <;> omega))
  clear hb
  obtain ⟨ca0, ca1, ca2, -, -, -⟩ := K0.out.all
  obtain ⟨cb0, cb1, cb2, cb3⟩ := K1.out.all
  obtain ⟨cc0, cc1, cc2, ff0, ff1, ff2⟩ := K2.out.all
  rw [M.out]
  go_wp2_with fail
  refine (sIsOp k I J t R _).mono ?_
  rintro e w2 ⟨rfl, hb⟩
  have K0 := Lib.hid (K0.out.step hb)
  have K1 := Lib.hid (K1.out.step hb)
  have K2 := Lib.hid (K2.out.step hb)
  have B := Lib.hid (stepB B.out hb)
  clear hb
  obtain ⟨da0, da1, da2, -, -, -⟩ := K0.out.all
  obtain ⟨db0, db1, db2, db3⟩ := K1.out.all
  obtain ⟨dc0, dc1, dc2, gf0, gf1, gf2⟩ := K2.out.all
  rw [OP.out]
  go_wp2_with fail
  refine (sCopyA R C a m n xs _ (H.out.below B.out) HA.out HX.out (by omega)).mono ?_
  rintro e w3 ⟨g, cap, rfl, gB, gI, hb⟩
  have l1 := K1.out.lt
  have l2 := K2.out.lt
  have K1 := Lib.hid ((K1.out.step hb).old (.cells #[.int .i64 R, .int .i64 C, .slice (some ⟨g, 0, none⟩) n cap] 26))
  have K2 := Lib.hid ((K2.out.step hb).old (.cells #[.int .i64 R, .int .i64 C, .slice (some ⟨g, 0, none⟩) n cap] 26))
  have K6 : Hid (Blk3 (w3.alloc (.cells #[.int .i64 R, .int .i64 C, .slice (some ⟨g, 0, none⟩) n cap] 26)) w3.heap.size 26 (.int .i64 R) (.int .i64 C) (.slice (some ⟨g, 0, none⟩) n cap)) := Blk3.at_ _ _ _ _ rfl
  have I3 := Lib.hid (gI.ints.old (.cells #[.int .i64 R, .int .i64 C, .slice (some ⟨g, 0, none⟩) n cap] 26))
  have CL : Hid (n ≤ cap) := by have := gI.le; rw [HX.out] at this; exact this
  have lg := gI.lt
  have ls := hb.size
  have B := Lib.hid ((stepB B.out hb).alloc (stepB B.out hb).size (.cells #[.int .i64 R, .int .i64 C, .slice (some ⟨g, 0, none⟩) n cap] 26))
  clear hb gI
  obtain ⟨ec0, ec1, ec2, -, -, -⟩ := K6.out.all
  obtain ⟨eb0, eb1, eb2, eb3⟩ := K1.out.all
  go_wp2_with fail
  refine (sDo R C I J g n cap k t xs _ I3.out HX.out HN.out hR hC hI hJ hk HIJ.out).mono ?_
  rintro e w4 ⟨rfl, hi4, hg4⟩
  have K2 := Lib.hid (K2.out.keepOne hg4 (by omega))
  have K6 := Lib.hid (K6.out.keepOne hg4 (by omega))
  have I4 := Lib.hid hi4
  have B := Lib.hid (B.out.trans (below_of_one hg4 (by omega) B.out.size))
  have HL : Hid ((opL k I J t C xs).length = n) := by show (opL k I J t C xs).length = n; rw [opL_length, HX.out]
  clear hi4 hg4
  obtain ⟨fc0, fc1, fc2, -, -, -⟩ := K6.out.all
  go_wp2_with fail
  have ST := sDone R C (some ⟨g, 0, none⟩) cap (opL k I J t C xs) _ I4.out.rd (by rw [HL.out]; omega)
  rw [HL.out] at ST
  refine ST.mono ?_
  clear ST
  rintro e w6 ⟨rfl, hb⟩
  have l4 := K2.out.lt
  have K2 := Lib.hid (K2.out.step hb)
  have I6 := Lib.hid (I4.out.keep hb I4.out.lt)
  have B := Lib.hid (stepB B.out hb)
  clear hb
  obtain ⟨gc0, gc1, gc2, gd0, gd1, gd2⟩ := K2.out.all
  have l6 := K2.out.lt
  rcases Bool.eq_false_or_eq_true (isMat R C (opL k I J t C xs)) with hd | hd
  · have E : Hid (MR.done R C (opL k I J t C xs) = ⟨true, R, C, opL k I J t C xs⟩) := by show MR.done _ _ _ = _; unfold MR.done; rw [hd]; rfl
    rw [hd]
    clear hd
    unfold DoneRes
    obtain ⟨E0, E1, E2, -, -, -⟩ := ((K2.out.set3 (.int .i64 R) (.int .i64 C) (.slice (some ⟨g, 0, none⟩) n cap)).old (.cells #[.int .i64 R, .int .i64 C, .slice (some ⟨g, 0, none⟩) n cap] 26)).all
    go_wp2_with fail
    rw [E.out]
    refine bodyPost_ret (v := .tuple #[.agg #[.int .i64 R, .int .i64 C, .slice (some ⟨g, 0, none⟩) n cap], .bool true]) (by simp [results, Try.results50, go_sem, E0, E1, E2]) rfl ⟨_, rfl, ?_, ?_⟩
    · refine .inr ⟨g, cap, by rw [HL.out], by omega, ?_, by rw [HL.out]; exact CL.out, by rw [HL.out]; omega⟩
      exact ((((I6.out).far (by show g ≠ w.heap.size + 1 + 1; omega) _).far (by show g ≠ w.heap.size + 1 + 1; omega) _).far (by show g ≠ w.heap.size + 1 + 1; omega) _).old _
    · exact ((((B.out.setCell (by show w.heap.size ≤ w.heap.size + 1 + 1; omega) _).setCell (by show w.heap.size ≤ w.heap.size + 1 + 1; omega) _).setCell (by show w.heap.size ≤ w.heap.size + 1 + 1; omega) _).alloc (by have := B.out.size; simpa using this) _)
  · have E : Hid (MR.done R C (opL k I J t C xs) = MR.no) := by show MR.done _ _ _ = _; unfold MR.done; rw [hd]; rfl
    rw [hd]
    clear hd
    unfold DoneRes
    obtain ⟨E0, E1, E2, -, -, -⟩ := ((K2.out.set3 (.int .i64 0) (.int .i64 0) (.slice none 0 0)).old (.cells #[.int .i64 0, .int .i64 0, .slice none 0 0] 26)).all
    go_wp2_with fail
    rw [E.out]
    refine bodyPost_ret (v := .tuple #[.agg #[.int .i64 0, .int .i64 0, .slice none 0 0], .bool false]) (by simp [results, Try.results50, go_sem, E0, E1, E2]) rfl ⟨_, rfl, .inl ⟨rfl, rfl⟩, ?_⟩
    · exact ((((B.out.setCell (by show w.heap.size ≤ w.heap.size + 1 + 1; omega) _).setCell (by show w.heap.size ≤ w.heap.size + 1 + 1; omega) _).setCell (by show w.heap.size ≤ w.heap.size + 1 + 1; omega) _).alloc (by have := B.out.size; simpa using this) _)
set_option maxHeartbeats 1000000 in
theorem sOp (k i j t r c : Int) (a : Option Addr) (m : Nat) (xs : List Int) (w : World) (h : Rd w a xs) (hn : xs.length ≤ 16777216) (ha : Spot a) :
    Calls Try.prog 50 #[.agg #[.int .i64 r, .int .i64 c, .slice a xs.length m], .agg #[.int .i64 k, .int .i64 i, .int .i64 j, .int .i64 t]] w (MatRes (opM k i j t r c xs) w) := by
  rcases Bool.eq_false_or_eq_true (isMat r c xs) with hm | hm
  · rcases Bool.eq_false_or_eq_true (isOp k i j t r) with ho | ho
    · obtain ⟨hk, -, ⟨i1, i2⟩, ⟨j1, j2⟩, -, -⟩ := isOp_says ho
      obtain ⟨⟨r1, r2⟩, ⟨c1, c2⟩, -, -⟩ := isMat_says hm
      obtain ⟨R, rfl⟩ := Int.eq_ofNat_of_zero_le r1
      obtain ⟨C, rfl⟩ := Int.eq_ofNat_of_zero_le c1
      obtain ⟨I, rfl⟩ := Int.eq_ofNat_of_zero_le i1
      obtain ⟨J, rfl⟩ := Int.eq_ofNat_of_zero_le j1
      have E : opM k I J t R C xs = MR.done R C (opL k I J t C xs) := by unfold opM; rw [hm, ho]; rfl
      rw [E]
      exact sOp_t R C I J a m k t xs w h ha hn hm ho
    · have E : Hid (opM k i j t r c xs = MR.no) := by show opM k i j t r c xs = _; unfold opM; rw [hm, ho]; rfl
      have M := Lib.hid hm
      have OP := Lib.hid ho
      clear hm ho ha
      have B0 : ∀ o1 o2 o3, Below w.heap.size w (((w.alloc o1).alloc o2).alloc o3) := fun o1 o2 o3 => (((Below.refl _ _).alloc (Nat.le_refl _) _).alloc (by simp) _).alloc (by simp <;> omega) _
      have BH := Lib.hid B0
      have H := Lib.hid h
      obtain ⟨n, hx⟩ : ∃ n, xs.length = n := ⟨_, rfl⟩
      have HX := Lib.hid hx
      rw [hx] at hn ⊢
      clear B0 h hx
      go_enter Try.func50, Try.ntmps50
      go_wp2_with fail
      have ST := sIsMat r c a m xs _ (H.out.below (BH.out (.cells #[.int .i64 r, .int .i64 c, .slice a n m] 26) (.cells #[.int .i64 k, .int .i64 i, .int .i64 j, .int .i64 t] 61) (.cells #[.int .i64 0, .int .i64 0, .slice none 0 0] 26))) (by rw [HX.out]; omega)
      rw [HX.out] at ST
      refine ST.mono ?_
      clear ST
      rintro e w1 ⟨rfl, hb⟩
      have K0 : Hid (Blk3 w1 w.heap.size 26 (.int .i64 r) (.int .i64 c) (.slice a n m)) := (((Blk3.at_ _ _ _ _ rfl).old _).old _).keep hb (by simp <;> omega)
      have K1 : Hid (Blk4 w1 (w.heap.size + 1) 61 (.int .i64 k) (.int .i64 i) (.int .i64 j) (.int .i64 t)) := ((Blk4.at_ _ _ _ _ _ (by simp)).old _).keep hb (by simp <;> omega)
      have K2 : Hid (Blk3 w1 (w.heap.size + 1 + 1) 26 (.int .i64 0) (.int .i64 0) (.slice none 0 0)) := (Blk3.at_ _ _ _ _ (by simp)).keep hb (by simp)
      have B : Hid (Below w.heap.size w w1) := (BH.out _ _ _).trans (hb.mono (by simp <;> omega))
      clear hb
      obtain ⟨ca0, ca1, ca2, -, -, -⟩ := K0.out.all
      obtain ⟨cb0, cb1, cb2, cb3⟩ := K1.out.all
      obtain ⟨cc0, cc1, cc2, ff0, ff1, ff2⟩ := K2.out.all
      rw [M.out]
      go_wp2_with fail
      refine (sIsOp k i j t r _).mono ?_
      rintro e w2 ⟨rfl, hb⟩
      have K0 := Lib.hid (K0.out.step hb)
      have K1 := Lib.hid (K1.out.step hb)
      have K2 := Lib.hid (K2.out.step hb)
      have B := Lib.hid (stepB B.out hb)
      clear hb
      obtain ⟨da0, da1, da2, -, -, -⟩ := K0.out.all
      obtain ⟨db0, db1, db2, db3⟩ := K1.out.all
      obtain ⟨dc0, dc1, dc2, gf0, gf1, gf2⟩ := K2.out.all
      rw [OP.out]
      go_wp2_with fail
      obtain ⟨E0, E1, E2, -, -, -⟩ := (((K2.out.set0 (.int .i64 0)).set1 (.int .i64 0)).set2 (.slice none 0 0)).all
      rw [E.out]
      exact bodyPost_ret (v := .tuple #[.agg #[.int .i64 0, .int .i64 0, .slice none 0 0], .bool false]) (by simp [results, Try.results50, go_sem, E0, E1, E2]) rfl ⟨_, rfl, .inl ⟨rfl, rfl⟩, ((B.out.setCell (by show w.heap.size ≤ w.heap.size + 1 + 1; omega) _).setCell (by show w.heap.size ≤ w.heap.size + 1 + 1; omega) _).setCell (by show w.heap.size ≤ w.heap.size + 1 + 1; omega) _⟩
  · have E : Hid (opM k i j t r c xs = MR.no) := by show opM k i j t r c xs = _; unfold opM; rw [hm]; rfl
    have M := Lib.hid hm
    clear hm ha
    have B0 : ∀ o1 o2 o3, Below w.heap.size w (((w.alloc o1).alloc o2).alloc o3) := fun o1 o2 o3 => (((Below.refl _ _).alloc (Nat.le_refl _) _).alloc (by simp) _).alloc (by simp <;> omega) _
    have BH := Lib.hid B0
    have H := Lib.hid h
    obtain ⟨n, hx⟩ : ∃ n, xs.length = n := ⟨_, rfl⟩
    have HX := Lib.hid hx
    rw [hx] at hn ⊢
    clear B0 h hx
    go_enter Try.func50, Try.ntmps50
    go_wp2_with fail
    have ST := sIsMat r c a m xs _ (H.out.below (BH.out (.cells #[.int .i64 r, .int .i64 c, .slice a n m] 26) (.cells #[.int .i64 k, .int .i64 i, .int .i64 j, .int .i64 t] 61) (.cells #[.int .i64 0, .int .i64 0, .slice none 0 0] 26))) (by rw [HX.out]; omega)
    rw [HX.out] at ST
    refine ST.mono ?_
    clear ST
    rintro e w1 ⟨rfl, hb⟩
    have K0 : Hid (Blk3 w1 w.heap.size 26 (.int .i64 r) (.int .i64 c) (.slice a n m)) := (((Blk3.at_ _ _ _ _ rfl).old _).old _).keep hb (by simp <;> omega)
    have K1 : Hid (Blk4 w1 (w.heap.size + 1) 61 (.int .i64 k) (.int .i64 i) (.int .i64 j) (.int .i64 t)) := ((Blk4.at_ _ _ _ _ _ (by simp)).old _).keep hb (by simp <;> omega)
    have K2 : Hid (Blk3 w1 (w.heap.size + 1 + 1) 26 (.int .i64 0) (.int .i64 0) (.slice none 0 0)) := (Blk3.at_ _ _ _ _ (by simp)).keep hb (by simp)
    have B : Hid (Below w.heap.size w w1) := (BH.out _ _ _).trans (hb.mono (by simp <;> omega))
    clear hb
    obtain ⟨ca0, ca1, ca2, -, -, -⟩ := K0.out.all
    obtain ⟨cb0, cb1, cb2, cb3⟩ := K1.out.all
    obtain ⟨cc0, cc1, cc2, ff0, ff1, ff2⟩ := K2.out.all
    rw [M.out]
    go_wp2_with fail
    obtain ⟨E0, E1, E2, -, -, -⟩ := (((K2.out.set0 (.int .i64 0)).set1 (.int .i64 0)).set2 (.slice none 0 0)).all
    rw [E.out]
    exact bodyPost_ret (v := .tuple #[.agg #[.int .i64 0, .int .i64 0, .slice none 0 0], .bool false]) (by simp [results, Try.results50, go_sem, E0, E1, E2]) rfl ⟨_, rfl, .inl ⟨rfl, rfl⟩, ((B.out.setCell (by show w.heap.size ≤ w.heap.size + 1 + 1; omega) _).setCell (by show w.heap.size ≤ w.heap.size + 1 + 1; omega) _).setCell (by show w.heap.size ≤ w.heap.size + 1 + 1; omega) _⟩
end Go.Proofs.Ytpknondccajinaa
end

section
/-
  Plain mathematics of chapter 5: an operation on rows without marks. Nothing of a program is used.
-/
namespace Go.Proofs.Ytpknondccajinaa
open Go.RowKit

theorem isOp_rows0 {i j t r : Int} (h : isOp 0 i j t r = true) : i ≠ j := by
  unfold isOp at h; simp at h; exact fun e => h.2.1 e.symm
theorem isOp_rows1 {i j t r : Int} (h : isOp 1 i j t r = true) : i = j := by
  unfold isOp at h; simp at h; exact h.2.1.symm
theorem isOp_rows2 {i j t r : Int} (h : isOp 2 i j t r = true) : i ≠ j := by
  unfold isOp at h; simp at h; exact fun e => h.2 e.symm
/-- The columns before q are done. -/
def colTo (f : Nat → Int) (C : Nat) (xs : List Int) (q : Nat) : List Int := (List.range xs.length).map fun p => if p % C < q then f p else xs.getD p 0
theorem colTo_length (f : Nat → Int) (C : Nat) (xs : List Int) (q : Nat) : (colTo f C xs q).length = xs.length := by simp [colTo]
theorem colTo_getD (f : Nat → Int) (C : Nat) (xs : List Int) (q p : Nat) (hp : p < xs.length) : (colTo f C xs q).getD p 0 = if p % C < q then f p else xs.getD p 0 := by
  simp [colTo, List.getD, hp]
theorem colTo_zero (f : Nat → Int) (C : Nat) (xs : List Int) : colTo f C xs 0 = xs := by
  refine list_getD (colTo_length _ _ _ _) fun p hp => ?_
  rw [colTo_length] at hp
  rw [colTo_getD _ _ _ _ _ hp, if_neg (by omega)]
theorem colTo_all (f : Nat → Int) (C : Nat) (xs : List Int) (h : xs.length = 0 ∨ 0 < C) : colTo f C xs C = (List.range xs.length).map f := by
  unfold colTo
  refine List.map_congr_left fun p hp => ?_
  have hp := List.mem_range.mp hp
  rw [if_pos (Nat.mod_lt p (by omega))]
/-- A column is done by two stores. -/
theorem colTo_two (f : Nat → Int) (I J C R : Nat) (xs : List Int) (q : Nat) (a b : Int) (hl : xs.length = R * C) (hI : I < R) (hJ : J < R) (hq : q < C)
    (hb : f (J * C + q) = b) (ha : I ≠ J → f (I * C + q) = a) (hr : ∀ p, p / C ≠ I → p / C ≠ J → f p = xs.getD p 0) :
    ((colTo f C xs q).set (I * C + q) a).set (J * C + q) b = colTo f C xs (q + 1) := by
  have a1 : I * C + q < xs.length := by rw [hl]; exact idx_lt hI hq
  have a2 : J * C + q < xs.length := by rw [hl]; exact idx_lt hJ hq
  refine list_getD (by rw [List.length_set, List.length_set, colTo_length, colTo_length]) fun p hp => ?_
  rw [List.length_set, List.length_set, colTo_length] at hp
  rw [getD_set _ _ _ _ (by rw [List.length_set, colTo_length]; exact a2), getD_set _ _ _ _ (by rw [colTo_length]; exact a1), colTo_getD _ _ _ _ _ hp, colTo_getD _ _ _ _ _ hp]
  by_cases e : p % C = q
  · have sp := split_idx e
    rw [if_pos (show p % C < q + 1 by omega), if_neg (show ¬ p % C < q by omega)]
    by_cases e2 : p / C = J
    · have : p = J * C + q := by rw [← e2]; exact sp
      rw [if_pos this, this, hb]
    · rw [if_neg (fun h => e2 (by rw [h, idx_div hq]))]
      by_cases e1 : p / C = I
      · have : p = I * C + q := by rw [← e1]; exact sp
        rw [if_pos this, this, ha (fun h => e2 (by rw [e1, h]))]
      · rw [if_neg (fun h => e1 (by rw [h, idx_div hq])), hr p e1 e2]
  · rw [if_neg (fun h => e (by rw [h, idx_mod hq])), if_neg (fun h => e (by rw [h, idx_mod hq]))]
    by_cases e2 : p % C < q
    · rw [if_pos e2, if_pos (by omega)]
    · rw [if_neg e2, if_neg (by omega)]
/-- What the cell p becomes, without marks. -/
def rwAt (k : Int) (I J : Nat) (t : Int) (C : Nat) (xs : List Int) (p : Nat) : Int :=
  if k = 0 then (if p / C = I then xs.getD (J * C + p % C) 0 else if p / C = J then xs.getD (I * C + p % C) 0 else xs.getD p 0)
  else if k = 1 then (if p / C = I then - xs.getD p 0 else xs.getD p 0)
  else (if p / C = I then xs.getD p 0 + xs.getD (J * C + p % C) 0 * t else xs.getD p 0)
/-- What is added is a number, in the columns before q. -/
def prodTo (k : Int) (J : Nat) (t : Int) (C : Nat) (xs : List Int) (q : Nat) : Prop := k = 2 → ∀ s, s < q → NumP (xs.getD (J * C + s) 0 * t)
theorem prodTo_zero (k : Int) (J : Nat) (t : Int) (C : Nat) (xs : List Int) : prodTo k J t C xs 0 := fun _ s hs => absurd hs (by omega)
theorem prodTo_succ {k : Int} {J : Nat} {t : Int} {C : Nat} {xs : List Int} {q : Nat} (h : prodTo k J t C xs q) (h2 : k = 2 → NumP (xs.getD (J * C + q) 0 * t)) : prodTo k J t C xs (q + 1) := fun hk s hs => by
  rcases Nat.lt_or_ge s q with h3 | h3
  · exact h hk s h3
  · obtain rfl : s = q := by omega
    exact h2 hk
theorem rw_swap (I J : Nat) (t : Int) (C R : Nat) (xs : List Int) (q : Nat) (hl : xs.length = R * C) (hI : I < R) (hJ : J < R) (hq : q < C) (hIJ : I ≠ J) :
    ((colTo (rwAt 0 I J t C xs) C xs q).set (I * C + q) (xs.getD (J * C + q) 0)).set (J * C + q) (xs.getD (I * C + q) 0) = colTo (rwAt 0 I J t C xs) C xs (q + 1) := by
  refine colTo_two _ I J C R xs q _ _ hl hI hJ hq ?_ (fun _ => ?_) fun p h1 h2 => ?_
  · unfold rwAt; rw [if_pos rfl, idx_div hq, idx_mod hq, if_neg (fun h => hIJ h.symm), if_pos rfl]
  · unfold rwAt; rw [if_pos rfl, idx_div hq, idx_mod hq, if_pos rfl]
  · unfold rwAt; rw [if_pos rfl, if_neg h1, if_neg h2]
theorem rw_neg (I : Nat) (t : Int) (C R : Nat) (xs : List Int) (q : Nat) (hl : xs.length = R * C) (hI : I < R) (hq : q < C) :
    ((colTo (rwAt 1 I I t C xs) C xs q).set (I * C + q) (- xs.getD (I * C + q) 0)).set (I * C + q) (- xs.getD (I * C + q) 0) = colTo (rwAt 1 I I t C xs) C xs (q + 1) := by
  refine colTo_two _ I I C R xs q _ _ hl hI hI hq ?_ (fun h => absurd rfl h) fun p h1 h2 => ?_
  · unfold rwAt; rw [if_neg (by decide), if_pos rfl, idx_div hq, if_pos rfl]
  · unfold rwAt; rw [if_neg (by decide), if_pos rfl, if_neg h1]
theorem rw_add (I J : Nat) (t : Int) (C R : Nat) (xs : List Int) (q : Nat) (hl : xs.length = R * C) (hI : I < R) (hJ : J < R) (hq : q < C) (hIJ : I ≠ J) :
    ((colTo (rwAt 2 I J t C xs) C xs q).set (I * C + q) (xs.getD (I * C + q) 0 + xs.getD (J * C + q) 0 * t)).set (J * C + q) (xs.getD (J * C + q) 0) = colTo (rwAt 2 I J t C xs) C xs (q + 1) := by
  refine colTo_two _ I J C R xs q _ _ hl hI hJ hq ?_ (fun _ => ?_) fun p h1 h2 => ?_
  · unfold rwAt; rw [if_neg (by decide), if_neg (by decide), idx_div hq, if_neg (fun h => hIJ h.symm)]
  · unfold rwAt; rw [if_neg (by decide), if_neg (by decide), idx_div hq, idx_mod hq, if_pos rfl]
  · unfold rwAt; rw [if_neg (by decide), if_neg (by decide), if_neg h1]
theorem fitB_num {z : Int} (h : NumP z) : fitB z = z := by unfold fitB; rw [if_pos h]
theorem bad_ne {z : Int} (h : NumP z) : z ≠ badN := by unfold NumP at h; unfold badN; omega
theorem wrap_small {z : Int} (h : -1000000000000000000 ≤ z ∧ z ≤ 1000000000000000000) : wrap64 z = z := IntWalk.wrap64_in _ (by omega)
theorem mulB_num {a b : Int} (ha : NumP a) (hb : NumP b) : mulB a b = fitB (a * b) := by
  unfold mulB
  have := mul_num a b ha hb
  rw [if_neg (fun h => h.elim (bad_ne ha) (bad_ne hb)), wrap_small (by omega)]
theorem addB_num {a b : Int} (ha : NumP a) (hb : NumP b) : addB a b = fitB (a + b) := by
  unfold addB
  obtain ⟨a1, a2⟩ := ha
  obtain ⟨b1, b2⟩ := hb
  rw [if_neg (fun h => h.elim (bad_ne ⟨a1, a2⟩) (bad_ne ⟨b1, b2⟩)), wrap_small (by omega)]
theorem addB_bad (a : Int) : addB a badN = badN := by unfold addB; rw [if_pos (.inr rfl)]
theorem NumP_neg {a : Int} (h : NumP a) : NumP (-a) := by unfold NumP at *; omega
theorem nums_def {xs : List Int} (h : nums xs = true) (p : Nat) : NumP (xs.getD p 0) := by
  rcases Nat.lt_or_ge p xs.length with h1 | h1
  · exact nums_at h h1
  · simp [List.getD, h1, NumP]
theorem opAt_raw (k : Int) (I J : Nat) (t : Int) (C : Nat) (xs : List Int) (p : Nat) (hk : k = 0 ∨ k = 1 ∨ k = 2) (hx : nums xs = true) (ht : NumP t) (hp : k = 2 → p / C = I → NumP (xs.getD (J * C + p % C) 0 * t)) :
    opAt k I J t C xs p = fitB (rwAt k I J t C xs p) := by
  unfold opAt rwAt
  rcases hk with rfl | rfl | rfl
  · rw [if_pos rfl, if_pos rfl, fitB_num]
    by_cases e1 : p / C = I
    · rw [if_pos e1]; exact nums_def hx _
    · rw [if_neg e1]
      by_cases e2 : p / C = J
      · rw [if_pos e2]; exact nums_def hx _
      · rw [if_neg e2]; exact nums_def hx _
  · simp only [show (1 : Int) ≠ 0 by decide, if_false, if_true]
    by_cases e1 : p / C = I
    · rw [if_pos e1, if_pos e1, mulB_num (nums_def hx _) (by decide), Int.mul_neg, Int.mul_one]
    · rw [if_neg e1, if_neg e1, fitB_num (nums_def hx _)]
  · simp only [show (2 : Int) ≠ 0 by decide, show (2 : Int) ≠ 1 by decide, if_false]
    by_cases e1 : p / C = I
    · rw [if_pos e1, if_pos e1, mulB_num (nums_def hx _) ht, fitB_num (hp rfl e1), addB_num (nums_def hx _) (hp rfl e1)]
    · rw [if_neg e1, if_neg e1, fitB_num (nums_def hx _)]
theorem fitB_bad {z : Int} (h : ¬ NumP z) : fitB z = badN := by unfold fitB; rw [if_neg h]
theorem bad_not : ¬ NumP badN := by decide
/-- Marks or none: the result is the same. -/
theorem done_fit (r c : Int) (f g : Nat → Int) (n : Nat) (h : ∀ p, p < n → f p = fitB (g p)) : MR.done r c ((List.range n).map f) = MR.done r c ((List.range n).map g) := by
  by_cases hn : nums ((List.range n).map g) = true
  · have : (List.range n).map f = (List.range n).map g := by
      refine List.map_congr_left fun p hp => ?_
      have hp := List.mem_range.mp hp
      have := nums_at hn (j := p) (by simpa using hp)
      rw [h p hp, fitB_num]
      simpa [List.getD, hp] using this
    rw [this]
  · have hf : nums ((List.range n).map f) = false := by
      rcases Bool.eq_false_or_eq_true (nums ((List.range n).map f)) with hf | hf
      · refine absurd (nums_true fun p hp => ?_) hn
        have hp' : p < n := by simpa using hp
        have := nums_at hf (j := p) (by simpa using hp')
        simp only [List.getD, List.getElem?_map, List.getElem?_range hp', Option.map_some, Option.getD_some] at this ⊢
        by_cases hg : NumP (g p)
        · exact hg
        · rw [h p hp', fitB_bad hg] at this
          exact absurd this bad_not
      · exact hf
    have hg : nums ((List.range n).map g) = false := by simpa using hn
    have e1 : isMat r c ((List.range n).map f) = false := by unfold isMat; rw [hf]; simp
    have e2 : isMat r c ((List.range n).map g) = false := by unfold isMat; rw [hg]; simp
    unfold MR.done
    rw [e1, e2]; rfl
theorem rw_done (k : Int) (I J : Nat) (t : Int) (R C : Nat) (xs : List Int) (hk : k = 0 ∨ k = 1 ∨ k = 2) (hl : xs.length = R * C) (hx : nums xs = true) (ht : NumP t) (hp : prodTo k J t C xs C) :
    MR.done R C (opL k I J t C xs) = MR.done R C (colTo (rwAt k I J t C xs) C xs C) := by
  have hC : xs.length = 0 ∨ 0 < C := by
    rcases Nat.eq_zero_or_pos C with h | h
    · left; rw [hl, h, Nat.mul_zero]
    · exact .inr h
  rw [colTo_all _ _ _ hC]
  unfold opL
  refine done_fit _ _ _ _ _ fun p hp' => opAt_raw k I J t C xs p hk hx ht fun h2 _ => hp h2 _ (Nat.mod_lt p ?_)
  omega
/-- What is added is beyond the limit in one column: nothing is done. -/
theorem rw_over (I J : Nat) (t : Int) (R C : Nat) (xs : List Int) (q : Nat) (hl : xs.length = R * C) (hI : I < R) (hq : q < C) (hx : nums xs = true) (ht : NumP t) (hb : ¬ NumP (xs.getD (J * C + q) 0 * t)) :
    MR.done R C (opL 2 I J t C xs) = MR.no := by
  have hi : I * C + q < xs.length := by rw [hl]; exact idx_lt hI hq
  have e : (opL 2 I J t C xs).getD (I * C + q) 0 = badN := by
    unfold opL
    simp only [List.getD, List.getElem?_map, List.getElem?_range hi, Option.map_some, Option.getD_some]
    rw [opAt_two _ _ _ _ _ hq, mulB_num (nums_def hx _) ht, fitB_bad hb, addB_bad]
  have e2 : nums (opL 2 I J t C xs) = false := nums_false (j := I * C + q) (by rw [opL_length]; exact hi) (by rw [e]; exact bad_not)
  unfold MR.done isMat
  rw [e2]; simp
end Go.Proofs.Ytpknondccajinaa
end

section
/-
  Plain mathematics of chapter 6: a matrix without a row and a column is a minor. Nothing of a program is used.
-/
namespace Go.Proofs.Ytpknondccajinaa

/-- The cells before p that lie neither in the row nor in the column. -/
def woL (C : Nat) (row col : Int) (xs : List Int) (p : Nat) : List Int := ((List.range p).filter fun q => decide (((q / C : Nat) : Int) ≠ row ∧ ((q % C : Nat) : Int) ≠ col)).map fun q => xs.getD q 0
theorem woL_zero (C : Nat) (row col : Int) (xs : List Int) : woL C row col xs 0 = [] := rfl
theorem woL_in {C : Nat} {row col : Int} {xs : List Int} {p : Nat} (h : ((p / C : Nat) : Int) ≠ row ∧ ((p % C : Nat) : Int) ≠ col) : woL C row col xs (p + 1) = woL C row col xs p ++ [xs.getD p 0] := by
  unfold woL
  rw [List.range_succ, List.filter_append, List.map_append, List.filter_cons_of_pos (p := (fun q : Nat => decide (((q / C : Nat) : Int) ≠ row ∧ ((q % C : Nat) : Int) ≠ col))) (a := p) (l := []) (decide_eq_true h)]
  rfl
theorem woL_out {C : Nat} {row col : Int} {xs : List Int} {p : Nat} (h : ¬ (((p / C : Nat) : Int) ≠ row ∧ ((p % C : Nat) : Int) ≠ col)) : woL C row col xs (p + 1) = woL C row col xs p := by
  unfold woL
  rw [List.range_succ, List.filter_append, List.map_append, List.filter_cons_of_neg (p := (fun q : Nat => decide (((q / C : Nat) : Int) ≠ row ∧ ((q % C : Nat) : Int) ≠ col))) (a := p) (l := []) (by show ¬ decide _ = true; rw [decide_eq_false h]; decide)]
  exact List.append_nil _
theorem woL_length (C : Nat) (row col : Int) (xs : List Int) (p : Nat) : (woL C row col xs p).length ≤ p := by
  unfold woL
  rw [List.length_map]
  exact Nat.le_trans (List.length_filter_le _ _) (by simp)
theorem tab_row (r c : Nat) (f : Nat → Nat → Int) : tab (r + 1) c f = tab r c f ++ (List.range c).map (f r) := by
  unfold tab
  rw [Nat.add_mul, Nat.one_mul, List.range_add, List.map_append, List.map_map]
  congr 1
  refine List.map_congr_left fun j hj => ?_
  have hj := List.mem_range.mp hj
  show f ((r * c + j) / c) ((r * c + j) % c) = f r j
  rw [idx_div hj, idx_mod hj]
/-- How many of the numbers before k are not i. -/
def less (i k : Nat) : Nat := if i < k then k - 1 else k
theorem less_out {i : Nat} : less i (i + 1) = less i i := by unfold less; rw [if_pos (by omega), if_neg (by omega)]; omega
theorem less_in {i k : Nat} (h : k ≠ i) : less i (k + 1) = less i k + 1 ∧ skp i (less i k) = k := by
  unfold less skp
  by_cases h1 : i < k
  · rw [if_pos (show i < k + 1 by omega), if_pos h1, if_neg (show ¬ k - 1 < i by omega)]; omega
  · rw [if_neg (show ¬ i < k + 1 by omega), if_neg h1, if_pos (show k < i by omega)]; omega
theorem woL_row_out (C row col : Nat) (xs : List Int) (c : Nat) (hc : c ≤ C) : woL C row col xs (row * C + c) = woL C row col xs (row * C) := by
  induction c with
  | zero => rfl
  | succ c ih =>
    rw [← Nat.add_assoc, woL_out (by rw [idx_div (by omega)]; omega), ih (by omega)]
theorem woL_row_in (C row col : Nat) (xs : List Int) (r : Nat) (hr : r ≠ row) (c : Nat) (hc : c ≤ C) :
    woL C row col xs (r * C + c) = woL C row col xs (r * C) ++ (List.range (less col c)).map fun j => xs.getD (r * C + skp col j) 0 := by
  induction c with
  | zero => simp [less]
  | succ c ih =>
    rw [← Nat.add_assoc]
    by_cases h : c = col
    · subst h
      rw [woL_out (by rw [idx_mod (by omega)]; omega), ih (by omega), less_out]
    · obtain ⟨h1, h2⟩ := less_in h
      rw [woL_in (by rw [idx_div (by omega), idx_mod (by omega)]; omega), ih (by omega), h1, List.range_succ, List.map_append, List.append_assoc]
      simp only [List.map_cons, List.map_nil, h2]
theorem woL_rows (C row col : Nat) (xs : List Int) (hc : col < C) (r : Nat) : woL C row col xs (r * C) = tab (less row r) (C - 1) fun i j => xs.getD (skp row i * C + skp col j) 0 := by
  have hC : less col C = C - 1 := by unfold less; rw [if_pos hc]
  induction r with
  | zero => rw [Nat.zero_mul]; simp [less, woL_zero, tab]
  | succ r ih =>
    rw [Nat.add_mul, Nat.one_mul]
    by_cases h : r = row
    · subst h
      rw [woL_row_out _ _ _ _ _ (Nat.le_refl _), ih, less_out]
    · obtain ⟨h1, h2⟩ := less_in h
      rw [woL_row_in _ _ _ _ _ h _ (Nat.le_refl _), ih, h1, tab_row, hC, h2]
/-- A square matrix without a row and a column. -/
theorem woL_tab (n row col : Nat) (xs : List Int) (hr : row < n + 1) (hc : col < n + 1) : woL (n + 1) row col xs ((n + 1) * (n + 1)) = tab n n fun i j => xs.getD (skp row i * (n + 1) + skp col j) 0 := by
  rw [woL_rows _ _ _ _ hc]
  unfold less
  rw [if_pos hr]
  rfl
end Go.Proofs.Ytpknondccajinaa
end

section
/-
  Elimination without fractions: the cells that are made are bordered minors, so each division is exact. Plain mathematics: nothing of a program is used.
-/
namespace Go.Proofs.Ytpknondccajinaa

/-- The first t rows and row i; the first t columns and column j. -/
def bdX (t i j : Nat) (A : Mx) : Mx := fun r c => A (if r < t then r else i) (if c < t then c else j)
/-- The bordered minor. -/
def bm (t i j : Nat) (A : Mx) : Int := det (t + 1) (bdX t i j A)
theorem bm_zero (i j : Nat) (A : Mx) : bm 0 i j A = A i j := by
  show 0 + sg 0 * bdX 0 i j A 0 0 * 1 = A i j
  rw [sg_zero]
  show 0 + 1 * A i j * 1 = A i j
  omega
theorem bm_diag (t : Nat) (A : Mx) : bm t t t A = det (t + 1) A := det_congr fun r c hr hc => by
  show A (if r < t then r else t) (if c < t then c else t) = A r c
  have e : ∀ k, k < t + 1 → (if k < t then k else t) = k := fun k hk => by
    by_cases h : k < t
    · rw [if_pos h]
    · rw [if_neg h]; omega
  rw [e r hr, e c hc]
theorem bm_tr (t i j : Nat) (A : Mx) : bm t i j (trX A) = bm t j i A := by
  unfold bm
  rw [← det_tr (t + 1) (bdX t j i A)]
  rfl
theorem bm_row {t i j : Nat} (A : Mx) (h : i < t) : bm t i j A = 0 :=
  alt_at (det_alt (t + 1)) (r := i) (s := t) (by omega) (by omega) (by omega) _ fun c _ => by
    show A (if i < t then i else i) _ = A (if t < t then t else i) _
    rw [if_pos h, if_neg (Nat.lt_irrefl t)]
theorem bm_col {t i j : Nat} (A : Mx) (h : j < t) : bm t i j A = 0 := by
  rw [← bm_tr, bm_row _ h]
/-- The factors of the rows in a bordered minor. -/
def kap (t i : Nat) (A : Mx) (s : Nat) : Int := sg (s + t) * det t (mnr (bdX t i 0 A) s t)
theorem skp_of_lt {j k : Nat} (h : k < j) : skp j k = k := if_pos h
theorem bm_comb (t i j : Nat) (A : Mx) : bm t i j A = det t A * A i j + sumN t fun s => kap t i A s * A s j := by
  unfold bm
  rw [det_col_at t _ t (by omega)]
  have e : ∀ s, s < t + 1 → det t (mnr (bdX t i j A) s t) = det t (mnr (bdX t i 0 A) s t) := fun s _ => det_congr fun r c _ hc => by
    show A _ (if skp t c < t then skp t c else j) = A _ (if skp t c < t then skp t c else 0)
    rw [skp_of_lt hc, if_pos hc, if_pos hc]
  show (sumN t fun s => sg (s + t) * bdX t i j A s t * det t (mnr (bdX t i j A) s t)) + sg (t + t) * bdX t i j A t t * det t (mnr (bdX t i j A) t t) = _
  have l : sg (t + t) * bdX t i j A t t * det t (mnr (bdX t i j A) t t) = det t A * A i j := by
    have e1 : bdX t i j A t t = A i j := by
      show A (if t < t then t else i) (if t < t then t else j) = _
      rw [if_neg (Nat.lt_irrefl t), if_neg (Nat.lt_irrefl t)]
    have e2 : det t (mnr (bdX t i j A) t t) = det t A := det_congr fun r c hr hc => by
      show A (if skp t r < t then skp t r else i) (if skp t c < t then skp t c else j) = A r c
      rw [skp_of_lt hr, skp_of_lt hc, if_pos hr, if_pos hc]
    rw [e1, e2, sg_add, sg_sq, Int.one_mul, Int.mul_comm]
  rw [l, Int.add_comm]
  congr 1
  refine sumN_congr fun s hs => ?_
  rw [e s (by omega)]
  have e1 : bdX t i j A s t = A s j := by
    show A (if s < t then s else i) (if t < t then t else j) = _
    rw [if_pos hs, if_neg (Nat.lt_irrefl t)]
  rw [e1]
  unfold kap
  grind
/-- Multiples of earlier rows are added to a multiple of row r. -/
theorem det_comb {n r m : Nat} (N : Mx) (x : Int) (k : Nat → Int) (hm : m ≤ r) (hr : r < n) : det n (stR N r fun c => x * N r c + sumN m fun s => k s * N s c) = x * det n N := by
  have h := det_lin n N r (N r) (fun c => sumN m fun s => k s * N s c) x 1 hr
  simp only [Int.one_mul] at h
  rw [h, stR_self, lin_sum (det_lin n) hr, sumN_all_zero]
  · omega
  · intro s hs
    rw [alt_at (det_alt n) (r := s) (s := r) (by omega) (by omega) hr _ (fun c _ => by rw [stR_at, stR_ne _ _ _ _ _ (by omega)]), Int.mul_zero]
theorem det_last {t : Nat} (M : Mx) (h : ∀ c, c < t → M t c = 0) : det (t + 1) M = M t t * det t M := by
  rw [det_row_at t M t (by omega), sumN_one (a := t) (by omega)]
  · have e : det t (mnr M t t) = det t M := det_congr fun r c hr hc => by
      show M (skp t r) (skp t c) = M r c
      rw [skp_of_lt hr, skp_of_lt hc]
    rw [e, sg_add, sg_sq, Int.one_mul]
  · intro c hc hne
    rw [h c (by omega), Int.mul_zero, Int.zero_mul]
/-- Each division of the elimination is exact. -/
theorem sylvester (t i j : Nat) (A : Mx) (h : det t A ≠ 0) : det t A * bm (t + 1) i j A = bm t t t A * bm t i j A - bm t i t A * bm t t j A := by
  obtain ⟨L, hL⟩ : ∃ L, det t A = L := ⟨_, rfl⟩
  have col : ∀ c, c < t + 2 → ∀ r, r < t → bdX (t + 1) i j A r c = A r (if c < t + 1 then c else j) := fun c _ r hr => by
    show A (if r < t + 1 then r else i) _ = _
    rw [if_pos (by omega)]
  obtain ⟨N, hN⟩ : ∃ N, bdX (t + 1) i j A = N := ⟨_, rfl⟩
  have rt : ∀ c, N t c = A t (if c < t + 1 then c else j) := fun c => by
    rw [← hN]
    show A (if t < t + 1 then t else i) _ = _
    rw [if_pos (by omega)]
  have rt1 : ∀ c, N (t + 1) c = A i (if c < t + 1 then c else j) := fun c => by
    rw [← hN]
    show A (if t + 1 < t + 1 then t + 1 else i) _ = _
    rw [if_neg (by omega)]
  rw [hN] at col
  obtain ⟨N1, hN1⟩ : ∃ M, (stR N t fun c => L * N t c + sumN t fun s => kap t t A s * N s c) = M := ⟨_, rfl⟩
  obtain ⟨N2, hN2⟩ : ∃ M, (stR N1 (t + 1) fun c => L * N1 (t + 1) c + sumN t fun s => kap t i A s * N1 s c) = M := ⟨_, rfl⟩
  have d1 : det (t + 2) N1 = L * det (t + 2) N := by rw [← hN1]; exact det_comb N L _ (Nat.le_refl t) (by omega)
  have d2 : det (t + 2) N2 = L * det (t + 2) N1 := by rw [← hN2]; exact det_comb N1 L _ (by omega) (by omega)
  have q : ∀ r, r < t → ∀ c, N1 r c = N r c := fun r hr c => by rw [← hN1]; exact stR_ne _ _ _ _ _ (by omega)
  have e0 : ∀ r, r < t → ∀ c, c < t + 2 → N2 r c = A r (if c < t + 1 then c else j) := fun r hr c hc => by
    rw [← hN2, stR_ne _ _ _ _ _ (by omega), q r hr, col c hc r hr]
  have e1 : ∀ c, c < t + 2 → N2 t c = bm t t (if c < t + 1 then c else j) A := fun c hc => by
    rw [← hN2, stR_ne _ _ _ _ _ (by omega), ← hN1, stR_at, bm_comb, hL, rt]
    congr 1
    exact sumN_congr fun s hs => by rw [col c hc s hs]
  have e2 : ∀ c, c < t + 2 → N2 (t + 1) c = bm t i (if c < t + 1 then c else j) A := fun c hc => by
    have : N1 (t + 1) c = N (t + 1) c := by rw [← hN1]; exact stR_ne _ _ _ _ _ (by omega)
    rw [← hN2, stR_at, bm_comb, hL, this, rt1]
    congr 1
    exact sumN_congr fun s hs => by rw [q s hs, col c hc s hs]
  have z1 : ∀ c, c < t → N2 t c = 0 := fun c hc => by rw [e1 c (by omega), if_pos (by omega), bm_col A hc]
  have z2 : ∀ c, c < t → N2 (t + 1) c = 0 := fun c hc => by rw [e2 c (by omega), if_pos (by omega), bm_col A hc]
  have m1 : det (t + 1) (mnr N2 (t + 1) (t + 1)) = bm t t t A * L := by
    rw [det_last]
    · have a1 : mnr N2 (t + 1) (t + 1) t t = bm t t t A := by
        show N2 (skp (t + 1) t) (skp (t + 1) t) = _
        rw [skp_of_lt (by omega), e1 t (by omega), if_pos (by omega)]
      have a2 : det t (mnr N2 (t + 1) (t + 1)) = L := by
        rw [← hL]
        refine det_congr fun r c hr hc => ?_
        show N2 (skp (t + 1) r) (skp (t + 1) c) = _
        rw [skp_of_lt (by omega), skp_of_lt (by omega), e0 r hr c (by omega), if_pos (by omega)]
      rw [a1, a2]
    · intro c hc
      show N2 (skp (t + 1) t) (skp (t + 1) c) = 0
      rw [skp_of_lt (by omega), skp_of_lt (by omega), z1 c hc]
  have m2 : det (t + 1) (mnr N2 (t + 1) t) = bm t t j A * L := by
    rw [det_last]
    · have a1 : mnr N2 (t + 1) t t t = bm t t j A := by
        show N2 (skp (t + 1) t) (skp t t) = _
        have : skp t t = t + 1 := by unfold skp; rw [if_neg (by omega)]
        rw [skp_of_lt (by omega), this, e1 (t + 1) (by omega), if_neg (by omega)]
      have a2 : det t (mnr N2 (t + 1) t) = L := by
        rw [← hL]
        refine det_congr fun r c hr hc => ?_
        show N2 (skp (t + 1) r) (skp t c) = _
        rw [skp_of_lt (by omega), skp_of_lt hc, e0 r hr c (by omega), if_pos (by omega)]
      rw [a1, a2]
    · intro c hc
      show N2 (skp (t + 1) t) (skp t c) = 0
      rw [skp_of_lt (by omega), skp_of_lt hc, z1 c hc]
  have d3 : det (t + 2) N2 = L * (bm t t t A * bm t i j A - bm t i t A * bm t t j A) := by
    rw [det_row_at (t + 1) N2 (t + 1) (by omega), sumN_two (a := t) (b := t + 1) (by omega) (by omega)]
    · have s1 : sg (t + 1 + t) = -1 := by rw [sg_add, sg_succ, Int.neg_mul, sg_sq]
      have s2 : sg (t + 1 + (t + 1)) = 1 := by rw [sg_add, sg_sq]
      rw [m1, m2, e2 t (by omega), e2 (t + 1) (by omega), if_pos (by omega), if_neg (by omega), s1, s2]
      grind
    · intro c hc h1 h2
      rw [z2 c (by omega), Int.mul_zero, Int.zero_mul]
  have bN : bm (t + 1) i j A = det (t + 2) N := by rw [← hN]; rfl
  rw [hL, bN]
  rw [hL] at h
  have fin : L * (L * det (t + 2) N) = L * (bm t t t A * bm t i j A - bm t i t A * bm t t j A) := by rw [← d1, ← d2, d3]
  exact Int.eq_of_mul_eq_mul_left h fin
/-- Where no row has a pivot the determinant is 0. -/
theorem no_pivot {t n : Nat} (A : Mx) (ht : t < n) (h : det t A ≠ 0) (hz : ∀ i, t ≤ i → i < n → bm t i t A = 0) : det n A = 0 := by
  have h1 : ∀ i, i < n → det t A * A i t + (sumN t fun s => kap t t (trX A) s * A i s) = 0 := fun i hi => by
    have e := bm_comb t t i (trX A)
    rw [bm_tr, det_tr] at e
    have e2 : bm t i t A = 0 := by
      rcases Nat.lt_or_ge i t with hlt | hge
      · exact bm_row A hlt
      · exact hz i hge hi
    rw [e2] at e
    exact e.symm
  have h2 := det_comb (n := n) (r := t) (m := t) (trX A) (det t A) (kap t t (trX A)) (Nat.le_refl t) ht
  have h3 : det n (stR (trX A) t fun c => det t A * trX A t c + sumN t fun s => kap t t (trX A) s * trX A s c) = det n (stR (trX A) t fun _ => 0) := det_congr fun r c _ hc => by
    unfold stR
    by_cases e : r = t
    · rw [if_pos e, if_pos e]; exact h1 c hc
    · rw [if_neg e, if_neg e]
  rw [h3, lin_zero (det_lin n) ht, det_tr] at h2
  rcases Int.mul_eq_zero.mp h2.symm with h4 | h4
  · exact absurd h4 h
  · exact h4
/-- Two rows from t on change places. -/
theorem bm_swap {t p i j : Nat} (A : Mx) (hp : t ≤ p) : bm t i j (swR A t p) = bm t (if i = t then p else if i = p then t else i) j A := det_congr fun r c _ _ => by
  show swR A t p (if r < t then r else i) _ = A (if r < t then r else _) _
  unfold swR
  by_cases hr : r < t
  · rw [if_pos hr, if_pos hr, if_neg (by omega), if_neg (by omega)]
  · rw [if_neg hr, if_neg hr]
    by_cases h1 : i = t
    · rw [if_pos h1, if_pos h1]
    · rw [if_neg h1, if_neg h1]
      by_cases h2 : i = p
      · rw [if_pos h2, if_pos h2]
      · rw [if_neg h2, if_neg h2]
theorem det_swap_low {t p : Nat} (A : Mx) (hp : t ≤ p) : det t (swR A t p) = det t A := det_congr fun r c hr _ => by
  unfold swR
  rw [if_neg (by omega), if_neg (by omega)]
end Go.Proofs.Ytpknondccajinaa
end

section
/-
  Plain mathematics of chapter 6: the determinant by expansion along the first row, with a mark where one that is met is beyond the limit. Nothing of a program is used.
-/
namespace Go.Proofs.Ytpknondccajinaa

/-- The matrix of a list of cells. -/
def mxL (n : Nat) (xs : List Int) : Mx := fun r c => xs.getD (r * n + c) 0
theorem mxL_tab (n : Nat) (f : Nat → Nat → Int) : EqX n (mxL n (tab n n f)) f := fun _ _ hr hc => tab_at n n f hr hc
/-- The sum of the first columns, unless a minor that is met has the mark. -/
def detAcc (g f : Nat → Int) : Nat → Option Int
  | 0 => some 0
  | j + 1 => match detAcc g f j with
    | none => none
    | some s => if g j = 0 then some s else if f j = badN then none else some (s + sg j * g j * f j)
theorem detAcc_skip {g f : Nat → Int} {j : Nat} {s : Int} (h : detAcc g f j = some s) (h0 : g j = 0) : detAcc g f (j + 1) = some s := by
  show (match detAcc g f j with | none => _ | some s => _) = _
  rw [h]
  exact if_pos h0
theorem detAcc_bad {g f : Nat → Int} {j : Nat} {s : Int} (h : detAcc g f j = some s) (h0 : g j ≠ 0) (h1 : f j = badN) : detAcc g f (j + 1) = none := by
  show (match detAcc g f j with | none => _ | some s => _) = _
  rw [h]
  show (if g j = 0 then _ else _) = _
  rw [if_neg h0, if_pos h1]
theorem detAcc_add {g f : Nat → Int} {j : Nat} {s : Int} (h : detAcc g f j = some s) (h0 : g j ≠ 0) (h1 : f j ≠ badN) : detAcc g f (j + 1) = some (s + sg j * g j * f j) := by
  show (match detAcc g f j with | none => _ | some s => _) = _
  rw [h]
  show (if g j = 0 then _ else _) = _
  rw [if_neg h0, if_neg h1]
theorem detAcc_none_succ {g f : Nat → Int} {j : Nat} (h : detAcc g f j = none) : detAcc g f (j + 1) = none := by
  show (match detAcc g f j with | none => _ | some s => _) = _
  rw [h]
theorem detAcc_none {g f : Nat → Int} {j k : Nat} (h : detAcc g f j = none) (hk : j ≤ k) : detAcc g f k = none := by
  induction k with
  | zero => obtain rfl : j = 0 := by omega
            exact h
  | succ k ih =>
    rcases Nat.lt_or_ge k j with h1 | h1
    · obtain rfl : j = k + 1 := by omega
      exact h
    · exact detAcc_none_succ (ih h1)
theorem detAcc_sum {g f : Nat → Int} {k : Nat} : ∀ {s : Int}, detAcc g f k = some s → s = sumN k fun j => sg j * g j * f j := by
  induction k with
  | zero => intro s h; exact (Option.some.inj h).symm
  | succ k ih =>
    intro s h
    cases h1 : detAcc g f k with
    | none => rw [detAcc_none_succ h1] at h; cases h
    | some s1 =>
      show s = sumN k _ + sg k * g k * f k
      by_cases h0 : g k = 0
      · rw [detAcc_skip h1 h0] at h
        rw [← Option.some.inj h, ih h1, h0, Int.mul_zero, Int.zero_mul, Int.add_zero]
      · by_cases h2 : f k = badN
        · rw [detAcc_bad h1 h0 h2] at h; cases h
        · rw [detAcc_add h1 h0 h2] at h
          rw [← Option.some.inj h, ih h1]
theorem detAcc_met {g f : Nat → Int} {k : Nat} : ∀ {s : Int}, detAcc g f k = some s → ∀ j, j < k → g j ≠ 0 → f j ≠ badN := by
  induction k with
  | zero => intro s _ j hj; omega
  | succ k ih =>
    intro s h j hj h0 h2
    cases h1 : detAcc g f k with
    | none => rw [detAcc_none_succ h1] at h; cases h
    | some s1 =>
      rcases Nat.lt_or_ge j k with h3 | h3
      · exact ih h1 j h3 h0 h2
      · obtain rfl : j = k := by omega
        rw [detAcc_bad h1 h0 h2] at h; cases h
theorem sg_or (k : Nat) : sg k = 1 ∨ sg k = -1 := by unfold sg; split <;> simp
theorem sg_num {k : Nat} {x : Int} (h : NumP x) : NumP (sg k * x) := by
  unfold NumP at *
  rcases sg_or k with e | e <;> rw [e] <;> omega
theorem detAcc_bd {g f : Nat → Int} {k : Nat} (hg : ∀ j, j < k → NumP (g j)) (hf : ∀ j, j < k → f j = badN ∨ NumP (f j)) : ∀ {s : Int}, detAcc g f k = some s → -((k : Int) * 160000000000000000) ≤ s ∧ s ≤ (k : Int) * 160000000000000000 := by
  induction k with
  | zero => intro s h; rw [← Option.some.inj h]; omega
  | succ k ih =>
    intro s h
    cases h1 : detAcc g f k with
    | none => rw [detAcc_none_succ h1] at h; cases h
    | some s1 =>
      have b := ih (fun j hj => hg j (by omega)) (fun j hj => hf j (by omega)) h1
      by_cases h0 : g k = 0
      · rw [detAcc_skip h1 h0] at h
        rw [← Option.some.inj h]; omega
      · by_cases h2 : f k = badN
        · rw [detAcc_bad h1 h0 h2] at h; cases h
        · rw [detAcc_add h1 h0 h2] at h
          have m := mul_num _ _ (sg_num (k := k) (hg k (by omega))) ((hf k (by omega)).resolve_left h2)
          rw [← Option.some.inj h]; omega
/-- The determinant of n rows, or the mark. -/
def detB : Nat → List Int → Int
  | 0, _ => 1
  | n + 1, xs => match detAcc (fun j => xs.getD j 0) (fun j => detB n (woL (n + 1) (0 : Int) (j : Int) xs ((n + 1) * (n + 1)))) (n + 1) with
    | none => badN
    | some s => fitB s
/-- The minors of the first row, with marks. -/
def mnB (n : Nat) (xs : List Int) (j : Nat) : Int := detB n (woL (n + 1) (0 : Int) (j : Int) xs ((n + 1) * (n + 1)))
theorem detB_none {n : Nat} {xs : List Int} (h : detAcc (fun j => xs.getD j 0) (mnB n xs) (n + 1) = none) : detB (n + 1) xs = badN := by
  show (match detAcc (fun j => xs.getD j 0) (mnB n xs) (n + 1) with | none => badN | some s => fitB s) = _
  rw [h]
theorem detB_some {n : Nat} {xs : List Int} {s : Int} (h : detAcc (fun j => xs.getD j 0) (mnB n xs) (n + 1) = some s) : detB (n + 1) xs = fitB s := by
  show (match detAcc (fun j => xs.getD j 0) (mnB n xs) (n + 1) with | none => badN | some s => fitB s) = _
  rw [h]
theorem fitB_or (z : Int) : fitB z = badN ∨ NumP (fitB z) := by
  unfold fitB
  by_cases h : NumP z
  · rw [if_pos h]; exact .inr h
  · rw [if_neg h]; exact .inl rfl
theorem detB_or (n : Nat) (xs : List Int) : detB n xs = badN ∨ NumP (detB n xs) := by
  cases n with
  | zero => exact .inr (by show NumP 1; decide)
  | succ n =>
    cases h : detAcc (fun j => xs.getD j 0) (mnB n xs) (n + 1) with
    | none => exact .inl (detB_none h)
    | some s => rw [detB_some h]; exact fitB_or s
theorem mxL_woL {n : Nat} {xs : List Int} {i j : Nat} (hi : i < n + 1) (hj : j < n + 1) : EqX n (mxL n (woL (n + 1) (i : Int) (j : Int) xs ((n + 1) * (n + 1)))) (mnr (mxL (n + 1) xs) i j) := by
  rw [woL_tab n i j xs hi hj]
  exact mxL_tab n _
theorem woL_sq {n : Nat} {xs : List Int} {i j : Nat} (hi : i < n + 1) (hj : j < n + 1) : (woL (n + 1) (i : Int) (j : Int) xs ((n + 1) * (n + 1))).length = n * n := by rw [woL_tab n i j xs hi hj, tab_length]
/-- Without the mark, it is the determinant. -/
theorem detB_det (n : Nat) : ∀ xs : List Int, detB n xs ≠ badN → detB n xs = det n (mxL n xs) := by
  induction n with
  | zero => intro xs _; rfl
  | succ n ih =>
    intro xs hb
    cases h : detAcc (fun j => xs.getD j 0) (mnB n xs) (n + 1) with
    | none => exact absurd (detB_none h) hb
    | some s =>
      rw [detB_some h] at hb ⊢
      have e : fitB s = s := by
        unfold fitB at hb ⊢
        by_cases hs : NumP s
        · rw [if_pos hs]
        · rw [if_neg hs] at hb; exact absurd rfl hb
      rw [e, detAcc_sum h, det_row]
      refine sumN_congr fun j hj => ?_
      have e0 : mxL (n + 1) xs 0 j = xs.getD j 0 := by unfold mxL; rw [Nat.zero_mul, Nat.zero_add]
      rw [e0]
      by_cases h0 : xs.getD j 0 = 0
      · simp only [h0, Int.mul_zero, Int.zero_mul]
      · have hm := detAcc_met h j hj h0
        have := ih _ hm
        show sg j * xs.getD j 0 * detB n _ = _
        rw [this, det_congr (show EqX n (mxL n (woL (n + 1) (0 : Int) (j : Int) xs ((n + 1) * (n + 1)))) (mnr (mxL (n + 1) xs) 0 j) from mxL_woL (i := 0) (by omega) hj)]
theorem woL_nums {n : Nat} {xs : List Int} {i j : Nat} (hi : i < n + 1) (hj : j < n + 1) (h : nums xs = true) : nums (woL (n + 1) (i : Int) (j : Int) xs ((n + 1) * (n + 1))) = true := by
  rw [woL_tab n i j xs hi hj]
  refine nums_true fun p hp => ?_
  rw [tab_length] at hp
  have hn : 0 < n := by
    rcases Nat.eq_zero_or_pos n with e | e
    · subst e; omega
    · exact e
  have e : p = p / n * n + p % n := by rw [Nat.mul_comm]; exact (Nat.div_add_mod p n).symm
  rw [e, tab_at n n _ (Nat.div_lt_of_lt_mul hp) (Nat.mod_lt p hn)]
  rcases Nat.lt_or_ge (skp i (p / n) * (n + 1) + skp j (p % n)) xs.length with h1 | h1
  · exact nums_at h h1
  · rw [List.getD, List.getElem?_eq_none h1]; exact ⟨by decide, by decide⟩
/-- What DeterminantOf answers, for a square matrix. -/
def detM (n : Nat) (xs : List Int) : Int × Bool := if detB n xs = badN then (0, false) else (detB n xs, true)
end Go.Proofs.Ytpknondccajinaa
end

section
/-
  Chapter 3, in the model: a matrix of zeros.
-/
namespace Go.Proofs.Ytpknondccajinaa
open Go.RowKit

theorem sNew (R C : Nat) (w : World) (hR : R ≤ 4096) (hC : C ≤ 4096) :
    Calls Try.prog 94 #[.int .i64 R, .int .i64 C] w (NewMat R C (List.replicate (R * C) 0) w) := by
  have hm : R * C ≤ 4096 * 4096 := Nat.mul_le_mul hR hC
  have hmk := makeProd R C (by omega)
  have hp1 : (0 : Int) ≤ (R : Int) * (C : Int) := by rw [← Int.natCast_mul]; omega
  have hp2 : (R : Int) * (C : Int) ≤ 16777216 := by rw [← Int.natCast_mul]; omega
  go_enter Try.func94, Try.ntmps94
  go_wp2_with fail
  refine bodyPost_ret (v := .agg #[.int .i64 R, .int .i64 C, .slice (some ⟨w.heap.size + 1, 0, none⟩) (R * C) (R * C)]) (by simp [results, Try.results94, go_sem]) rfl ⟨w.heap.size + 1, by simp, by omega, ?_, ?_⟩
  · exact Ints.made _ (by simp)
  · exact ((Below.refl _ _).alloc (Nat.le_refl _) _).alloc (by simp) _
end Go.Proofs.Ytpknondccajinaa
end

section
/-
  Plain mathematics: a row that is filled from the left.
-/
namespace Go.Proofs.Ytpknondccajinaa

/-- What has been filled in up to k. -/
def upto (n k : Nat) (f : Nat → Int) : List Int := (List.range n).map fun i => if i < k then f i else 0
theorem upto_length (n k : Nat) (f : Nat → Int) : (upto n k f).length = n := by simp [upto]
theorem upto_zero (n : Nat) (f : Nat → Int) : upto n 0 f = List.replicate n 0 := by
  apply List.ext_getElem (by simp [upto])
  intro i h1 h2
  simp [upto]
theorem upto_all (n : Nat) (f : Nat → Int) : upto n n f = (List.range n).map f := by
  apply List.ext_getElem (by simp [upto])
  intro i h1 h2
  have : i < n := by simpa [upto] using h1
  simp [upto, this]
theorem upto_at (n k : Nat) (f : Nat → Int) : (upto n k f).getD k 0 = 0 := by
  unfold upto List.getD
  rcases Nat.lt_or_ge k n with h | h
  · simp [h]
  · simp [h]
theorem upto_step (n k : Nat) (f : Nat → Int) : (upto n k f).set k (f k) = upto n (k + 1) f := by
  apply List.ext_getElem (by simp [upto])
  intro i h1 h2
  have hi : i < n := by simpa [upto] using h2
  rw [List.getElem_set]
  by_cases e : k = i
  · subst e; simp [upto]
  · simp only [e, if_false]
    simp only [upto, List.getElem_map, List.getElem_range]
    by_cases h3 : i < k
    · rw [if_pos h3, if_pos (by omega)]
    · rw [if_neg h3, if_neg (by omega)]
end Go.Proofs.Ytpknondccajinaa
end

section
/-
  Chapter 3, in the model: IdentityMatrix.
-/
namespace Go.Proofs.Ytpknondccajinaa
open Go.RowKit

/-- Zeros, and ones in the first k places of the diagonal. -/
def idL (n k : Nat) : List Int := (List.range (n * n)).map fun j => if j % (n + 1) = 0 ∧ j < k * (n + 1) then 1 else 0
theorem idL_length (n k : Nat) : (idL n k).length = n * n := by simp [idL]
theorem idL_zero (n : Nat) : idL n 0 = List.replicate (n * n) 0 := by
  apply List.ext_getElem (by simp [idL])
  intro i h1 h2
  simp [idL]
theorem idL_at (n k : Nat) : (idL n k).getD (k * n + k) 0 = 0 := by
  have e : k * n + k = k * (n + 1) := (Nat.mul_succ k n).symm
  rw [e]
  unfold idL List.getD
  rcases Nat.lt_or_ge (k * (n + 1)) (n * n) with h | h
  · simp [h]
  · simp [h]
theorem idL_step (n k : Nat) : (idL n k).set (k * n + k) 1 = idL n (k + 1) := by
  have e : k * n + k = k * (n + 1) := (Nat.mul_succ k n).symm
  rw [e]
  apply List.ext_getElem (by simp [idL])
  intro i h1 h2
  have hi : i < n * n := by simpa [idL] using h2
  rw [List.getElem_set]
  by_cases hk : k * (n + 1) = i
  · rw [if_pos hk]
    have h3 : i % (n + 1) = 0 := by rw [← hk]; exact Nat.mul_mod_left _ _
    have h4 : i < (k + 1) * (n + 1) := by rw [← hk, Nat.succ_mul]; omega
    simp [idL, h3, h4]
  · rw [if_neg hk]
    have h5 : (i % (n + 1) = 0 ∧ i < k * (n + 1)) ↔ (i % (n + 1) = 0 ∧ i < (k + 1) * (n + 1)) := by
      constructor
      · rintro ⟨a, b⟩; exact ⟨a, by rw [Nat.succ_mul]; omega⟩
      · rintro ⟨a, b⟩
        refine ⟨a, ?_⟩
        obtain ⟨q, hq⟩ := Nat.dvd_of_mod_eq_zero a
        rw [Nat.mul_comm] at hq
        rw [hq] at b ⊢
        have := Nat.lt_of_mul_lt_mul_right b
        have hne : q ≠ k := by rintro rfl; exact hk hq.symm
        exact Nat.mul_lt_mul_of_pos_right (by omega) (by omega)
    simp only [idL, List.getElem_map, List.getElem_range, h5]
def idM (n : Int) : MR := if 0 ≤ n ∧ n ≤ 24 then ⟨true, n, n, idL n.toNat n.toNat⟩ else MR.no

set_option maxHeartbeats 1000000 in
theorem sIdent_t (n : Nat) (w : World) (hn : n ≤ 24) :
    Calls Try.prog 59 #[.int .i64 n] w (MatRes ⟨true, n, n, idL n n⟩ w) := by
  have hle : n * n ≤ 24 * 24 := Nat.mul_le_mul hn hn
  have B0 : ∀ o1, Below w.heap.size w (w.alloc o1) := fun o1 => (Below.refl _ _).alloc (Nat.le_refl _) _
  have BH := Lib.hid B0
  clear B0
  go_enter Try.func59, Try.ntmps59
  go_wp2_with fail
  refine (sIn_t n 0 24 _ (by omega) (by omega)).mono ?_
  rintro e w2 ⟨rfl, rfl⟩
  go_wp2_with fail
  have K2 : Hid (Blk3 (w.alloc (.cells #[.int .i64 0, .int .i64 0, .slice none 0 0] 26)) w.heap.size 26 (.int .i64 0) (.int .i64 0) (.slice none 0 0)) := Blk3.at_ _ _ _ _ rfl
  have B := Lib.hid (BH.out (.cells #[.int .i64 0, .int .i64 0, .slice none 0 0] 26))
  refine (sNew n n _ (by omega) (by omega)).mono ?_
  rintro e w3 ⟨g, rfl, hg, hi, hb⟩
  have l2 := Nat.lt_of_lt_of_le K2.out.lt hg
  clear hg
  obtain ⟨N, hN⟩ : ∃ N, n * n = N := ⟨_, rfl⟩
  have HN := Lib.hid hN
  rw [hN] at hi hle ⊢
  clear hN
  have K2 := Lib.hid (K2.out.keep hb K2.out.lt)
  have B := Lib.hid (B.out.trans (hb.mono B.out.size))
  have I := Lib.hid hi
  have gl := hi.lt
  clear hb hi
  simp only [List.length_replicate]
  have BA : Hid (Below w.heap.size w (w3.alloc (.cells #[.int .i64 n, .int .i64 n, .slice (some ⟨g, 0, none⟩) N N] 26))) := B.out.alloc B.out.size _
  have K2 := Lib.hid (K2.out.old (.cells #[.int .i64 n, .int .i64 n, .slice (some ⟨g, 0, none⟩) N N] 26))
  have K6 : Hid (Blk3 (w3.alloc (.cells #[.int .i64 n, .int .i64 n, .slice (some ⟨g, 0, none⟩) N N] 26)) w3.heap.size 26 (.int .i64 n) (.int .i64 n) (.slice (some ⟨g, 0, none⟩) N N)) := Blk3.at_ _ _ _ _ rfl
  have I := Lib.hid (I.out.old (.cells #[.int .i64 n, .int .i64 n, .slice (some ⟨g, 0, none⟩) N N] 26))
  go_wp2_with fail
  go_loopw [5] (fun i wr => ∃ k : Nat, i = .int .i64 k ∧ k ≤ n ∧ Ints wr g (idL n k) ∧ (w3.alloc (.cells #[.int .i64 n, .int .i64 n, .slice (some ⟨g, 0, none⟩) N N] 26)).grownBy wr (some g)) (fun i _ => n - (intOf i).toNat)
  case atStart => exact ⟨0, rfl, by omega, by rw [idL_zero, HN.out]; exact I.out, World.grownBy.refl _ _⟩
  case round =>
    obtain ⟨k, rfl, hk, hi, hgr⟩ := hrel
    have I := Lib.hid hi
    have G := Lib.hid hgr
    clear hi hgr
    have R2 := Lib.hid (K2.out.keepOne G.out (by omega))
    have R6 := Lib.hid (K6.out.keepOne G.out (by omega))
    obtain ⟨r0, r1, r2, -, -, -⟩ := R6.out.all
    by_cases hlt : k < n
    · have i1 : k * n + k < N := by rw [← HN.out]; exact idx_lt hlt hlt
      have hold := I.out.cell (i := k * n + k) (by rw [idL_length, HN.out]; exact i1)
      rw [idL_at] at hold
      have hfr := I.out.free (k * n + k)
      have c1 : (k : Int) * (n : Int) = ((k * n : Nat) : Int) := (Int.natCast_mul _ _).symm
      have d1 : 0 ≤ (k : Int) * (n : Int) ∧ (k : Int) * (n : Int) ≤ 600 := by rw [c1]; omega
      have e1 : 0 ≤ (k : Int) * (n : Int) + (k : Int) := by omega
      have e2 : (k : Int) * (n : Int) + (k : Int) < (N : Int) := by rw [c1]; omega
      have e3 : ((k : Int) * (n : Int) + (k : Int)).toNat = k * n + k := by rw [c1]; omega
      obtain ⟨d11, d12⟩ := d1
      have v1 : IntKind.i64.wrap ((k : Int) * (n : Int)) = (k : Int) * (n : Int) := IntWalk.i64_in _ (by omega)
      have v2 : IntKind.i64.wrap ((k : Int) * (n : Int) + (k : Int)) = (k : Int) * (n : Int) + (k : Int) := IntWalk.i64_in _ (by omega)
      clear c1
      go_wp2_with fail
      go_roundw
      case rel =>
        refine ⟨k + 1, by go_num, by omega, ?_, ?_⟩
        · rw [← idL_step]
          first | exact I.out.set (k * n + k) _ | exact I.out.drew.set (k * n + k) _
        · first | exact grown_set_one G.out rfl _ | exact grown_drew_one (grown_set_one G.out rfl _)
      case measure => simp [intOf]; omega
    · have hkn : k = n := by omega
      subst hkn
      have BW := Lib.hid (BA.out.trans (below_of_one G.out (by omega) BA.out.size))
      obtain ⟨s0, s1, s2, t0, t1, t2⟩ := R2.out.all
      go_wp2_with fail
      obtain ⟨E0, E1, E2, -, -, -⟩ := (((R2.out.set0 (.int .i64 k)).set1 (.int .i64 k)).set2 (.slice (some ⟨g, 0, none⟩) N N)).all
      refine bodyPost_ret (v := .tuple #[.agg #[.int .i64 k, .int .i64 k, .slice (some ⟨g, 0, none⟩) N N], .bool true]) (by simp [results, Try.results59, go_sem, E0, E1, E2]) rfl ⟨_, rfl, ?_, ?_⟩
      · refine .inr ⟨g, N, by rw [idL_length, HN.out], by omega, ?_, by simp [idL_length, HN.out], by simp [idL_length, HN.out]; omega⟩
        exact ((I.out.far (by show g ≠ w.heap.size; omega) _).far (by show g ≠ w.heap.size; omega) _).far (by show g ≠ w.heap.size; omega) _
      · exact ((BW.out.setCell (Nat.le_refl _) _).setCell (Nat.le_refl _) _).setCell (Nat.le_refl _) _
theorem sIdent (n : Int) (w : World) : Calls Try.prog 59 #[.int .i64 n] w (MatRes (idM n) w) := by
  by_cases h : 0 ≤ n ∧ n ≤ 24
  · obtain ⟨k, rfl⟩ := Int.eq_ofNat_of_zero_le h.1
    have E : idM k = ⟨true, k, k, idL k k⟩ := by unfold idM; rw [if_pos h]; rfl
    rw [E]
    exact sIdent_t k w (by omega)
  · have E : Hid (idM n = MR.no) := by show idM n = _; unfold idM; rw [if_neg h]
    have h' : n < 0 ∨ 24 < n := by omega
    clear h
    have B0 : ∀ o1, Below w.heap.size w (w.alloc o1) := fun o1 => (Below.refl _ _).alloc (Nat.le_refl _) _
    have BH := Lib.hid B0
    clear B0
    go_enter Try.func59, Try.ntmps59
    go_wp2_with fail
    refine (sIn_f n 0 24 _ h').mono ?_
    rintro e w2 ⟨rfl, rfl⟩
    have K2 : Hid (Blk3 (w.alloc (.cells #[.int .i64 0, .int .i64 0, .slice none 0 0] 26)) w.heap.size 26 (.int .i64 0) (.int .i64 0) (.slice none 0 0)) := Blk3.at_ _ _ _ _ rfl
    have B := Lib.hid (BH.out (.cells #[.int .i64 0, .int .i64 0, .slice none 0 0] 26))
    obtain ⟨s0, s1, s2, t0, t1, t2⟩ := K2.out.all
    go_wp2_with fail
    rw [E.out]
    exact bodyPost_ret (v := .tuple #[.agg #[.int .i64 0, .int .i64 0, .slice none 0 0], .bool false]) (by simp [results, Try.results59, go_sem]) rfl ⟨_, rfl, .inl ⟨rfl, rfl⟩, B.out⟩
end Go.Proofs.Ytpknondccajinaa
end

section
/-
  Plain mathematics of chapters 5 and 6: what operations on rows do to the determinant. Nothing of a program is used.
-/
namespace Go.Proofs.Ytpknondccajinaa

theorem opL_getD {k : Int} {I J : Nat} {t : Int} {C : Nat} {xs : List Int} {p : Nat} (hp : p < xs.length) : (opL k I J t C xs).getD p 0 = opAt k I J t C xs p := by
  unfold opL
  simp only [List.getD, List.getElem?_map, List.getElem?_range hp, Option.map_some, Option.getD_some]
/-- If all cells are numbers in the end, no cell has a mark. -/
theorem opL_raw {k : Int} {I J : Nat} {t : Int} {R C : Nat} {xs : List Int} (hk : k = 0 ∨ k = 1 ∨ k = 2) (hl : xs.length = R * C) (hx : nums xs = true) (hI : I < R) (ht : NumP t) (hn : nums (opL k I J t C xs) = true) (p : Nat) (hp : p < R * C) :
    (opL k I J t C xs).getD p 0 = rwAt k I J t C xs p := by
  have hpr : ∀ q, q < C → k = 2 → NumP (xs.getD (J * C + q) 0 * t) := by
    intro q hq h2
    subst h2
    by_cases hb : NumP (xs.getD (J * C + q) 0 * t)
    · exact hb
    · exfalso
      have hi : I * C + q < xs.length := by rw [hl]; exact idx_lt hI hq
      have e : (opL 2 I J t C xs).getD (I * C + q) 0 = badN := by
        rw [opL_getD hi, opAt_two _ _ _ _ _ hq, mulB_num (nums_def hx _) ht, fitB_bad hb, addB_bad]
      have := nums_at hn (j := I * C + q) (by rw [opL_length]; exact hi)
      rw [e] at this
      exact bad_not this
  have hC : 0 < C := by
    rcases Nat.eq_zero_or_pos C with e | e
    · subst e; omega
    · exact e
  have hp' : p < xs.length := by rw [hl]; exact hp
  have h1 := nums_at hn (j := p) (by rw [opL_length]; exact hp')
  rw [opL_getD hp', opAt_raw k I J t C xs p hk hx ht (fun h2 _ => hpr _ (Nat.mod_lt p hC) h2)] at h1 ⊢
  by_cases hz : NumP (rwAt k I J t C xs p)
  · exact fitB_num hz
  · rw [fitB_bad hz] at h1; exact absurd h1 bad_not
/-- An operation on rows, over matrices. -/
def opX (k : Int) (I J : Nat) (t : Int) (A : Mx) : Mx := fun r c =>
  if k = 0 then (if r = I then A J c else if r = J then A I c else A r c)
  else if k = 1 then (if r = I then - A r c else A r c)
  else (if r = I then A r c + A J c * t else A r c)
theorem rwAt_mx {k : Int} {I J : Nat} {t : Int} {C : Nat} {xs : List Int} {r c : Nat} (hc : c < C) : rwAt k I J t C xs (r * C + c) = opX k I J t (fun r c => xs.getD (r * C + c) 0) r c := by
  unfold rwAt opX
  rw [idx_div hc, idx_mod hc]
theorem opX_mxL {k : Int} {I J : Nat} {t : Int} {n : Nat} {xs : List Int} (hk : k = 0 ∨ k = 1 ∨ k = 2) (hl : xs.length = n * n) (hx : nums xs = true) (hI : I < n) (ht : NumP t) (hn : nums (opL k I J t n xs) = true) :
    EqX n (mxL n (opL k I J t n xs)) (opX k I J t (mxL n xs)) := fun r c hr hc => by
  show (opL k I J t n xs).getD (r * n + c) 0 = _
  rw [opL_raw hk hl hx hI ht hn _ (idx_lt hr hc), rwAt_mx hc]
  rfl
def opSg (k : Int) : Int := if k = 2 then 1 else -1
theorem opX_det {k : Int} {I J : Nat} {t : Int} {n : Nat} (A : Mx) (hk : k = 0 ∨ k = 1 ∨ k = 2) (hI : I < n) (hJ : J < n) (hIJ : k ≠ 1 → I ≠ J) : det n (opX k I J t A) = opSg k * det n A := by
  rcases hk with rfl | rfl | rfl
  · have e : opX 0 I J t A = swR A I J := by
      funext r c
      unfold opX swR
      rw [if_pos rfl]
    rw [e, alt_swap (det_lin n) (det_alt n) (hIJ (by decide)) hI hJ A]
    unfold opSg
    rw [if_neg (by decide)]; omega
  · have e : opX 1 I J t A = stR A I (fun c => (-1) * A I c) := by
      funext r c
      unfold opX stR
      rw [if_neg (by decide), if_pos rfl]
      by_cases h : r = I
      · rw [if_pos h, if_pos h, h]
        show - A I c = (-1) * A I c
        omega
      · rw [if_neg h, if_neg h]
    rw [e, lin_scale (det_lin n) hI A (-1) (A I), stR_self]
    unfold opSg
    rw [if_neg (by decide)]
  · have e : opX 2 I J t A = stR A I (fun c => A I c + t * A J c) := by
      funext r c
      unfold opX stR
      rw [if_neg (by decide), if_neg (by decide)]
      by_cases h : r = I
      · rw [if_pos h, if_pos h, h, Int.mul_comm]
      · rw [if_neg h, if_neg h]
    rw [e, alt_add (det_lin n) (det_alt n) (hIJ (by decide)) hI hJ A t]
    unfold opSg
    rw [if_pos rfl, Int.one_mul]
/-- What an operation that succeeds has made of a square matrix. -/
theorem opM_det {k i j t : Int} {n : Nat} {xs : List Int} (h : (opM k i j t n n xs).ok = true) :
    ∃ ys : List Int, opM k i j t n n xs = ⟨true, n, n, ys⟩ ∧ xs.length = n * n ∧ nums xs = true ∧ ys.length = n * n ∧ nums ys = true ∧ det n (mxL n ys) = opSg k * det n (mxL n xs) := by
  unfold opM at h ⊢
  by_cases h1 : (isMat n n xs && isOp k i j t n) = true
  · rw [if_pos h1] at h ⊢
    simp only [Bool.and_eq_true] at h1
    obtain ⟨hm, ho⟩ := h1
    obtain ⟨-, -, hl, hx⟩ := isMat_says hm
    obtain ⟨hk, -, ⟨i1, i2⟩, ⟨j1, j2⟩, ht, -⟩ := isOp_says ho
    rw [← Int.natCast_mul] at hl
    have hl : xs.length = n * n := by omega
    obtain ⟨I, rfl⟩ := Int.eq_ofNat_of_zero_le i1
    obtain ⟨J, rfl⟩ := Int.eq_ofNat_of_zero_le j1
    have hIJ : k ≠ 1 → I ≠ J := fun h1 => by
      rcases hk with rfl | rfl | rfl
      · have := isOp_rows0 ho; omega
      · exact absurd rfl h1
      · have := isOp_rows2 ho; omega
    unfold MR.done at h ⊢
    by_cases h2 : isMat n n (opL k I J t n xs) = true
    · have hn := (isMat_says h2).2.2.2
      have e : (n : Int).toNat = n := rfl
      refine ⟨opL k I J t n xs, if_pos h2, hl, hx, by rw [opL_length, hl], hn, ?_⟩
      rw [det_congr (opX_mxL hk hl hx (by omega) ht hn)]
      exact opX_det _ hk (by omega) (by omega) hIJ
    · rw [show (if isMat n n (opL k (I : Int).toNat (J : Int).toNat t (n : Int).toNat xs) = true then _ else MR.no) = MR.no from if_neg h2] at h
      exact absurd h (by simp [MR.no])
  · rw [if_neg h1] at h; exact absurd h (by simp [MR.no])
theorem mxL_idL (n : Nat) : EqX n (mxL n (idL n n)) idX := fun r c hr hc => by
  have hp : r * n + c < n * n := idx_lt hr hc
  have e : (idL n n).getD (r * n + c) 0 = if (r * n + c) % (n + 1) = 0 ∧ r * n + c < n * (n + 1) then 1 else 0 := by
    unfold idL
    simp only [List.getD, List.getElem?_map, List.getElem?_range hp, Option.map_some, Option.getD_some]
  show (idL n n).getD (r * n + c) 0 = _
  rw [e]
  have hlt : r * n + c < n * (n + 1) := by rw [Nat.mul_add, Nat.mul_one]; omega
  unfold idX
  rcases Nat.lt_trichotomy r c with h | h | h
  · have e2 : r * n + c = r * (n + 1) + (c - r) := by rw [Nat.mul_add, Nat.mul_one]; omega
    rw [if_neg (fun h' => by rw [e2, idx_mod (by omega)] at h'; omega), if_neg (by omega)]
  · subst h
    have e2 : r * n + r = r * (n + 1) + 0 := by rw [Nat.mul_add, Nat.mul_one]; omega
    rw [if_pos ⟨by rw [e2, idx_mod (by omega)], hlt⟩, if_pos rfl]
  · obtain ⟨p, rfl⟩ : ∃ p, r = p + 1 := ⟨r - 1, by omega⟩
    have e2 : (p + 1) * n + c = p * (n + 1) + (n + c - p) := by rw [Nat.mul_add, Nat.mul_one, Nat.add_mul, Nat.one_mul]; omega
    rw [if_neg (fun h' => by rw [e2, idx_mod (by omega)] at h'; omega), if_neg (by omega)]
theorem idL_nums (n : Nat) : nums (idL n n) = true := by
  refine nums_true fun p hp => ?_
  rw [idL_length] at hp
  unfold idL
  simp only [List.getD, List.getElem?_map, List.getElem?_range hp, Option.map_some, Option.getD_some]
  split
  · exact ⟨by decide, by decide⟩
  · exact ⟨by decide, by decide⟩
theorem idL_det (n : Nat) : det n (mxL n (idL n n)) = 1 := by rw [det_congr (mxL_idL n), det_id]
end Go.Proofs.Ytpknondccajinaa
end

section
/-
  Plain mathematics of chapter 3: what a product and a matrix turned over are. Nothing of a program is used.
-/
namespace Go.Proofs.Ytpknondccajinaa
open Go.RowKit

def turnL (R C : Nat) (xs : List Int) : List Int := tab C R fun j i => xs.getD (i * C + j) 0
/-- What is turned over so far: rows below i, and of row i the columns below j. -/
def Turned (R C : Nat) (xs : List Int) (i j : Nat) (zs : List Int) : Prop :=
  zs.length = C * R ∧ (∀ i' j' : Nat, i' < i → j' < C → zs.getD (j' * R + i') 0 = xs.getD (i' * C + j') 0) ∧ (∀ j' : Nat, j' < j → zs.getD (j' * R + i) 0 = xs.getD (i * C + j') 0)
theorem Turned.start (R C : Nat) (xs : List Int) : Turned R C xs 0 0 (List.replicate (C * R) 0) := ⟨by simp, fun _ _ h => absurd h (by omega), fun _ h => absurd h (by omega)⟩
theorem Turned.step {R C : Nat} {xs zs : List Int} {i j : Nat} (h : Turned R C xs i j zs) (hi : i < R) (hj : j < C) : Turned R C xs i (j + 1) (zs.set (j * R + i) (xs.getD (i * C + j) 0)) := by
  obtain ⟨hl, h1, h2⟩ := h
  have hb : j * R + i < zs.length := by rw [hl]; exact idx_lt hj hi
  refine ⟨by rw [List.length_set]; exact hl, fun i' j' hi' hj' => ?_, fun j' hj' => ?_⟩
  · rw [getD_set _ _ _ _ hb, if_neg (fun e => by have := (idx_inj (by omega) hi e).2; omega)]
    exact h1 i' j' hi' hj'
  · rw [getD_set _ _ _ _ hb]
    by_cases e : j' = j
    · subst e; rw [if_pos rfl]
    · rw [if_neg (fun h => e (idx_inj hi hi h).1)]
      exact h2 j' (by omega)
theorem Turned.row {R C : Nat} {xs zs : List Int} {i : Nat} (h : Turned R C xs i C zs) : Turned R C xs (i + 1) 0 zs := by
  obtain ⟨hl, h1, h2⟩ := h
  refine ⟨hl, fun i' j' hi' hj' => ?_, fun _ h => absurd h (by omega)⟩
  by_cases e : i' = i
  · subst e; exact h2 j' hj'
  · exact h1 i' j' (by omega) hj'
theorem Turned.whole {R C : Nat} {xs zs : List Int} (h : Turned R C xs R 0 zs) : zs = turnL R C xs := by
  obtain ⟨hl, h1, _⟩ := h
  exact tab_ext hl fun j i hj hi => h1 i j hi hj
/-- The sum of the first k products of row i and column j. -/
def dot (K C : Nat) (xs ys : List Int) (i j : Nat) : Nat → Int
  | 0 => 0
  | k + 1 => dot K C xs ys i j k + xs.getD (i * K + k) 0 * ys.getD (k * C + j) 0
def mulL (R K C : Nat) (xs ys : List Int) : List Int := tab R C fun i j => dot K C xs ys i j K
theorem dot_bd {K C : Nat} {xs ys : List Int} {i j : Nat} (hx : ∀ p : Nat, p < K → NumP (xs.getD (i * K + p) 0)) (hy : ∀ p : Nat, p < K → NumP (ys.getD (p * C + j) 0)) :
    ∀ k : Nat, k ≤ K → -160000000000000000 * (k : Int) ≤ dot K C xs ys i j k ∧ dot K C xs ys i j k ≤ 160000000000000000 * (k : Int) := by
  intro k
  induction k with
  | zero => intro _; simp [dot]
  | succ k ih =>
    intro hk
    have h := ih (by omega)
    have m := mul_num _ _ (hx k (by omega)) (hy k (by omega))
    simp only [dot]
    push_cast
    omega

/-- What is filled in so far, row by row. -/
def Filled (R C : Nat) (f : Nat → Nat → Int) (i j : Nat) (zs : List Int) : Prop :=
  zs.length = R * C ∧ (∀ i' j' : Nat, i' < i → j' < C → zs.getD (i' * C + j') 0 = f i' j') ∧ (∀ j' : Nat, j' < j → zs.getD (i * C + j') 0 = f i j')
theorem Filled.start (R C : Nat) (f : Nat → Nat → Int) : Filled R C f 0 0 (List.replicate (R * C) 0) := ⟨by simp, fun _ _ h => absurd h (by omega), fun _ h => absurd h (by omega)⟩
theorem Filled.step {R C : Nat} {f : Nat → Nat → Int} {zs : List Int} {i j : Nat} (h : Filled R C f i j zs) (hi : i < R) (hj : j < C) : Filled R C f i (j + 1) (zs.set (i * C + j) (f i j)) := by
  obtain ⟨hl, h1, h2⟩ := h
  have hb : i * C + j < zs.length := by rw [hl]; exact idx_lt hi hj
  refine ⟨by rw [List.length_set]; exact hl, fun i' j' hi' hj' => ?_, fun j' hj' => ?_⟩
  · rw [getD_set _ _ _ _ hb, if_neg (fun e => by have := (idx_inj hj' hj e).1; omega)]
    exact h1 i' j' hi' hj'
  · rw [getD_set _ _ _ _ hb]
    by_cases e : j' = j
    · subst e; rw [if_pos rfl]
    · rw [if_neg (fun h => e (idx_inj (by omega) hj h).2)]
      exact h2 j' (by omega)
theorem Filled.row {R C : Nat} {f : Nat → Nat → Int} {zs : List Int} {i : Nat} (h : Filled R C f i C zs) : Filled R C f (i + 1) 0 zs := by
  obtain ⟨hl, h1, h2⟩ := h
  refine ⟨hl, fun i' j' hi' hj' => ?_, fun _ h => absurd h (by omega)⟩
  by_cases e : i' = i
  · subst e; exact h2 j' hj'
  · exact h1 i' j' (by omega) hj'
theorem Filled.whole {R C : Nat} {f : Nat → Nat → Int} {zs : List Int} (h : Filled R C f R 0 zs) : zs = tab R C f := tab_ext h.1 fun i j hi hj => h.2.1 i j hi hj
def mulM (r c : Int) (xs : List Int) (r' c' : Int) (ys : List Int) : MR := if (isMat r c xs && isMat r' c' ys && decide (c = r')) = true then MR.done r c' (mulL r.toNat c.toNat c'.toNat xs ys) else MR.no
def turnM (r c : Int) (xs : List Int) : MR := if isMat r c xs = true then ⟨true, c, r, turnL r.toNat c.toNat xs⟩ else MR.no
def addL (xs ys : List Int) : List Int := (List.range xs.length).map fun i => xs.getD i 0 + ys.getD i 0
def addM (r c : Int) (xs : List Int) (r' c' : Int) (ys : List Int) : MR := if (isMat r c xs && isMat r' c' ys && decide (r = r' ∧ c = c')) = true then MR.done r c (addL xs ys) else MR.no

def scaleL (xs : List Int) (q : Int) : List Int := (List.range xs.length).map fun i => xs.getD i 0 * q
def scaleM (r c : Int) (xs : List Int) (q : Int) : MR := if (isMat r c xs && decide (NumP q)) = true then MR.done r c (scaleL xs q) else MR.no

end Go.Proofs.Ytpknondccajinaa
end

section
/-
  What SameMatrix answers.
-/
namespace Go.Proofs.Ytpknondccajinaa


/-- SameMatrix. -/
def sameM (r c : Int) (xs : List Int) (r' c' : Int) (ys : List Int) : Bool := decide (r = r' ∧ c = c' ∧ xs = ys)
end Go.Proofs.Ytpknondccajinaa
end

section
/-
  Plain mathematics of chapter 3: products and matrices turned over. Nothing of a program is used.
-/
namespace Go.Proofs.Ytpknondccajinaa

theorem turnL_length (R C : Nat) (xs : List Int) : (turnL R C xs).length = C * R := tab_length _ _ _
theorem turnL_at (R C : Nat) (xs : List Int) {i j : Nat} (hi : i < R) (hj : j < C) : (turnL R C xs).getD (j * R + i) 0 = xs.getD (i * C + j) 0 := by
  unfold turnL
  rw [tab_at C R _ hj hi]
theorem mulL_length (R K C : Nat) (xs ys : List Int) : (mulL R K C xs ys).length = R * C := tab_length _ _ _
theorem mulL_at (R K C : Nat) (xs ys : List Int) {i j : Nat} (hi : i < R) (hj : j < C) : (mulL R K C xs ys).getD (i * C + j) 0 = dot K C xs ys i j K := by
  unfold mulL
  rw [tab_at R C _ hi hj]
theorem turn_turn (R C : Nat) (xs : List Int) (h : xs.length = R * C) : turnL C R (turnL R C xs) = xs := by
  unfold turnL
  rw [eq_comm]
  refine tab_ext h fun i j hi hj => ?_
  exact (turnL_at R C xs hi hj).symm
theorem dot_turn (R K C : Nat) (xs ys : List Int) {i j : Nat} (hi : i < C) (hj : j < R) : ∀ k : Nat, k ≤ K → dot K R (turnL K C ys) (turnL R K xs) i j k = dot K C xs ys j i k := by
  intro k
  induction k with
  | zero => intro _; rfl
  | succ k ih =>
    intro hk
    show dot K R (turnL K C ys) (turnL R K xs) i j k + (turnL K C ys).getD (i * K + k) 0 * (turnL R K xs).getD (k * R + j) 0 = dot K C xs ys j i k + xs.getD (j * K + k) 0 * ys.getD (k * C + i) 0
    rw [ih (by omega), turnL_at K C ys (by omega) hi, turnL_at R K xs hj (by omega), Int.mul_comm]
theorem mul_turn (R K C : Nat) (xs ys : List Int) : mulL C K R (turnL K C ys) (turnL R K xs) = turnL R C (mulL R K C xs ys) := by
  unfold turnL
  refine tab_ext (mulL_length _ _ _ _ _) fun i j hi hj => ?_
  have h1 := mulL_at C K R (turnL K C ys) (turnL R K xs) hi hj
  rw [mulL_at R K C xs ys hj hi]
  unfold turnL at h1
  rw [h1]
  exact dot_turn R K C xs ys hi hj K (Nat.le_refl _)
theorem nums_of {zs : List Int} (h : ∀ q : Nat, q < zs.length → NumP (zs.getD q 0)) : nums zs = true := nums_true h
theorem isMat_turn {R C : Nat} {xs : List Int} (h : isMat R C xs = true) : isMat C R (turnL R C xs) = true := by
  obtain ⟨h1, h2, h3, h4⟩ := isMat_says h
  have hl : xs.length = R * C := by rw [← Int.natCast_mul] at h3; omega
  have hn : nums (turnL R C xs) = true := nums_of fun q hq => by
    rw [turnL_length] at hq
    have hR : 0 < R := by
      rcases Nat.eq_zero_or_pos R with e | e
      · rw [e, Nat.mul_zero] at hq; omega
      · exact e
    have hj : q / R < C := Nat.div_lt_of_lt_mul (by rw [Nat.mul_comm]; exact hq)
    have hi : q % R < R := Nat.mod_lt q hR
    have e : q / R * R + q % R = q := by rw [Nat.mul_comm]; exact Nat.div_add_mod q R
    rw [← e, turnL_at R C xs hi hj]
    exact nums_at h4 (by rw [hl]; exact idx_lt hi hj)
  unfold isMat
  rw [decide_eq_true (show SizeP (C : Int) from h2), decide_eq_true (show SizeP (R : Int) from h1), hn, decide_eq_true (show (((turnL R C xs).length : Nat) : Int) = (C : Int) * (R : Int) by rw [turnL_length, Int.natCast_mul])]
  rfl
/-- A product is none, or all is known of it. -/
theorem mul_cases (r c : Int) (xs : List Int) (r' c' : Int) (ys : List Int) : mulM r c xs r' c' ys = MR.no ∨
    ∃ R K C : Nat, r = R ∧ c = K ∧ r' = K ∧ c' = C ∧ isMat R K xs = true ∧ isMat K C ys = true ∧ isMat R C (mulL R K C xs ys) = true ∧ mulM r c xs r' c' ys = ⟨true, R, C, mulL R K C xs ys⟩ := by
  unfold mulM
  by_cases h : (isMat r c xs && isMat r' c' ys && decide (c = r')) = true
  · rw [if_pos h]
    simp only [Bool.and_eq_true, decide_eq_true_eq] at h
    obtain ⟨⟨h1, h2⟩, rfl⟩ := h
    obtain ⟨⟨a1, -⟩, ⟨a2, -⟩, -, -⟩ := isMat_says h1
    obtain ⟨-, ⟨a3, -⟩, -, -⟩ := isMat_says h2
    obtain ⟨R, rfl⟩ := Int.eq_ofNat_of_zero_le a1
    obtain ⟨K, rfl⟩ := Int.eq_ofNat_of_zero_le a2
    obtain ⟨C, rfl⟩ := Int.eq_ofNat_of_zero_le a3
    simp only [Int.toNat_natCast]
    unfold MR.done
    by_cases h3 : isMat R C (mulL R K C xs ys) = true
    · rw [if_pos h3]
      exact .inr ⟨R, K, C, rfl, rfl, rfl, rfl, h1, h2, h3, rfl⟩
    · rw [if_neg h3]
      exact .inl rfl
  · rw [if_neg h]
    exact .inl rfl
theorem turnM_ok {R C : Nat} {xs : List Int} (h : isMat R C xs = true) : turnM R C xs = ⟨true, C, R, turnL R C xs⟩ := by
  unfold turnM
  rw [if_pos h]
  simp only [Int.toNat_natCast]
theorem mulM_ok {R K C : Nat} {xs ys : List Int} (h : isMat R K xs = true) (h' : isMat K C ys = true) (h3 : isMat R C (mulL R K C xs ys) = true) : mulM R K xs K C ys = ⟨true, R, C, mulL R K C xs ys⟩ := by
  unfold mulM MR.done
  rw [h, h', decide_eq_true rfl]
  simp only [Int.toNat_natCast, Bool.and_true, if_true]
  rw [if_pos h3]
theorem sameM_self (r c : Int) (zs : List Int) : sameM r c zs r c zs = true := decide_eq_true ⟨rfl, rfl, rfl⟩
end Go.Proofs.Ytpknondccajinaa
end
