/-
  Texts of this seat, joined: Row3 · Row2n · MatDone · Row4 · RowRaw · MatNew · MatS9 · OpDet · LawDet · ChiL · NumGcdS · NumGD · NumGcd · NumFloor · NumExt · MdS
-/
import Derived.IntWalk
import Derived.StillTailTactics
import Derived.Test.YtgemkfcapkfdbaaRows
import Derived.WalkKit
import Derived.BigQuiet
import Derived.Deep.QuietTactic
import Derived.Lib.Hide
import Derived.Deep.LoopGhost
import Derived.Deep.RegionHeld3
import Derived.Deep.RegionWith
import Derived.Test.YtgemkfcapkfdbaaPk1
import Derived.Test.YtgemkfcapkfdbaaPk2
import Derived.Test.YtgemkfcapkfdbaaPk3

section
/-
  Chapter 5, in the model: an operation on rows, in place.
-/
namespace Go.Proofs.Ytgemkfcapkfdbaa
set_option maxRecDepth 100000
open Go.RowKit

/-! ### l5Do -/
/-- A statement that gives back nothing. -/
def Void (e : Ending) : Prop := e = .returned (.tuple #[])
theorem tenF {W w' : World} {b b' : Nat} {t t' : TypeId} {p q r x y z u : Value} {pr : Nat → Prop} (h0 : Blk3 W b t p q r) (h1 : Blk4 W b' t' x y z u) (hg : FrS pr W w') (hb : ¬ pr b) (hb' : ¬ pr b') :
    w'.cell? ⟨b, 0, none⟩ = some p ∧ w'.cell? ⟨b, 1, none⟩ = some q ∧ w'.cell? ⟨b, 2, none⟩ = some r ∧ w'.cell? ⟨b', 0, none⟩ = some x ∧ w'.cell? ⟨b', 1, none⟩ = some y ∧ w'.cell? ⟨b', 2, none⟩ = some z ∧ w'.cell? ⟨b', 3, none⟩ = some u := by
  have k1 : Blk4 w' b' t' x y z u := (hg.block b' h1.lt hb').trans h1
  exact ⟨(h0.frs hg hb).cell0, (h0.frs hg hb).cell1, (h0.frs hg hb).cell2, k1.cell0, k1.cell1, k1.cell2, k1.cell3⟩
/-- Ints in a block whose size is known. -/
def IntsZ (S : Nat) (w : World) (g : Nat) (zs : List Int) : Prop := Ints w g zs ∧ ∃ (cur : Array Value) (t : TypeId) (f : Nat × Nat), w.heap[g]? = some (.cells cur t f) ∧ cur.size = S
theorem IntsZ.of {w : World} {g : Nat} {zs : List Int} (h : Ints w g zs) : ∃ S, IntsZ S w g zs := by
  obtain ⟨rest, e⟩ := id h
  exact ⟨_, h, _, _, _, e, rfl⟩
theorem IntsZ.move {S : Nat} {w w' : World} {g : Nat} {zs : List Int} (h : IntsZ S w g zs) (e : w'.heap[g]? = w.heap[g]?) : IntsZ S w' g zs := by
  obtain ⟨h1, cur, t, f, h2, h3⟩ := h
  exact ⟨h1.move e, cur, t, f, e.trans h2, h3⟩
theorem IntsZ.lt {S : Nat} {w : World} {g : Nat} {zs : List Int} (h : IntsZ S w g zs) : g < w.heap.size := h.1.lt
theorem IntsZ.cell {S : Nat} {w : World} {g : Nat} {zs : List Int} (h : IntsZ S w g zs) {i : Nat} (hi : i < zs.length) : w.cell? ⟨g, i, none⟩ = some (.int .i64 (zs.getD i 0)) := h.1.cell hi
theorem IntsZ.free {S : Nat} {w : World} {g : Nat} {zs : List Int} (h : IntsZ S w g zs) (i : Nat) : w.frozen? ⟨g, i, none⟩ = false := h.1.free i
theorem IntsZ.drew {S : Nat} {w : World} {g : Nat} {zs : List Int} (h : IntsZ S w g zs) : IntsZ S w.drew g zs := h
theorem IntsZ.old {S : Nat} {w : World} {g : Nat} {zs : List Int} (h : IntsZ S w g zs) (o : Obj) : IntsZ S (w.alloc o) g zs := h.move (Below.heap_alloc w o g h.lt)
theorem IntsZ.set {S : Nat} {w : World} {g : Nat} {zs : List Int} (h : IntsZ S w g zs) (i : Nat) (z : Int) : IntsZ S (w.setCell ⟨g, i, none⟩ (.int .i64 z)) g (zs.set i z) := by
  obtain ⟨h1, cur, t, f, h2, h3⟩ := h
  refine ⟨h1.set i z, cur.setIfInBounds i (.int .i64 z), t, f, ?_, by simp [h3]⟩
  obtain ⟨hlt, hget⟩ := Array.getElem?_eq_some_iff.mp h2
  simp [World.setCell, hlt, Array.getElem_modify, hget]
theorem IntsC.z {w : World} {g cap : Nat} {zs : List Int} (h : IntsC w g cap zs) : IntsZ cap w g zs := by
  obtain ⟨-, rest, hl, e⟩ := id h
  exact ⟨h.ints, _, _, _, e, by simp; omega⟩
theorem IntsZ.c {w : World} {g cap : Nat} {zs : List Int} (h : IntsZ cap w g zs) (hc : cap ≤ maxLen) : IntsC w g cap zs := by
  obtain ⟨⟨rest, e⟩, cur, t, f, h2, h3⟩ := h
  rw [e] at h2
  simp only [Option.some.injEq, Obj.cells.injEq] at h2
  refine ⟨hc, rest, ?_, e⟩
  rw [← h3, ← h2.1]
  simp
set_option maxRecDepth 100000 in
set_option maxHeartbeats 4000000 in
theorem sDoZ (S R C Iq J g n cap : Nat) (k t : Int) (xs : List Int) (w : World) (hi : IntsZ S w g xs) (hx : xs.length = n) (hn : n = R * C) (hR : R ≤ 24) (hC : C ≤ 24) (hI : Iq < R) (hJ : J < R) (hk : k = 0 ∨ k = 1 ∨ k = 2) (hIJ : k = 0 → Iq ≠ J) :
    Calls Try.prog 105 #[.agg #[.int .i64 R, .int .i64 C, .slice (some ⟨g, 0, none⟩) n cap], .agg #[.int .i64 k, .int .i64 Iq, .int .i64 J, .int .i64 t]] w (fun e w' => Void e ∧ IntsZ S w' g (opL k Iq J t C xs) ∧ w.grownBy w' (some g)) := by
  have hle : R * C ≤ 24 * 24 := Nat.mul_le_mul hR hC
  have I0 := Lib.hid hi
  have HX := Lib.hid hx
  have HN := Lib.hid hn
  have HIJ := Lib.hid hIJ
  have gl := hi.lt
  rw [← hn] at hle
  have K0 : Hid (Blk3 ((w.alloc (.cells #[.int .i64 R, .int .i64 C, .slice (some ⟨g, 0, none⟩) n cap] 34)).alloc (.cells #[.int .i64 k, .int .i64 Iq, .int .i64 J, .int .i64 t] 112)) w.heap.size 34 (.int .i64 R) (.int .i64 C) (.slice (some ⟨g, 0, none⟩) n cap)) := (Blk3.at_ _ _ _ _ rfl).old _
  have K1 : Hid (Blk4 ((w.alloc (.cells #[.int .i64 R, .int .i64 C, .slice (some ⟨g, 0, none⟩) n cap] 34)).alloc (.cells #[.int .i64 k, .int .i64 Iq, .int .i64 J, .int .i64 t] 112)) (w.heap.size + 1) 112 (.int .i64 k) (.int .i64 Iq) (.int .i64 J) (.int .i64 t)) := Blk4.at_ _ _ _ _ _ (by simp)
  have I1 : Hid (IntsZ S ((w.alloc (.cells #[.int .i64 R, .int .i64 C, .slice (some ⟨g, 0, none⟩) n cap] 34)).alloc (.cells #[.int .i64 k, .int .i64 Iq, .int .i64 J, .int .i64 t] 112)) g xs) := (hi.old _).old _
  have G0 : Hid (w.grownBy ((w.alloc (.cells #[.int .i64 R, .int .i64 C, .slice (some ⟨g, 0, none⟩) n cap] 34)).alloc (.cells #[.int .i64 k, .int .i64 Iq, .int .i64 J, .int .i64 t] 112)) (some g)) := (World.grownBy_alloc w _ _).trans (World.grownBy_alloc _ _ _)
  clear hi hx hn hIJ
  go_enter Try.func105, Try.ntmps105
  go_wp2_with fail
  go_loopw [4, 5, 6] (fun i _ _ wr => ∃ q : Nat, i = .int .i64 q ∧ q ≤ C ∧ IntsZ S wr g (opTo k Iq J t C xs q) ∧ ((w.alloc (.cells #[.int .i64 R, .int .i64 C, .slice (some ⟨g, 0, none⟩) n cap] 34)).alloc (.cells #[.int .i64 k, .int .i64 Iq, .int .i64 J, .int .i64 t] 112)).grownBy wr (some g)) (fun i _ _ _ => C - (intOf i).toNat)
  case atStart => exact ⟨0, rfl, by omega, by rw [opTo_zero]; exact I1.out, World.grownBy.refl _ _⟩
  case round =>
    obtain ⟨q, rfl, hq, hi, hgr⟩ := hrel
    have I := Lib.hid hi
    have G := Lib.hid hgr
    have GW := Lib.hid (G0.out.trans hgr)
    clear hi hgr
    have R0 := Lib.hid (K0.out.keepOne G.out (by omega))
    have R1 := Lib.hid (K1.out.keepOne G.out (by omega))
    obtain ⟨r0, r1, r2, -, -, -⟩ := R0.out.all
    obtain ⟨o0, o1, o2, o3⟩ := R1.out.all
    by_cases hlt : q < C
    · have a1 : Iq * C + q < n := by rw [HN.out]; exact idx_lt hI hlt
      have a2 : J * C + q < n := by rw [HN.out]; exact idx_lt hJ hlt
      have c1 : (Iq : Int) * (C : Int) = ((Iq * C : Nat) : Int) := (Int.natCast_mul _ _).symm
      have c2 : (J : Int) * (C : Int) = ((J * C : Nat) : Int) := (Int.natCast_mul _ _).symm
      have d1 : 0 ≤ (Iq : Int) * (C : Int) ∧ (Iq : Int) * (C : Int) ≤ 600 := by rw [c1]; omega
      have d2 : 0 ≤ (J : Int) * (C : Int) ∧ (J : Int) * (C : Int) ≤ 600 := by rw [c2]; omega
      have e1 : 0 ≤ (Iq : Int) * (C : Int) + (q : Int) := by omega
      have e2 : (Iq : Int) * (C : Int) + (q : Int) < (n : Int) := by rw [c1]; omega
      have e3 : ((Iq : Int) * (C : Int) + (q : Int)).toNat = Iq * C + q := by rw [c1]; omega
      have f1 : 0 ≤ (J : Int) * (C : Int) + (q : Int) := by omega
      have f2 : (J : Int) * (C : Int) + (q : Int) < (n : Int) := by rw [c2]; omega
      have f3 : ((J : Int) * (C : Int) + (q : Int)).toNat = J * C + q := by rw [c2]; omega
      obtain ⟨d11, d12⟩ := d1
      obtain ⟨d21, d22⟩ := d2
      have v1 : IntKind.i64.wrap ((Iq : Int) * (C : Int)) = (Iq : Int) * (C : Int) := IntWalk.i64_in _ (by omega)
      have v2 : IntKind.i64.wrap ((Iq : Int) * (C : Int) + (q : Int)) = (Iq : Int) * (C : Int) + (q : Int) := IntWalk.i64_in _ (by omega)
      have v3 : IntKind.i64.wrap ((J : Int) * (C : Int)) = (J : Int) * (C : Int) := IntWalk.i64_in _ (by omega)
      have v4 : IntKind.i64.wrap ((J : Int) * (C : Int) + (q : Int)) = (J : Int) * (C : Int) + (q : Int) := IntWalk.i64_in _ (by omega)
      have h1 := I.out.cell (i := Iq * C + q) (by rw [opTo_length, HX.out]; exact a1)
      have h2 := I.out.cell (i := J * C + q) (by rw [opTo_length, HX.out]; exact a2)
      rw [opTo_at _ _ _ _ _ _ _ _ hlt (by rw [HX.out]; exact a1)] at h1
      rw [opTo_at _ _ _ _ _ _ _ _ hlt (by rw [HX.out]; exact a2)] at h2
      have fr1 := I.out.free (Iq * C + q)
      have fr2 := I.out.free (J * C + q)
      have hlen : xs.length = R * C := by rw [HX.out, HN.out]
      obtain ⟨x, hxx⟩ : ∃ x, xs.getD (Iq * C + q) 0 = x := ⟨_, rfl⟩
      obtain ⟨y, hyy⟩ : ∃ y, xs.getD (J * C + q) 0 = y := ⟨_, rfl⟩
      have s0 := op_swap Iq J t C R xs q hlen hI hJ hlt
      have s1 := op_one 1 Iq J t C R xs q (mulB x (-1)) hlen hI hlt (.inl rfl) (by rw [opAt_one _ _ _ _ _ hlt, hxx])
      have s2 := op_one 2 Iq J t C R xs q (addB x (mulB y t)) hlen hI hlt (.inr rfl) (by rw [opAt_two _ _ _ _ _ hlt, hxx, hyy])
      rw [hxx, hyy] at s0
      rw [hxx] at h1
      rw [hyy] at h2
      have S0 := Lib.hid s0
      have S1 := Lib.hid s1
      have S2 := Lib.hid s2
      have A1 := Lib.hid a1
      have A2 := Lib.hid a2
      clear c1 c2 hxx hyy s0 s1 s2 hlen a1 a2
      rcases hk with e0 | e0 | e0
      · have n0 : (k == 0) = true := by simpa using e0
        have n1 : (k == 1) = false := by rw [e0]; rfl
        have KE := Lib.hid e0
        clear e0
        have IS := I.out.set (Iq * C + q) y
        have fr2 := IS.free (J * C + q)
        have hold := IS.cell (i := J * C + q) (by rw [List.length_set, opTo_length, HX.out]; exact A2.out)
        have rr0 : Blk3 (wr.setCell ⟨g, Iq * C + q, none⟩ (.int .i64 y)) w.heap.size 34 (.int .i64 R) (.int .i64 C) (.slice (some ⟨g, 0, none⟩) n cap) := R0.out.far (by simp; omega) _
        have rr1 : Blk4 (wr.setCell ⟨g, Iq * C + q, none⟩ (.int .i64 y)) (w.heap.size + 1) 112 (.int .i64 k) (.int .i64 Iq) (.int .i64 J) (.int .i64 t) := (Below.heap_setCell wr ⟨g, Iq * C + q, none⟩ (.int .i64 y) (w.heap.size + 1) (by simp; omega)).trans R1.out
        obtain ⟨z0, z1, z2, -, -, -⟩ := rr0.all
        obtain ⟨y0, y1, y2, y3⟩ := rr1.all
        have IS2 := Lib.hid (IS.set (J * C + q) x)
        clear IS rr0 rr1
        go_wp2_with fail
        go_roundw
        case rel =>
          refine ⟨q + 1, by go_num, by omega, ?_, ?_⟩
          · have := S0.out
            rcases this with h | h
            · have z := IS2.out; rw [KE.out] at z ⊢; rw [← h]; exact z
            · exact absurd h (HIJ.out KE.out)
          · exact grown_set_one (a := ⟨g, J * C + q, none⟩) (grown_set_one (a := ⟨g, Iq * C + q, none⟩) G.out rfl _) rfl _
        case measure => simp [intOf]; omega
      · have n0 : (k == 0) = false := by rw [e0]; rfl
        have n1 : (k == 1) = true := by simpa using e0
        have KE := Lib.hid e0
        clear e0
        go_upto_region 12 with fail
        refine wp_region_held_drew (S := fun w' => FrS (fun k => k = g) wr w') (by kernel_rfl) (FrS.refl _ _).drew (fun hH => ?_)
        refine wpAnyH_take (i := 0) (v := ?_) (by simp only [List.getElem?_toArray, List.getElem?_cons_zero]; rfl) (by kernel_rfl) (by kernel_rfl) (by kernel_rfl) (by exact fun _ _ _ h => h) (Or.inl ⟨by rfl, ?_⟩) hH ?_
        rotate_left
        · (intro wS hS; clear hS; go_simp; try rfl)
        try simp only [Act.put, List.setIfInBounds_toArray, List.set_cons_zero, List.set_cons_succ]
        refine wpAnyH_take (i := 1) (v := ?_) (by simp only [List.getElem?_toArray, List.getElem?_cons_succ, List.getElem?_cons_zero]; rfl) (by kernel_rfl) (by kernel_rfl) (by kernel_rfl) (by exact fun _ _ _ h => h) (Or.inl ⟨by rfl, ?_⟩) hH ?_
        rotate_left
        · (intro wS hS; (try dsimp only at hS); obtain ⟨k1, k2, k3, k4, k5, k6, k7⟩ := tenF R0.out R1.out hS (by omega) (by omega); go_simp; try rfl)
        try simp only [Act.put, List.setIfInBounds_toArray, List.set_cons_zero, List.set_cons_succ]
        refine wpAnyH_take (i := 2) (v := ?_) (by simp only [List.getElem?_toArray, List.getElem?_cons_succ, List.getElem?_cons_zero]; rfl) (by kernel_rfl) (by kernel_rfl) (by kernel_rfl) (by exact fun _ _ _ h => h) (Or.inl ⟨by rfl, ?_⟩) hH ?_
        rotate_left
        · (intro wS hS; clear hS; go_simp; try rfl)
        try simp only [Act.put, List.setIfInBounds_toArray, List.set_cons_zero, List.set_cons_succ]
        refine wpAnyH_take (i := 3) (v := ?_) (by simp only [List.getElem?_toArray, List.getElem?_cons_succ, List.getElem?_cons_zero]; rfl) (by kernel_rfl) (by kernel_rfl) (by kernel_rfl) (by exact fun _ _ _ h => h) (Or.inl ⟨by rfl, ?_⟩) hH ?_
        rotate_left
        · (intro wS hS; (try dsimp only at hS); obtain ⟨k1, k2, k3, k4, k5, k6, k7⟩ := tenF R0.out R1.out hS (by omega) (by omega); go_simp; try rfl)
        try simp only [Act.put, List.setIfInBounds_toArray, List.set_cons_zero, List.set_cons_succ]
        refine wpAnyH_take (i := 4) (v := ?_) (by simp only [List.getElem?_toArray, List.getElem?_cons_succ, List.getElem?_cons_zero]; rfl) (by kernel_rfl) (by kernel_rfl) (by kernel_rfl) (by exact fun _ _ _ h => h) (Or.inl ⟨by rfl, ?_⟩) hH ?_
        rotate_left
        · (intro wS hS; clear hS; go_simp; try rfl)
        try simp only [Act.put, List.setIfInBounds_toArray, List.set_cons_zero, List.set_cons_succ]
        refine wpAnyH_take (i := 5) (v := ?_) (by simp only [List.getElem?_toArray, List.getElem?_cons_succ, List.getElem?_cons_zero]; rfl) (by kernel_rfl) (by kernel_rfl) (by kernel_rfl) (by exact fun _ _ _ h => h) (Or.inl ⟨by rfl, ?_⟩) hH ?_
        rotate_left
        · (intro wS hS; (try dsimp only at hS); obtain ⟨k1, k2, k3, k4, k5, k6, k7⟩ := tenF R0.out R1.out hS (by omega) (by omega); go_simp; try rfl)
        try simp only [Act.put, List.setIfInBounds_toArray, List.set_cons_zero, List.set_cons_succ]
        refine wpAnyH_take (i := 6) (v := ?_) (by simp only [List.getElem?_toArray, List.getElem?_cons_succ, List.getElem?_cons_zero]; rfl) (by kernel_rfl) (by kernel_rfl) (by kernel_rfl) (by exact fun _ _ _ h => h) (Or.inl ⟨by rfl, ?_⟩) hH ?_
        rotate_left
        · (intro wS hS; clear hS; go_simp; try rfl)
        try simp only [Act.put, List.setIfInBounds_toArray, List.set_cons_zero, List.set_cons_succ]
        refine wpAnyH_take (i := 7) (v := ?_) (by simp only [List.getElem?_toArray, List.getElem?_cons_succ, List.getElem?_cons_zero]; rfl) (by kernel_rfl) (by kernel_rfl) (by kernel_rfl) (by exact fun _ _ _ h => h) (Or.inl ⟨by rfl, ?_⟩) hH ?_
        rotate_left
        · (intro wS hS; clear hS; go_simp; try rfl)
        try simp only [Act.put, List.setIfInBounds_toArray, List.set_cons_zero, List.set_cons_succ]
        refine wpAnyH_take (i := 8) (v := ?_) (by simp only [List.getElem?_toArray, List.getElem?_cons_succ, List.getElem?_cons_zero]; rfl) (by kernel_rfl) (by kernel_rfl) (by kernel_rfl) (by exact fun _ _ _ h => h) (Or.inl ⟨by rfl, ?_⟩) hH ?_
        rotate_left
        · (intro wS hS; clear hS; go_simp; try rfl)
        try simp only [Act.put, List.setIfInBounds_toArray, List.set_cons_zero, List.set_cons_succ]
        refine wpAnyH_take (i := 9) (v := ?_) (by simp only [List.getElem?_toArray, List.getElem?_cons_succ, List.getElem?_cons_zero]; rfl) (by kernel_rfl) (by kernel_rfl) (by kernel_rfl) (by exact fun _ _ _ h => h) (Or.inl ⟨by rfl, ?_⟩) hH ?_
        rotate_left
        · (intro wS hS; clear hS; go_simp; try rfl)
        try simp only [Act.put, List.setIfInBounds_toArray, List.set_cons_zero, List.set_cons_succ]
        refine wpAnyH_ready (rs := [10]) (by kernel_rfl) (by simp) ?_
        refine AllReadyH.cons (by simp only [List.getElem?_toArray, List.getElem?_cons_succ, List.getElem?_cons_zero]; rfl) (fun KK hKK => ?_) AllReadyH.nil
        go_simp
        refine (sMulB x (-1) _).mono ?_
        rintro e w' ⟨rfl, rfl⟩
        try dsimp only
        refine hKK.out _ _ ?_ (fun hH2 => ?_)
        · exact (FrS.refl _ wr).drew
        clear hKK KK
        have hO := hH
        clear hH
        have hH := hH2
        clear hH2
        try simp only [Act.put, List.setIfInBounds_toArray, List.set_cons_zero, List.set_cons_succ]
        refine wpAnyH_take (i := 11) (v := ?_) (by simp only [List.getElem?_toArray, List.getElem?_cons_succ, List.getElem?_cons_zero]; rfl) (by kernel_rfl) (by kernel_rfl) (by kernel_rfl) (by exact fun _ _ _ h => h) (Or.inl ⟨by rfl, ?_⟩) hH ?_
        rotate_left
        · (intro wS hS; clear hS; go_simp; try rfl)
        try simp only [Act.put, List.setIfInBounds_toArray, List.set_cons_zero, List.set_cons_succ]
        have IX := Lib.hid (I.out.set (Iq * C + q) (mulB x (-1))).drew
        refine wpAnyH_ready (rs := [12]) (by kernel_rfl) (by simp) ?_
        refine AllReadyH.cons (by simp only [List.getElem?_toArray, List.getElem?_cons_succ, List.getElem?_cons_zero]; rfl) (fun KK hKK => ?_) AllReadyH.nil
        go_simp
        try dsimp only
        refine hKK.out _ _ ?_ (fun hH2 => ?_)
        · exact ((FrS.refl (fun k => k = g) wr).set (a := ⟨g, Iq * C + q, none⟩) (.inl rfl) _).drew
        clear hKK KK
        have hO := hH
        clear hH
        have hH := hH2
        clear hH2
        try simp only [Act.put, List.setIfInBounds_toArray, List.set_cons_zero, List.set_cons_succ]
        refine wpAnyH_done (by kernel_rfl) ?_ _
        go_wp2_with fail
        go_roundw
        case rel => exact ⟨q + 1, by go_num, by omega, by have z := IX.out; rw [KE.out] at z ⊢; rw [← S1.out]; exact z, grown_drew_one (grown_set_one (a := ⟨g, Iq * C + q, none⟩) G.out rfl _)⟩
        case measure => simp [intOf]; omega
      · have n0 : (k == 0) = false := by rw [e0]; rfl
        have n1 : (k == 1) = false := by rw [e0]; rfl
        have KE := Lib.hid e0
        clear e0
        go_upto_region 7 with fail
        refine wp_region_held_drew (S := fun w' => FrS (fun k => k = g) wr w') (by kernel_rfl) (FrS.refl _ _).drew (fun hH => ?_)
        refine wpAnyH_take (i := 0) (v := ?_) (by simp only [List.getElem?_toArray, List.getElem?_cons_zero]; rfl) (by kernel_rfl) (by kernel_rfl) (by kernel_rfl) (by exact fun _ _ _ h => h) (Or.inl ⟨by rfl, ?_⟩) hH ?_
        rotate_left
        · (intro wS hS; clear hS; go_simp; try rfl)
        try simp only [Act.put, List.setIfInBounds_toArray, List.set_cons_zero, List.set_cons_succ]
        refine wpAnyH_take (i := 1) (v := ?_) (by simp only [List.getElem?_toArray, List.getElem?_cons_succ, List.getElem?_cons_zero]; rfl) (by kernel_rfl) (by kernel_rfl) (by kernel_rfl) (by exact fun _ _ _ h => h) (Or.inl ⟨by rfl, ?_⟩) hH ?_
        rotate_left
        · (intro wS hS; (try dsimp only at hS); obtain ⟨k1, k2, k3, k4, k5, k6, k7⟩ := tenF R0.out R1.out hS (by omega) (by omega); go_simp; try rfl)
        try simp only [Act.put, List.setIfInBounds_toArray, List.set_cons_zero, List.set_cons_succ]
        refine wpAnyH_take (i := 2) (v := ?_) (by simp only [List.getElem?_toArray, List.getElem?_cons_succ, List.getElem?_cons_zero]; rfl) (by kernel_rfl) (by kernel_rfl) (by kernel_rfl) (by exact fun _ _ _ h => h) (Or.inl ⟨by rfl, ?_⟩) hH ?_
        rotate_left
        · (intro wS hS; clear hS; go_simp; try rfl)
        try simp only [Act.put, List.setIfInBounds_toArray, List.set_cons_zero, List.set_cons_succ]
        refine wpAnyH_take (i := 3) (v := ?_) (by simp only [List.getElem?_toArray, List.getElem?_cons_succ, List.getElem?_cons_zero]; rfl) (by kernel_rfl) (by kernel_rfl) (by kernel_rfl) (by exact fun _ _ _ h => h) (Or.inl ⟨by rfl, ?_⟩) hH ?_
        rotate_left
        · (intro wS hS; (try dsimp only at hS); obtain ⟨k1, k2, k3, k4, k5, k6, k7⟩ := tenF R0.out R1.out hS (by omega) (by omega); go_simp; try rfl)
        try simp only [Act.put, List.setIfInBounds_toArray, List.set_cons_zero, List.set_cons_succ]
        refine wpAnyH_take (i := 4) (v := ?_) (by simp only [List.getElem?_toArray, List.getElem?_cons_succ, List.getElem?_cons_zero]; rfl) (by kernel_rfl) (by kernel_rfl) (by kernel_rfl) (by exact fun _ _ _ h => h) (Or.inl ⟨by rfl, ?_⟩) hH ?_
        rotate_left
        · (intro wS hS; clear hS; go_simp; try rfl)
        try simp only [Act.put, List.setIfInBounds_toArray, List.set_cons_zero, List.set_cons_succ]
        refine wpAnyH_take (i := 5) (v := ?_) (by simp only [List.getElem?_toArray, List.getElem?_cons_succ, List.getElem?_cons_zero]; rfl) (by kernel_rfl) (by kernel_rfl) (by kernel_rfl) (by exact fun _ _ _ h => h) (Or.inl ⟨by rfl, ?_⟩) hH ?_
        rotate_left
        · (intro wS hS; (try dsimp only at hS); obtain ⟨k1, k2, k3, k4, k5, k6, k7⟩ := tenF R0.out R1.out hS (by omega) (by omega); go_simp; try rfl)
        try simp only [Act.put, List.setIfInBounds_toArray, List.set_cons_zero, List.set_cons_succ]
        refine wpAnyH_take (i := 6) (v := ?_) (by simp only [List.getElem?_toArray, List.getElem?_cons_succ, List.getElem?_cons_zero]; rfl) (by kernel_rfl) (by kernel_rfl) (by kernel_rfl) (by exact fun _ _ _ h => h) (Or.inl ⟨by rfl, ?_⟩) hH ?_
        rotate_left
        · (intro wS hS; clear hS; go_simp; try rfl)
        try simp only [Act.put, List.setIfInBounds_toArray, List.set_cons_zero, List.set_cons_succ]
        refine wpAnyH_take (i := 7) (v := ?_) (by simp only [List.getElem?_toArray, List.getElem?_cons_succ, List.getElem?_cons_zero]; rfl) (by kernel_rfl) (by kernel_rfl) (by kernel_rfl) (by exact fun _ _ _ h => h) (Or.inl ⟨by rfl, ?_⟩) hH ?_
        rotate_left
        · (intro wS hS; clear hS; go_simp; try rfl)
        try simp only [Act.put, List.setIfInBounds_toArray, List.set_cons_zero, List.set_cons_succ]
        refine wpAnyH_take (i := 8) (v := ?_) (by simp only [List.getElem?_toArray, List.getElem?_cons_succ, List.getElem?_cons_zero]; rfl) (by kernel_rfl) (by kernel_rfl) (by kernel_rfl) (by exact fun _ _ _ h => h) (Or.inl ⟨by rfl, ?_⟩) hH ?_
        rotate_left
        · (intro wS hS; clear hS; go_simp; try rfl)
        try simp only [Act.put, List.setIfInBounds_toArray, List.set_cons_zero, List.set_cons_succ]
        refine wpAnyH_take (i := 9) (v := ?_) (by simp only [List.getElem?_toArray, List.getElem?_cons_succ, List.getElem?_cons_zero]; rfl) (by kernel_rfl) (by kernel_rfl) (by kernel_rfl) (by exact fun _ _ _ h => h) (Or.inl ⟨by rfl, ?_⟩) hH ?_
        rotate_left
        · (intro wS hS; clear hS; go_simp; try rfl)
        try simp only [Act.put, List.setIfInBounds_toArray, List.set_cons_zero, List.set_cons_succ]
        refine wpAnyH_take (i := 10) (v := ?_) (by simp only [List.getElem?_toArray, List.getElem?_cons_succ, List.getElem?_cons_zero]; rfl) (by kernel_rfl) (by kernel_rfl) (by kernel_rfl) (by exact fun _ _ _ h => h) (Or.inl ⟨by rfl, ?_⟩) hH ?_
        rotate_left
        · (intro wS hS; clear hS; go_simp; try rfl)
        try simp only [Act.put, List.setIfInBounds_toArray, List.set_cons_zero, List.set_cons_succ]
        refine wpAnyH_take (i := 11) (v := ?_) (by simp only [List.getElem?_toArray, List.getElem?_cons_succ, List.getElem?_cons_zero]; rfl) (by kernel_rfl) (by kernel_rfl) (by kernel_rfl) (by exact fun _ _ _ h => h) (Or.inl ⟨by rfl, ?_⟩) hH ?_
        rotate_left
        · (intro wS hS; clear hS; go_simp; try rfl)
        try simp only [Act.put, List.setIfInBounds_toArray, List.set_cons_zero, List.set_cons_succ]
        refine wpAnyH_take (i := 12) (v := ?_) (by simp only [List.getElem?_toArray, List.getElem?_cons_succ, List.getElem?_cons_zero]; rfl) (by kernel_rfl) (by kernel_rfl) (by kernel_rfl) (by exact fun _ _ _ h => h) (Or.inl ⟨by rfl, ?_⟩) hH ?_
        rotate_left
        · (intro wS hS; (try dsimp only at hS); obtain ⟨k1, k2, k3, k4, k5, k6, k7⟩ := tenF R0.out R1.out hS (by omega) (by omega); go_simp; try rfl)
        try simp only [Act.put, List.setIfInBounds_toArray, List.set_cons_zero, List.set_cons_succ]
        refine wpAnyH_ready (rs := [13]) (by kernel_rfl) (by simp) ?_
        refine AllReadyH.cons (by simp only [List.getElem?_toArray, List.getElem?_cons_succ, List.getElem?_cons_zero]; rfl) (fun KK hKK => ?_) AllReadyH.nil
        go_simp
        refine (sMulB y t _).mono ?_
        rintro e w' ⟨rfl, rfl⟩
        try dsimp only
        refine hKK.out _ _ ?_ (fun hH2 => ?_)
        · exact (FrS.refl _ wr).drew
        clear hKK KK
        have hO := hH
        clear hH
        have hH := hH2
        clear hH2
        try simp only [Act.put, List.setIfInBounds_toArray, List.set_cons_zero, List.set_cons_succ]
        refine wpAnyH_ready (rs := [14]) (by kernel_rfl) (by simp) ?_
        refine AllReadyH.cons (by simp only [List.getElem?_toArray, List.getElem?_cons_succ, List.getElem?_cons_zero]; rfl) (fun KK hKK => ?_) AllReadyH.nil
        go_simp
        refine (sAddB x _ _).mono ?_
        rintro e w' ⟨rfl, rfl⟩
        try dsimp only
        refine hKK.out _ _ ?_ (fun hH2 => ?_)
        · exact (FrS.refl _ wr).drew
        clear hKK KK
        have hO := hH
        clear hH
        have hH := hH2
        clear hH2
        try simp only [Act.put, List.setIfInBounds_toArray, List.set_cons_zero, List.set_cons_succ]
        refine wpAnyH_take (i := 15) (v := ?_) (by simp only [List.getElem?_toArray, List.getElem?_cons_succ, List.getElem?_cons_zero]; rfl) (by kernel_rfl) (by kernel_rfl) (by kernel_rfl) (by exact fun _ _ _ h => h) (Or.inl ⟨by rfl, ?_⟩) hH ?_
        rotate_left
        · (intro wS hS; clear hS; go_simp; try rfl)
        try simp only [Act.put, List.setIfInBounds_toArray, List.set_cons_zero, List.set_cons_succ]
        have IX := Lib.hid (I.out.set (Iq * C + q) (addB x (mulB y t))).drew
        refine wpAnyH_ready (rs := [16]) (by kernel_rfl) (by simp) ?_
        refine AllReadyH.cons (by simp only [List.getElem?_toArray, List.getElem?_cons_succ, List.getElem?_cons_zero]; rfl) (fun KK hKK => ?_) AllReadyH.nil
        go_simp
        try dsimp only
        refine hKK.out _ _ ?_ (fun hH2 => ?_)
        · exact ((FrS.refl (fun k => k = g) wr).set (a := ⟨g, Iq * C + q, none⟩) (.inl rfl) _).drew
        clear hKK KK
        have hO := hH
        clear hH
        have hH := hH2
        clear hH2
        try simp only [Act.put, List.setIfInBounds_toArray, List.set_cons_zero, List.set_cons_succ]
        refine wpAnyH_done (by kernel_rfl) ?_ _
        go_wp2_with fail
        go_roundw
        case rel => exact ⟨q + 1, by go_num, by omega, by have z := IX.out; rw [KE.out] at z ⊢; rw [← S2.out]; exact z, grown_drew_one (grown_set_one (a := ⟨g, Iq * C + q, none⟩) G.out rfl _)⟩
        case measure => simp [intOf]; omega
    · have hq2 : decide (q < C) = false := by simpa using hlt
      have hqC : q = C := by omega
      have EQ : Hid (opTo k Iq J t C xs q = opL k Iq J t C xs) := by
        show opTo k Iq J t C xs q = opL k Iq J t C xs
        rw [hqC]
        refine opTo_all _ _ _ _ _ _ ?_
        rcases Nat.eq_zero_or_pos C with e | e
        · left; rw [HX.out, HN.out, e, Nat.mul_zero]
        · exact .inr e
      clear hqC
      go_wp2_with fail
      have II : IntsZ S wr g (opL k Iq J t C xs) := by rw [← EQ.out]; exact I.out
      go_end0
      exact ⟨rfl, II, GW.out⟩
theorem sDo (R C Iq J g n cap : Nat) (k t : Int) (xs : List Int) (w : World) (hi : Ints w g xs) (hx : xs.length = n) (hn : n = R * C) (hR : R ≤ 24) (hC : C ≤ 24) (hI : Iq < R) (hJ : J < R) (hk : k = 0 ∨ k = 1 ∨ k = 2) (hIJ : k = 0 → Iq ≠ J) :
    Calls Try.prog 105 #[.agg #[.int .i64 R, .int .i64 C, .slice (some ⟨g, 0, none⟩) n cap], .agg #[.int .i64 k, .int .i64 Iq, .int .i64 J, .int .i64 t]] w (fun e w' => Void e ∧ Ints w' g (opL k Iq J t C xs) ∧ w.grownBy w' (some g)) := by
  obtain ⟨S, h⟩ := IntsZ.of hi
  exact (sDoZ S R C Iq J g n cap k t xs w h hx hn hR hC hI hJ hk hIJ).mono fun _ _ ⟨h1, h2, h3⟩ => ⟨h1, h2.1, h3⟩
theorem sDoC (R C Iq J g n cap : Nat) (k t : Int) (xs : List Int) (w : World) (hi : IntsC w g cap xs) (hx : xs.length = n) (hn : n = R * C) (hR : R ≤ 24) (hC : C ≤ 24) (hI : Iq < R) (hJ : J < R) (hk : k = 0 ∨ k = 1 ∨ k = 2) (hIJ : k = 0 → Iq ≠ J) :
    Calls Try.prog 105 #[.agg #[.int .i64 R, .int .i64 C, .slice (some ⟨g, 0, none⟩) n cap], .agg #[.int .i64 k, .int .i64 Iq, .int .i64 J, .int .i64 t]] w (fun e w' => Void e ∧ IntsC w' g cap (opL k Iq J t C xs) ∧ w.grownBy w' (some g)) :=
  (sDoZ cap R C Iq J g n cap k t xs w hi.z hx hn hR hC hI hJ hk hIJ).mono fun _ _ ⟨h1, h2, h3⟩ => ⟨h1, h2.c hi.1, h3⟩
end Go.Proofs.Ytgemkfcapkfdbaa
end

section
/-
  Chapter 5, in the model: a copy of a matrix without cells.
-/
namespace Go.Proofs.Ytgemkfcapkfdbaa
set_option maxRecDepth 100000
open Go.RowKit

theorem appendNil (w : World) (g c : Nat) : (Builtin.append_ #[24, 24] 24 #[.slice (some ⟨g, 0, none⟩) 0 0, .slice none 0 c]).run Try.prog w = .ok (.slice (some ⟨g, 0, none⟩) 0 0) w := by
  obtain ⟨fi, hfi, hz0, hz1, hz2⟩ := facts_int
  simp [Builtin.append_, go_sem, Builtin.lenOf, Builtin.firstCells, storeCells]
set_option maxHeartbeats 1000000 in
theorem sCopyN (r c : Int) (m : Nat) (w : World) :
    Calls Try.prog 104 #[.agg #[.int .i64 r, .int .i64 c, .slice none 0 m]] w (fun e w' => ∃ g cap : Nat, e = .returned (.agg #[.int .i64 r, .int .i64 c, .slice (some ⟨g, 0, none⟩) 0 cap]) ∧ w.heap.size ≤ g ∧ IntsC w' g cap [] ∧ Below w.heap.size w w') := by
  have BH : Hid (Below w.heap.size w ((w.alloc (.cells #[.int .i64 r, .int .i64 c, .slice none 0 m] 34)).alloc (.cells #[.int .i64 0, .int .i64 0, .slice none 0 0] 34))) := ((Below.refl _ _).alloc (Nat.le_refl _) _).alloc (by simp) _
  have K0 : Hid (Blk3 ((w.alloc (.cells #[.int .i64 r, .int .i64 c, .slice none 0 m] 34)).alloc (.cells #[.int .i64 0, .int .i64 0, .slice none 0 0] 34)) w.heap.size 34 (.int .i64 r) (.int .i64 c) (.slice none 0 m)) := (Blk3.at_ _ _ _ _ rfl).old _
  have K2 : Hid (Blk3 ((w.alloc (.cells #[.int .i64 r, .int .i64 c, .slice none 0 m] 34)).alloc (.cells #[.int .i64 0, .int .i64 0, .slice none 0 0] 34)) (w.heap.size + 1) 34 (.int .i64 0) (.int .i64 0) (.slice none 0 0)) := Blk3.at_ _ _ _ _ (by simp)
  obtain ⟨w2, hw2⟩ : ∃ w2, (w.alloc (.cells #[.int .i64 r, .int .i64 c, .slice none 0 m] 34)).alloc (.cells #[.int .i64 0, .int .i64 0, .slice none 0 0] 34) = w2 := ⟨_, rfl⟩
  rw [hw2] at BH K0 K2
  go_enter Try.func104, Try.ntmps104
  go_wp2_with fail
  clear hw2
  refine wp_region_held_drew (S := fun w' => FrS (fun k => k = w.heap.size + 1) w2 w') (by kernel_rfl) (FrS.refl _ _).drew (fun hH => ?_)
  refine wpAnyH_take (i := 0) (v := ?_) (by simp only [List.getElem?_toArray, List.getElem?_cons_zero]; rfl) (by kernel_rfl) (by kernel_rfl) (by kernel_rfl) (by exact fun _ _ _ h => h) (Or.inl ⟨by rfl, ?_⟩) hH ?_
  rotate_left
  · (intro wS hS; clear hS; go_simp; try rfl)
  try simp only [Act.put, List.setIfInBounds_toArray, List.set_cons_zero, List.set_cons_succ]
  refine wpAnyH_take (i := 1) (v := ?_) (by simp only [List.getElem?_toArray, List.getElem?_cons_succ, List.getElem?_cons_zero]; rfl) (by kernel_rfl) (by kernel_rfl) (by kernel_rfl) (by exact fun _ _ _ h => h) (Or.inl ⟨by rfl, ?_⟩) hH ?_
  rotate_left
  · (intro wS hS; (try dsimp only at hS); obtain ⟨k1, k2, k3⟩ := sevenF K0.out hS (by omega); go_simp; try rfl)
  try simp only [Act.put, List.setIfInBounds_toArray, List.set_cons_zero, List.set_cons_succ]
  refine wpAnyH_take (i := 2) (v := ?_) (by simp only [List.getElem?_toArray, List.getElem?_cons_succ, List.getElem?_cons_zero]; rfl) (by kernel_rfl) (by kernel_rfl) (by kernel_rfl) (by exact fun _ _ _ h => h) (Or.inl ⟨by rfl, ?_⟩) hH ?_
  rotate_left
  · (intro wS hS; clear hS; go_simp; try rfl)
  try simp only [Act.put, List.setIfInBounds_toArray, List.set_cons_zero, List.set_cons_succ]
  refine wpAnyH_take (i := 3) (v := ?_) (by simp only [List.getElem?_toArray, List.getElem?_cons_succ, List.getElem?_cons_zero]; rfl) (by kernel_rfl) (by kernel_rfl) (by kernel_rfl) (by exact fun _ _ _ h => h) (Or.inl ⟨by rfl, ?_⟩) hH ?_
  rotate_left
  · (intro wS hS; (try dsimp only at hS); obtain ⟨k1, k2, k3⟩ := sevenF K0.out hS (by omega); go_simp; try rfl)
  try simp only [Act.put, List.setIfInBounds_toArray, List.set_cons_zero, List.set_cons_succ]
  refine wpAnyH_take (i := 5) (v := ?_) (by simp only [List.getElem?_toArray, List.getElem?_cons_succ, List.getElem?_cons_zero]; rfl) (by kernel_rfl) (by kernel_rfl) (by kernel_rfl) (by exact fun _ _ _ h => h) (Or.inl ⟨by rfl, ?_⟩) hH ?_
  rotate_left
  · (intro wS hS; clear hS; go_simp; try rfl)
  try simp only [Act.put, List.setIfInBounds_toArray, List.set_cons_zero, List.set_cons_succ]
  refine wpAnyH_take (i := 6) (v := ?_) (by simp only [List.getElem?_toArray, List.getElem?_cons_succ, List.getElem?_cons_zero]; rfl) (by kernel_rfl) (by kernel_rfl) (by kernel_rfl) (by exact fun _ _ _ h => h) (Or.inl ⟨by rfl, ?_⟩) hH ?_
  rotate_left
  · (intro wS hS; (try dsimp only at hS); obtain ⟨k1, k2, k3⟩ := sevenF K0.out hS (by omega); go_simp; try rfl)
  try simp only [Act.put, List.setIfInBounds_toArray, List.set_cons_zero, List.set_cons_succ]
  refine wpAnyH_ready (rs := [4]) (by kernel_rfl) (by simp) ?_
  refine AllReadyH.cons (by simp only [List.getElem?_toArray, List.getElem?_cons_succ, List.getElem?_cons_zero]; rfl) (fun KK hKK => ?_) AllReadyH.nil
  go_simp
  try dsimp only
  refine hKK.out _ _ ?_ (fun hH2 => ?_)
  · exact (((FrS.refl _ w2).alloc _).drew)
  clear hKK KK
  have hO := hH
  clear hH
  have hH := hH2
  clear hH2
  try simp only [Act.put, List.setIfInBounds_toArray, List.set_cons_zero, List.set_cons_succ]
  have own0 : ((w2.alloc (.cells #[] 3)).drew).ownsRow w2.heap.size 3 1 (.slice (some ⟨w2.heap.size, 0, none⟩) 0 0) 0 (([] : List Int).map (Value.int .i64)) := ⟨rfl, .inr ⟨w2.heap.size, 0, #[], rfl, Nat.le_refl _, heap_alloc_new w2 _, Nat.le_refl _, by decide, rfl, rfl⟩⟩
  have BA : Hid (Below w2.heap.size w2 ((w2.alloc (.cells #[] 3)).drew)) := ((Below.refl _ _).alloc (Nat.le_refl _) _).drew
  have hr1 := appendNil ((w2.alloc (.cells #[] 3)).drew) w2.heap.size m
  refine wpAnyH_ready (rs := [7]) (by kernel_rfl) (by simp) ?_
  refine AllReadyH.cons (by simp only [List.getElem?_toArray, List.getElem?_cons_succ, List.getElem?_cons_zero]; rfl) (fun KK hKK => ?_) AllReadyH.nil
  refine step_append rfl _ _ 24 rfl _ _ rfl rfl _ _ hr1 ?_
  have BA1 := BA
  try dsimp only
  refine hKK.out _ _ ?_ (fun hH2 => ?_)
  · exact FrS.of_below BA1.out
  clear hKK KK
  have hO := hH
  clear hH
  have hH := hH2
  clear hH2
  try simp only [Act.put, List.setIfInBounds_toArray, List.set_cons_zero, List.set_cons_succ]
  have O2 : Hid (OwnC w2.heap.size ((w2.alloc (.cells #[] 3)).drew) (.slice (some ⟨w2.heap.size, 0, none⟩) 0 0) []) := OwnC.of_row own0
  have O3 := O2.out
  rcases O3 with ⟨h, -⟩ | ⟨g, qc2, hv, gB, gI⟩
  · exact absurd h (by simp)
  have GB := Lib.hid gB
  have GI := Lib.hid gI
  simp only [Value.slice.injEq, Option.some.injEq, Addr.mk.injEq] at hv
  obtain ⟨⟨rfl, -, -⟩, -, rfl⟩ := hv
  clear gB gI
  obtain ⟨wa, hwa⟩ : ∃ wa, (w2.alloc (.cells #[] 3)).drew = wa := ⟨_, rfl⟩
  rw [hwa] at GI O2 BA1 own0 hr1 hH ⊢
  refine wpAnyH_take (i := 8) (v := ?_) (by simp only [List.getElem?_toArray, List.getElem?_cons_succ, List.getElem?_cons_zero]; rfl) (by kernel_rfl) (by kernel_rfl) (by kernel_rfl) (by exact fun _ _ _ h => h) (Or.inl ⟨by rfl, ?_⟩) hH ?_
  rotate_left
  · (intro wS hS; clear hS; go_simp; try rfl)
  try simp only [Act.put, List.setIfInBounds_toArray, List.set_cons_zero, List.set_cons_succ]
  have K2 := Lib.hid (K2.out.step BA1.out)
  obtain ⟨s0, s1, s2, f0, f1, f2⟩ := K2.out.all
  have gs : ∀ x y z, FrS (fun k => k = w.heap.size + 1) w2 (((wa.setCell ⟨w.heap.size + 1, 0, none⟩ x).setCell ⟨w.heap.size + 1, 1, none⟩ y).setCell ⟨w.heap.size + 1, 2, none⟩ z) := fun x y z => (FrS.of_below (p := fun k => k = w.heap.size + 1) BA1.out).set3 (b := w.heap.size + 1) (.inl rfl) x y z
  have GS := Lib.hid gs
  clear gs
  refine wpAnyH_ready (rs := [9]) (by kernel_rfl) (by simp) ?_
  refine AllReadyH.cons (by simp only [List.getElem?_toArray, List.getElem?_cons_succ, List.getElem?_cons_zero]; rfl) (fun KK hKK => ?_) AllReadyH.nil
  go_simp
  try dsimp only
  refine hKK.out _ _ ?_ (fun hH2 => ?_)
  · exact GS.out _ _ _
  clear hKK KK
  have hO := hH
  clear hH
  have hH := hH2
  clear hH2
  try simp only [Act.put, List.setIfInBounds_toArray, List.set_cons_zero, List.set_cons_succ]
  refine wpAnyH_done (by kernel_rfl) ?_ _
  go_wp2_with fail
  obtain ⟨E0, E1, E2, -, -, -⟩ := (K2.out.set3 (.int .i64 r) (.int .i64 c) (.slice (some ⟨w2.heap.size, 0, none⟩) 0 0)).all
  have B2 := BH.out.trans (BA1.out.mono BH.out.size)
  refine bodyPost_ret (v := .agg #[.int .i64 r, .int .i64 c, .slice (some ⟨w2.heap.size, 0, none⟩) 0 0]) (by simp [results, Try.results104, go_sem, E0, E1, E2]) rfl ⟨w2.heap.size, 0, rfl, Nat.le_trans BH.out.size GB.out, ((GI.out.far (GI.out.ints.ne_blk K2.out) _).far (GI.out.ints.ne_blk K2.out) _).far (GI.out.ints.ne_blk K2.out) _, ?_⟩
  exact (((B2.setCell (by show w.heap.size ≤ w.heap.size + 1; omega) _).setCell (by show w.heap.size ≤ w.heap.size + 1; omega) _).setCell (by show w.heap.size ≤ w.heap.size + 1; omega) _)
/-- Of what was there or of nil. -/
def Spot (a : Option Addr) : Prop := a = none ∨ ∃ g o : Nat, a = some ⟨g, o, none⟩
theorem Spot.of (g o : Nat) : Spot (some ⟨g, o, none⟩) := .inr ⟨g, o, rfl⟩
theorem sCopyA (r c : Int) (a : Option Addr) (m n : Nat) (xs : List Int) (w : World) (h : Rd w a xs) (ha : Spot a) (hx : xs.length = n) (hn : n ≤ 1048576) :
    Calls Try.prog 104 #[.agg #[.int .i64 r, .int .i64 c, .slice a n m]] w (fun e w' => ∃ g cap : Nat, e = .returned (.agg #[.int .i64 r, .int .i64 c, .slice (some ⟨g, 0, none⟩) n cap]) ∧ w.heap.size ≤ g ∧ IntsC w' g cap xs ∧ Below w.heap.size w w') := by
  rcases ha with rfl | ⟨g, o, rfl⟩
  · have e : xs = [] := by
      cases xs with
      | nil => rfl
      | cons x xs => obtain ⟨b, o, h1, -⟩ := h 0 (by simp); exact absurd h1 (by simp)
    subst e
    subst hx
    exact sCopyN r c m w
  · exact sCopy r c g o m n xs w h hx hn
end Go.Proofs.Ytgemkfcapkfdbaa
end

section
/-
  Chapter 3, in the model: a matrix that is done.
-/
namespace Go.Proofs.Ytgemkfcapkfdbaa
open Go.RowKit

/-- A matrix that is handed on if it is valid. -/
def DoneRes (r c : Int) (v : Value) (ok : Bool) : Value := if ok = true then .tuple #[.agg #[.int .i64 r, .int .i64 c, v], .bool true] else .tuple #[.agg #[.int .i64 0, .int .i64 0, .slice none 0 0], .bool false]

end Go.Proofs.Ytgemkfcapkfdbaa
end

section
/-
  Chapter 5, in the model: DoRowOp.
-/
namespace Go.Proofs.Ytgemkfcapkfdbaa
set_option maxRecDepth 100000
open Go.RowKit

def opM (k i j t r c : Int) (xs : List Int) : MR := if (isMat r c xs && isOp k i j t r) = true then MR.done r c (opL k i.toNat j.toNat t c.toNat xs) else MR.no
theorem isOp_says {k i j t r : Int} (h : isOp k i j t r = true) : (k = 0 ∨ k = 1 ∨ k = 2) ∧ (0 ≤ r ∧ r ≤ 24) ∧ (0 ≤ i ∧ i < r) ∧ (0 ≤ j ∧ j < r) ∧ NumP t ∧ (k = 0 → i ≠ j) := by
  unfold isOp rangeOp at h
  simp only [Bool.and_eq_true, decide_eq_true_eq] at h
  obtain ⟨⟨⟨⟨⟨h1, h2⟩, h3⟩, h4⟩, h5⟩, h6⟩ := h
  refine ⟨by omega, h2, by omega, by omega, h5, ?_⟩
  rintro rfl
  simp at h6
  exact fun e => h6.1 e.symm
end Go.Proofs.Ytgemkfcapkfdbaa
end

section
/-
  Plain mathematics of chapter 5: an operation on rows without marks. Nothing of a program is used.
-/
namespace Go.Proofs.Ytgemkfcapkfdbaa
open Go.RowKit

theorem isOp_rows0 {i j t r : Int} (h : isOp 0 i j t r = true) : i ≠ j := by
  unfold isOp at h; simp at h; exact fun e => h.2.1 e.symm
theorem isOp_rows1 {i j t r : Int} (h : isOp 1 i j t r = true) : i = j := by
  unfold isOp at h; simp at h; exact h.2.1.symm
theorem isOp_rows2 {i j t r : Int} (h : isOp 2 i j t r = true) : i ≠ j := by
  unfold isOp at h; simp at h; exact fun e => h.2 e.symm
/-- The columns before q are done. -/
def colTo (f : Nat → Int) (C : Nat) (xs : List Int) (q : Nat) : List Int := (List.range xs.length).map fun p => if p % C < q then f p else xs.getD p 0
theorem colTo_length (f : Nat → Int) (C : Nat) (xs : List Int) (q : Nat) : (colTo f C xs q).length = xs.length := by simp [colTo]
theorem colTo_getD (f : Nat → Int) (C : Nat) (xs : List Int) (q p : Nat) (hp : p < xs.length) : (colTo f C xs q).getD p 0 = if p % C < q then f p else xs.getD p 0 := by
  simp [colTo, List.getD, hp]
theorem colTo_zero (f : Nat → Int) (C : Nat) (xs : List Int) : colTo f C xs 0 = xs := by
  refine list_getD (colTo_length _ _ _ _) fun p hp => ?_
  rw [colTo_length] at hp
  rw [colTo_getD _ _ _ _ _ hp, if_neg (by omega)]
theorem colTo_all (f : Nat → Int) (C : Nat) (xs : List Int) (h : xs.length = 0 ∨ 0 < C) : colTo f C xs C = (List.range xs.length).map f := by
  unfold colTo
  refine List.map_congr_left fun p hp => ?_
  have hp := List.mem_range.mp hp
  rw [if_pos (Nat.mod_lt p (by omega))]
/-- A column is done by two stores. -/
theorem colTo_two (f : Nat → Int) (I J C R : Nat) (xs : List Int) (q : Nat) (a b : Int) (hl : xs.length = R * C) (hI : I < R) (hJ : J < R) (hq : q < C)
    (hb : f (J * C + q) = b) (ha : I ≠ J → f (I * C + q) = a) (hr : ∀ p, p / C ≠ I → p / C ≠ J → f p = xs.getD p 0) :
    ((colTo f C xs q).set (I * C + q) a).set (J * C + q) b = colTo f C xs (q + 1) := by
  have a1 : I * C + q < xs.length := by rw [hl]; exact idx_lt hI hq
  have a2 : J * C + q < xs.length := by rw [hl]; exact idx_lt hJ hq
  refine list_getD (by rw [List.length_set, List.length_set, colTo_length, colTo_length]) fun p hp => ?_
  rw [List.length_set, List.length_set, colTo_length] at hp
  rw [getD_set _ _ _ _ (by rw [List.length_set, colTo_length]; exact a2), getD_set _ _ _ _ (by rw [colTo_length]; exact a1), colTo_getD _ _ _ _ _ hp, colTo_getD _ _ _ _ _ hp]
  by_cases e : p % C = q
  · have sp := split_idx e
    rw [if_pos (show p % C < q + 1 by omega), if_neg (show ¬ p % C < q by omega)]
    by_cases e2 : p / C = J
    · have : p = J * C + q := by rw [← e2]; exact sp
      rw [if_pos this, this, hb]
    · rw [if_neg (fun h => e2 (by rw [h, idx_div hq]))]
      by_cases e1 : p / C = I
      · have : p = I * C + q := by rw [← e1]; exact sp
        rw [if_pos this, this, ha (fun h => e2 (by rw [e1, h]))]
      · rw [if_neg (fun h => e1 (by rw [h, idx_div hq])), hr p e1 e2]
  · rw [if_neg (fun h => e (by rw [h, idx_mod hq])), if_neg (fun h => e (by rw [h, idx_mod hq]))]
    by_cases e2 : p % C < q
    · rw [if_pos e2, if_pos (by omega)]
    · rw [if_neg e2, if_neg (by omega)]
/-- What the cell p becomes, without marks. -/
def rwAt (k : Int) (I J : Nat) (t : Int) (C : Nat) (xs : List Int) (p : Nat) : Int :=
  if k = 0 then (if p / C = I then xs.getD (J * C + p % C) 0 else if p / C = J then xs.getD (I * C + p % C) 0 else xs.getD p 0)
  else if k = 1 then (if p / C = I then - xs.getD p 0 else xs.getD p 0)
  else (if p / C = I then xs.getD p 0 + xs.getD (J * C + p % C) 0 * t else xs.getD p 0)
/-- What is added is a number, in the columns before q. -/
def prodTo (k : Int) (J : Nat) (t : Int) (C : Nat) (xs : List Int) (q : Nat) : Prop := k = 2 → ∀ s, s < q → NumP (xs.getD (J * C + s) 0 * t)
theorem prodTo_zero (k : Int) (J : Nat) (t : Int) (C : Nat) (xs : List Int) : prodTo k J t C xs 0 := fun _ s hs => absurd hs (by omega)
theorem prodTo_succ {k : Int} {J : Nat} {t : Int} {C : Nat} {xs : List Int} {q : Nat} (h : prodTo k J t C xs q) (h2 : k = 2 → NumP (xs.getD (J * C + q) 0 * t)) : prodTo k J t C xs (q + 1) := fun hk s hs => by
  rcases Nat.lt_or_ge s q with h3 | h3
  · exact h hk s h3
  · obtain rfl : s = q := by omega
    exact h2 hk
theorem rw_swap (I J : Nat) (t : Int) (C R : Nat) (xs : List Int) (q : Nat) (hl : xs.length = R * C) (hI : I < R) (hJ : J < R) (hq : q < C) (hIJ : I ≠ J) :
    ((colTo (rwAt 0 I J t C xs) C xs q).set (I * C + q) (xs.getD (J * C + q) 0)).set (J * C + q) (xs.getD (I * C + q) 0) = colTo (rwAt 0 I J t C xs) C xs (q + 1) := by
  refine colTo_two _ I J C R xs q _ _ hl hI hJ hq ?_ (fun _ => ?_) fun p h1 h2 => ?_
  · unfold rwAt; rw [if_pos rfl, idx_div hq, idx_mod hq, if_neg (fun h => hIJ h.symm), if_pos rfl]
  · unfold rwAt; rw [if_pos rfl, idx_div hq, idx_mod hq, if_pos rfl]
  · unfold rwAt; rw [if_pos rfl, if_neg h1, if_neg h2]
theorem rw_neg (I : Nat) (t : Int) (C R : Nat) (xs : List Int) (q : Nat) (hl : xs.length = R * C) (hI : I < R) (hq : q < C) :
    ((colTo (rwAt 1 I I t C xs) C xs q).set (I * C + q) (- xs.getD (I * C + q) 0)).set (I * C + q) (- xs.getD (I * C + q) 0) = colTo (rwAt 1 I I t C xs) C xs (q + 1) := by
  refine colTo_two _ I I C R xs q _ _ hl hI hI hq ?_ (fun h => absurd rfl h) fun p h1 h2 => ?_
  · unfold rwAt; rw [if_neg (by decide), if_pos rfl, idx_div hq, if_pos rfl]
  · unfold rwAt; rw [if_neg (by decide), if_pos rfl, if_neg h1]
theorem rw_add (I J : Nat) (t : Int) (C R : Nat) (xs : List Int) (q : Nat) (hl : xs.length = R * C) (hI : I < R) (hJ : J < R) (hq : q < C) (hIJ : I ≠ J) :
    ((colTo (rwAt 2 I J t C xs) C xs q).set (I * C + q) (xs.getD (I * C + q) 0 + xs.getD (J * C + q) 0 * t)).set (J * C + q) (xs.getD (J * C + q) 0) = colTo (rwAt 2 I J t C xs) C xs (q + 1) := by
  refine colTo_two _ I J C R xs q _ _ hl hI hJ hq ?_ (fun _ => ?_) fun p h1 h2 => ?_
  · unfold rwAt; rw [if_neg (by decide), if_neg (by decide), idx_div hq, if_neg (fun h => hIJ h.symm)]
  · unfold rwAt; rw [if_neg (by decide), if_neg (by decide), idx_div hq, idx_mod hq, if_pos rfl]
  · unfold rwAt; rw [if_neg (by decide), if_neg (by decide), if_neg h1]
theorem fitB_num {z : Int} (h : NumP z) : fitB z = z := by unfold fitB; rw [if_pos h]
theorem bad_ne {z : Int} (h : NumP z) : z ≠ badN := by unfold NumP at h; unfold badN; omega
theorem wrap_small {z : Int} (h : -1000000000000000000 ≤ z ∧ z ≤ 1000000000000000000) : wrap64 z = z := IntWalk.wrap64_in _ (by omega)
theorem mulB_num {a b : Int} (ha : NumP a) (hb : NumP b) : mulB a b = fitB (a * b) := by
  unfold mulB
  have := mul_num a b ha hb
  rw [if_neg (fun h => h.elim (bad_ne ha) (bad_ne hb)), wrap_small (by omega)]
theorem addB_num {a b : Int} (ha : NumP a) (hb : NumP b) : addB a b = fitB (a + b) := by
  unfold addB
  obtain ⟨a1, a2⟩ := ha
  obtain ⟨b1, b2⟩ := hb
  rw [if_neg (fun h => h.elim (bad_ne ⟨a1, a2⟩) (bad_ne ⟨b1, b2⟩)), wrap_small (by omega)]
theorem addB_bad (a : Int) : addB a badN = badN := by unfold addB; rw [if_pos (.inr rfl)]
theorem NumP_neg {a : Int} (h : NumP a) : NumP (-a) := by unfold NumP at *; omega
theorem nums_def {xs : List Int} (h : nums xs = true) (p : Nat) : NumP (xs.getD p 0) := by
  rcases Nat.lt_or_ge p xs.length with h1 | h1
  · exact nums_at h h1
  · simp [List.getD, h1, NumP]
theorem opAt_raw (k : Int) (I J : Nat) (t : Int) (C : Nat) (xs : List Int) (p : Nat) (hk : k = 0 ∨ k = 1 ∨ k = 2) (hx : nums xs = true) (ht : NumP t) (hp : k = 2 → p / C = I → NumP (xs.getD (J * C + p % C) 0 * t)) :
    opAt k I J t C xs p = fitB (rwAt k I J t C xs p) := by
  unfold opAt rwAt
  rcases hk with rfl | rfl | rfl
  · rw [if_pos rfl, if_pos rfl, fitB_num]
    by_cases e1 : p / C = I
    · rw [if_pos e1]; exact nums_def hx _
    · rw [if_neg e1]
      by_cases e2 : p / C = J
      · rw [if_pos e2]; exact nums_def hx _
      · rw [if_neg e2]; exact nums_def hx _
  · simp only [show (1 : Int) ≠ 0 by decide, if_false, if_true]
    by_cases e1 : p / C = I
    · rw [if_pos e1, if_pos e1, mulB_num (nums_def hx _) (by decide), Int.mul_neg, Int.mul_one]
    · rw [if_neg e1, if_neg e1, fitB_num (nums_def hx _)]
  · simp only [show (2 : Int) ≠ 0 by decide, show (2 : Int) ≠ 1 by decide, if_false]
    by_cases e1 : p / C = I
    · rw [if_pos e1, if_pos e1, mulB_num (nums_def hx _) ht, fitB_num (hp rfl e1), addB_num (nums_def hx _) (hp rfl e1)]
    · rw [if_neg e1, if_neg e1, fitB_num (nums_def hx _)]
theorem fitB_bad {z : Int} (h : ¬ NumP z) : fitB z = badN := by unfold fitB; rw [if_neg h]
theorem bad_not : ¬ NumP badN := by decide
/-- Marks or none: the result is the same. -/
theorem done_fit (r c : Int) (f g : Nat → Int) (n : Nat) (h : ∀ p, p < n → f p = fitB (g p)) : MR.done r c ((List.range n).map f) = MR.done r c ((List.range n).map g) := by
  by_cases hn : nums ((List.range n).map g) = true
  · have : (List.range n).map f = (List.range n).map g := by
      refine List.map_congr_left fun p hp => ?_
      have hp := List.mem_range.mp hp
      have := nums_at hn (j := p) (by simpa using hp)
      rw [h p hp, fitB_num]
      simpa [List.getD, hp] using this
    rw [this]
  · have hf : nums ((List.range n).map f) = false := by
      rcases Bool.eq_false_or_eq_true (nums ((List.range n).map f)) with hf | hf
      · refine absurd (nums_true fun p hp => ?_) hn
        have hp' : p < n := by simpa using hp
        have := nums_at hf (j := p) (by simpa using hp')
        simp only [List.getD, List.getElem?_map, List.getElem?_range hp', Option.map_some, Option.getD_some] at this ⊢
        by_cases hg : NumP (g p)
        · exact hg
        · rw [h p hp', fitB_bad hg] at this
          exact absurd this bad_not
      · exact hf
    have hg : nums ((List.range n).map g) = false := by simpa using hn
    have e1 : isMat r c ((List.range n).map f) = false := by unfold isMat; rw [hf]; simp
    have e2 : isMat r c ((List.range n).map g) = false := by unfold isMat; rw [hg]; simp
    unfold MR.done
    rw [e1, e2]; rfl
theorem rw_done (k : Int) (I J : Nat) (t : Int) (R C : Nat) (xs : List Int) (hk : k = 0 ∨ k = 1 ∨ k = 2) (hl : xs.length = R * C) (hx : nums xs = true) (ht : NumP t) (hp : prodTo k J t C xs C) :
    MR.done R C (opL k I J t C xs) = MR.done R C (colTo (rwAt k I J t C xs) C xs C) := by
  have hC : xs.length = 0 ∨ 0 < C := by
    rcases Nat.eq_zero_or_pos C with h | h
    · left; rw [hl, h, Nat.mul_zero]
    · exact .inr h
  rw [colTo_all _ _ _ hC]
  unfold opL
  refine done_fit _ _ _ _ _ fun p hp' => opAt_raw k I J t C xs p hk hx ht fun h2 _ => hp h2 _ (Nat.mod_lt p ?_)
  omega
/-- What is added is beyond the limit in one column: nothing is done. -/
theorem rw_over (I J : Nat) (t : Int) (R C : Nat) (xs : List Int) (q : Nat) (hl : xs.length = R * C) (hI : I < R) (hq : q < C) (hx : nums xs = true) (ht : NumP t) (hb : ¬ NumP (xs.getD (J * C + q) 0 * t)) :
    MR.done R C (opL 2 I J t C xs) = MR.no := by
  have hi : I * C + q < xs.length := by rw [hl]; exact idx_lt hI hq
  have e : (opL 2 I J t C xs).getD (I * C + q) 0 = badN := by
    unfold opL
    simp only [List.getD, List.getElem?_map, List.getElem?_range hi, Option.map_some, Option.getD_some]
    rw [opAt_two _ _ _ _ _ hq, mulB_num (nums_def hx _) ht, fitB_bad hb, addB_bad]
  have e2 : nums (opL 2 I J t C xs) = false := nums_false (j := I * C + q) (by rw [opL_length]; exact hi) (by rw [e]; exact bad_not)
  unfold MR.done isMat
  rw [e2]; simp
end Go.Proofs.Ytgemkfcapkfdbaa
end

section
/-
  Chapter 3, in the model: a matrix of zeros.
-/
namespace Go.Proofs.Ytgemkfcapkfdbaa
open Go.RowKit

theorem sNew (R C : Nat) (w : World) (hR : R ≤ 4096) (hC : C ≤ 4096) :
    Calls Try.prog 93 #[.int .i64 R, .int .i64 C] w (NewMat R C (List.replicate (R * C) 0) w) := by
  have hm : R * C ≤ 4096 * 4096 := Nat.mul_le_mul hR hC
  have hmk := makeProd R C (by omega)
  have hp1 : (0 : Int) ≤ (R : Int) * (C : Int) := by rw [← Int.natCast_mul]; omega
  have hp2 : (R : Int) * (C : Int) ≤ 16777216 := by rw [← Int.natCast_mul]; omega
  go_enter Try.func93, Try.ntmps93
  go_wp2_with fail
  refine bodyPost_ret (v := .agg #[.int .i64 R, .int .i64 C, .slice (some ⟨w.heap.size + 1, 0, none⟩) (R * C) (R * C)]) (by simp [results, Try.results93, go_sem]) rfl ⟨w.heap.size + 1, by simp, by omega, ?_, ?_⟩
  · exact Ints.made _ (by simp)
  · exact ((Below.refl _ _).alloc (Nat.le_refl _) _).alloc (by simp) _
end Go.Proofs.Ytgemkfcapkfdbaa
end

section
/-
  Chapter 3, in the model: IdentityMatrix.
-/
namespace Go.Proofs.Ytgemkfcapkfdbaa
open Go.RowKit

/-- Zeros, and ones in the first k places of the diagonal. -/
def idL (n k : Nat) : List Int := (List.range (n * n)).map fun j => if j % (n + 1) = 0 ∧ j < k * (n + 1) then 1 else 0
theorem idL_length (n k : Nat) : (idL n k).length = n * n := by simp [idL]
theorem idL_zero (n : Nat) : idL n 0 = List.replicate (n * n) 0 := by
  apply List.ext_getElem (by simp [idL])
  intro i h1 h2
  simp [idL]
theorem idL_at (n k : Nat) : (idL n k).getD (k * n + k) 0 = 0 := by
  have e : k * n + k = k * (n + 1) := (Nat.mul_succ k n).symm
  rw [e]
  unfold idL List.getD
  rcases Nat.lt_or_ge (k * (n + 1)) (n * n) with h | h
  · simp [h]
  · simp [h]
theorem idL_step (n k : Nat) : (idL n k).set (k * n + k) 1 = idL n (k + 1) := by
  have e : k * n + k = k * (n + 1) := (Nat.mul_succ k n).symm
  rw [e]
  apply List.ext_getElem (by simp [idL])
  intro i h1 h2
  have hi : i < n * n := by simpa [idL] using h2
  rw [List.getElem_set]
  by_cases hk : k * (n + 1) = i
  · rw [if_pos hk]
    have h3 : i % (n + 1) = 0 := by rw [← hk]; exact Nat.mul_mod_left _ _
    have h4 : i < (k + 1) * (n + 1) := by rw [← hk, Nat.succ_mul]; omega
    simp [idL, h3, h4]
  · rw [if_neg hk]
    have h5 : (i % (n + 1) = 0 ∧ i < k * (n + 1)) ↔ (i % (n + 1) = 0 ∧ i < (k + 1) * (n + 1)) := by
      constructor
      · rintro ⟨a, b⟩; exact ⟨a, by rw [Nat.succ_mul]; omega⟩
      · rintro ⟨a, b⟩
        refine ⟨a, ?_⟩
        obtain ⟨q, hq⟩ := Nat.dvd_of_mod_eq_zero a
        rw [Nat.mul_comm] at hq
        rw [hq] at b ⊢
        have := Nat.lt_of_mul_lt_mul_right b
        have hne : q ≠ k := by rintro rfl; exact hk hq.symm
        exact Nat.mul_lt_mul_of_pos_right (by omega) (by omega)
    simp only [idL, List.getElem_map, List.getElem_range, h5]
def idM (n : Int) : MR := if 0 ≤ n ∧ n ≤ 24 then ⟨true, n, n, idL n.toNat n.toNat⟩ else MR.no

end Go.Proofs.Ytgemkfcapkfdbaa
end

section
/-
  Plain mathematics of chapters 5 and 6: what operations on rows do to the determinant. Nothing of a program is used.
-/
namespace Go.Proofs.Ytgemkfcapkfdbaa

theorem opL_getD {k : Int} {I J : Nat} {t : Int} {C : Nat} {xs : List Int} {p : Nat} (hp : p < xs.length) : (opL k I J t C xs).getD p 0 = opAt k I J t C xs p := by
  unfold opL
  simp only [List.getD, List.getElem?_map, List.getElem?_range hp, Option.map_some, Option.getD_some]
/-- If all cells are numbers in the end, no cell has a mark. -/
theorem opL_raw {k : Int} {I J : Nat} {t : Int} {R C : Nat} {xs : List Int} (hk : k = 0 ∨ k = 1 ∨ k = 2) (hl : xs.length = R * C) (hx : nums xs = true) (hI : I < R) (ht : NumP t) (hn : nums (opL k I J t C xs) = true) (p : Nat) (hp : p < R * C) :
    (opL k I J t C xs).getD p 0 = rwAt k I J t C xs p := by
  have hpr : ∀ q, q < C → k = 2 → NumP (xs.getD (J * C + q) 0 * t) := by
    intro q hq h2
    subst h2
    by_cases hb : NumP (xs.getD (J * C + q) 0 * t)
    · exact hb
    · exfalso
      have hi : I * C + q < xs.length := by rw [hl]; exact idx_lt hI hq
      have e : (opL 2 I J t C xs).getD (I * C + q) 0 = badN := by
        rw [opL_getD hi, opAt_two _ _ _ _ _ hq, mulB_num (nums_def hx _) ht, fitB_bad hb, addB_bad]
      have := nums_at hn (j := I * C + q) (by rw [opL_length]; exact hi)
      rw [e] at this
      exact bad_not this
  have hC : 0 < C := by
    rcases Nat.eq_zero_or_pos C with e | e
    · subst e; omega
    · exact e
  have hp' : p < xs.length := by rw [hl]; exact hp
  have h1 := nums_at hn (j := p) (by rw [opL_length]; exact hp')
  rw [opL_getD hp', opAt_raw k I J t C xs p hk hx ht (fun h2 _ => hpr _ (Nat.mod_lt p hC) h2)] at h1 ⊢
  by_cases hz : NumP (rwAt k I J t C xs p)
  · exact fitB_num hz
  · rw [fitB_bad hz] at h1; exact absurd h1 bad_not
/-- An operation on rows, over matrices. -/
def opX (k : Int) (I J : Nat) (t : Int) (A : Mx) : Mx := fun r c =>
  if k = 0 then (if r = I then A J c else if r = J then A I c else A r c)
  else if k = 1 then (if r = I then - A r c else A r c)
  else (if r = I then A r c + A J c * t else A r c)
theorem rwAt_mx {k : Int} {I J : Nat} {t : Int} {C : Nat} {xs : List Int} {r c : Nat} (hc : c < C) : rwAt k I J t C xs (r * C + c) = opX k I J t (fun r c => xs.getD (r * C + c) 0) r c := by
  unfold rwAt opX
  rw [idx_div hc, idx_mod hc]
theorem opX_mxL {k : Int} {I J : Nat} {t : Int} {n : Nat} {xs : List Int} (hk : k = 0 ∨ k = 1 ∨ k = 2) (hl : xs.length = n * n) (hx : nums xs = true) (hI : I < n) (ht : NumP t) (hn : nums (opL k I J t n xs) = true) :
    EqX n (mxL n (opL k I J t n xs)) (opX k I J t (mxL n xs)) := fun r c hr hc => by
  show (opL k I J t n xs).getD (r * n + c) 0 = _
  rw [opL_raw hk hl hx hI ht hn _ (idx_lt hr hc), rwAt_mx hc]
  rfl
def opSg (k : Int) : Int := if k = 2 then 1 else -1
theorem opX_det {k : Int} {I J : Nat} {t : Int} {n : Nat} (A : Mx) (hk : k = 0 ∨ k = 1 ∨ k = 2) (hI : I < n) (hJ : J < n) (hIJ : k ≠ 1 → I ≠ J) : det n (opX k I J t A) = opSg k * det n A := by
  rcases hk with rfl | rfl | rfl
  · have e : opX 0 I J t A = swR A I J := by
      funext r c
      unfold opX swR
      rw [if_pos rfl]
    rw [e, alt_swap (det_lin n) (det_alt n) (hIJ (by decide)) hI hJ A]
    unfold opSg
    rw [if_neg (by decide)]; omega
  · have e : opX 1 I J t A = stR A I (fun c => (-1) * A I c) := by
      funext r c
      unfold opX stR
      rw [if_neg (by decide), if_pos rfl]
      by_cases h : r = I
      · rw [if_pos h, if_pos h, h]
        show - A I c = (-1) * A I c
        omega
      · rw [if_neg h, if_neg h]
    rw [e, lin_scale (det_lin n) hI A (-1) (A I), stR_self]
    unfold opSg
    rw [if_neg (by decide)]
  · have e : opX 2 I J t A = stR A I (fun c => A I c + t * A J c) := by
      funext r c
      unfold opX stR
      rw [if_neg (by decide), if_neg (by decide)]
      by_cases h : r = I
      · rw [if_pos h, if_pos h, h, Int.mul_comm]
      · rw [if_neg h, if_neg h]
    rw [e, alt_add (det_lin n) (det_alt n) (hIJ (by decide)) hI hJ A t]
    unfold opSg
    rw [if_pos rfl, Int.one_mul]
/-- What an operation that succeeds has made of a square matrix. -/
theorem opM_det {k i j t : Int} {n : Nat} {xs : List Int} (h : (opM k i j t n n xs).ok = true) :
    ∃ ys : List Int, opM k i j t n n xs = ⟨true, n, n, ys⟩ ∧ xs.length = n * n ∧ nums xs = true ∧ ys.length = n * n ∧ nums ys = true ∧ det n (mxL n ys) = opSg k * det n (mxL n xs) := by
  unfold opM at h ⊢
  by_cases h1 : (isMat n n xs && isOp k i j t n) = true
  · rw [if_pos h1] at h ⊢
    simp only [Bool.and_eq_true] at h1
    obtain ⟨hm, ho⟩ := h1
    obtain ⟨-, -, hl, hx⟩ := isMat_says hm
    obtain ⟨hk, -, ⟨i1, i2⟩, ⟨j1, j2⟩, ht, -⟩ := isOp_says ho
    rw [← Int.natCast_mul] at hl
    have hl : xs.length = n * n := by omega
    obtain ⟨I, rfl⟩ := Int.eq_ofNat_of_zero_le i1
    obtain ⟨J, rfl⟩ := Int.eq_ofNat_of_zero_le j1
    have hIJ : k ≠ 1 → I ≠ J := fun h1 => by
      rcases hk with rfl | rfl | rfl
      · have := isOp_rows0 ho; omega
      · exact absurd rfl h1
      · have := isOp_rows2 ho; omega
    unfold MR.done at h ⊢
    by_cases h2 : isMat n n (opL k I J t n xs) = true
    · have hn := (isMat_says h2).2.2.2
      have e : (n : Int).toNat = n := rfl
      refine ⟨opL k I J t n xs, if_pos h2, hl, hx, by rw [opL_length, hl], hn, ?_⟩
      rw [det_congr (opX_mxL hk hl hx (by omega) ht hn)]
      exact opX_det _ hk (by omega) (by omega) hIJ
    · rw [show (if isMat n n (opL k (I : Int).toNat (J : Int).toNat t (n : Int).toNat xs) = true then _ else MR.no) = MR.no from if_neg h2] at h
      exact absurd h (by simp [MR.no])
  · rw [if_neg h1] at h; exact absurd h (by simp [MR.no])
theorem mxL_idL (n : Nat) : EqX n (mxL n (idL n n)) idX := fun r c hr hc => by
  have hp : r * n + c < n * n := idx_lt hr hc
  have e : (idL n n).getD (r * n + c) 0 = if (r * n + c) % (n + 1) = 0 ∧ r * n + c < n * (n + 1) then 1 else 0 := by
    unfold idL
    simp only [List.getD, List.getElem?_map, List.getElem?_range hp, Option.map_some, Option.getD_some]
  show (idL n n).getD (r * n + c) 0 = _
  rw [e]
  have hlt : r * n + c < n * (n + 1) := by rw [Nat.mul_add, Nat.mul_one]; omega
  unfold idX
  rcases Nat.lt_trichotomy r c with h | h | h
  · have e2 : r * n + c = r * (n + 1) + (c - r) := by rw [Nat.mul_add, Nat.mul_one]; omega
    rw [if_neg (fun h' => by rw [e2, idx_mod (by omega)] at h'; omega), if_neg (by omega)]
  · subst h
    have e2 : r * n + r = r * (n + 1) + 0 := by rw [Nat.mul_add, Nat.mul_one]; omega
    rw [if_pos ⟨by rw [e2, idx_mod (by omega)], hlt⟩, if_pos rfl]
  · obtain ⟨p, rfl⟩ : ∃ p, r = p + 1 := ⟨r - 1, by omega⟩
    have e2 : (p + 1) * n + c = p * (n + 1) + (n + c - p) := by rw [Nat.mul_add, Nat.mul_one, Nat.add_mul, Nat.one_mul]; omega
    rw [if_neg (fun h' => by rw [e2, idx_mod (by omega)] at h'; omega), if_neg (by omega)]
theorem idL_nums (n : Nat) : nums (idL n n) = true := by
  refine nums_true fun p hp => ?_
  rw [idL_length] at hp
  unfold idL
  simp only [List.getD, List.getElem?_map, List.getElem?_range hp, Option.map_some, Option.getD_some]
  split
  · exact ⟨by decide, by decide⟩
  · exact ⟨by decide, by decide⟩
theorem idL_det (n : Nat) : det n (mxL n (idL n n)) = 1 := by rw [det_congr (mxL_idL n), det_id]
end Go.Proofs.Ytgemkfcapkfdbaa
end

section
/-
  Plain mathematics of chapter 6: what the laws say. Nothing of a program is used.
-/
namespace Go.Proofs.Ytgemkfcapkfdbaa

theorem detOf_says {r c d : Int} {xs : List Int} (h1 : (detOf r c xs).1 = d) (h2 : (detOf r c xs).2 = true) : ∃ n : Nat, r = n ∧ c = n ∧ n ≤ 6 ∧ xs.length = n * n ∧ nums xs = true ∧ detB n xs = d ∧ NumP d ∧ d = det n (mxL n xs) := by
  have hn := detOf_num r c xs
  rw [h1] at hn
  unfold detOf at h1 h2
  by_cases hs : isSq r c xs = true
  · rw [if_pos hs] at h1 h2
    obtain ⟨n, rfl, rfl, h6, hl, nx⟩ := isSq_says hs
    have e : (n : Int).toNat = n := rfl
    rw [e] at h1 h2
    unfold detM at h1 h2
    by_cases hb : detB n xs = badN
    · rw [if_pos hb] at h2; exact absurd h2 (by decide)
    · rw [if_neg hb] at h1
      have h1 : detB n xs = d := h1
      exact ⟨n, rfl, rfl, h6, hl, nx, h1, hn, by rw [← h1]; exact detB_det n xs hb⟩
  · rw [if_neg hs] at h2; exact absurd h2 (by decide)
theorem mulM_says {r c r' c' : Int} {xs ys : List Int} (h : (mulM r c xs r' c' ys).ok = true) : ∃ R K C : Nat, r = R ∧ c = K ∧ r' = K ∧ c' = C ∧ isMat r c xs = true ∧ isMat r' c' ys = true ∧ mulM r c xs r' c' ys = ⟨true, r, c', mulL R K C xs ys⟩ := by
  unfold mulM at h ⊢
  by_cases h1 : (isMat r c xs && isMat r' c' ys && decide (c = r')) = true
  · rw [if_pos h1] at h ⊢
    simp only [Bool.and_eq_true, decide_eq_true_eq] at h1
    obtain ⟨⟨hm, hm'⟩, rfl⟩ := h1
    obtain ⟨⟨r1, -⟩, ⟨c1, -⟩, -, -⟩ := isMat_says hm
    obtain ⟨-, ⟨c2, -⟩, -, -⟩ := isMat_says hm'
    obtain ⟨R, rfl⟩ := Int.eq_ofNat_of_zero_le r1
    obtain ⟨K, rfl⟩ := Int.eq_ofNat_of_zero_le c1
    obtain ⟨C, rfl⟩ := Int.eq_ofNat_of_zero_le c2
    unfold MR.done at h ⊢
    by_cases h2 : isMat R C (mulL R K C xs ys) = true
    · exact ⟨R, K, C, rfl, rfl, rfl, rfl, hm, hm', if_pos h2⟩
    · rw [show (if isMat R C (mulL (R : Int).toNat (K : Int).toNat (C : Int).toNat xs ys) = true then _ else MR.no) = MR.no from if_neg h2] at h
      exact absurd h (by simp [MR.no])
  · rw [if_neg h1] at h; exact absurd h (by simp [MR.no])
theorem mxL_mul (n : Nat) (xs ys : List Int) : EqX n (mxL n (mulL n n n xs ys)) (mulX n (mxL n xs) (mxL n ys)) := fun r c hr hc => by
  show (mulL n n n xs ys).getD (r * n + c) 0 = sumN n fun k => mxL n xs r k * mxL n ys k c
  unfold mulL
  rw [tab_at n n _ hr hc, dot_sum]
  rfl
/-- The determinant of a product. -/
theorem prod_det {r c r' c' dx dy dz : Int} {xs ys : List Int} {m : MR} (hm : mulM r c xs r' c' ys = m) (ho : m.ok = true) (a1 : (detOf r c xs).1 = dx) (a2 : (detOf r c xs).2 = true) (b1 : (detOf r' c' ys).1 = dy) (b2 : (detOf r' c' ys).2 = true)
    (c1 : (detOf m.r m.c m.zs).1 = dz) (c2 : (detOf m.r m.c m.zs).2 = true) : dx * dy = dz ∧ NumP dx ∧ NumP dy := by
  obtain ⟨n, rfl, rfl, -, -, -, -, na, ea⟩ := detOf_says a1 a2
  obtain ⟨k, rfl, rfl, -, -, -, -, nb, eb⟩ := detOf_says b1 b2
  obtain ⟨R, K, C, e1, e2, e3, e4, -, -, e⟩ := mulM_says (by rw [hm]; exact ho)
  obtain rfl : n = R := by omega
  obtain rfl : n = K := by omega
  obtain rfl : k = n := by omega
  obtain rfl : k = C := by omega
  rw [hm] at e
  subst e
  obtain ⟨p, p1, -, -, -, -, -, -, ec⟩ := detOf_says c1 c2
  have p1 : (k : Int) = (p : Int) := p1
  obtain rfl : k = p := by omega
  refine ⟨?_, na, nb⟩
  rw [ea, eb, ec]
  show _ = det k (mxL k (mulL k k k xs ys))
  rw [det_congr (mxL_mul k xs ys), det_mul]
/-- A matrix turned over. -/
theorem turn_det {r c dx dz : Int} {xs : List Int} (a1 : (detOf r c xs).1 = dx) (a2 : (detOf r c xs).2 = true) (c1 : (detOf (turnM r c xs).r (turnM r c xs).c (turnM r c xs).zs).1 = dz) (c2 : (detOf (turnM r c xs).r (turnM r c xs).c (turnM r c xs).zs).2 = true) : dx = dz := by
  obtain ⟨n, rfl, rfl, -, hl, -, -, na, ea⟩ := detOf_says a1 a2
  obtain ⟨p, p1, p2, -, hl2, -, -, nc, ec⟩ := detOf_says c1 c2
  unfold turnM at p1 ec
  by_cases hm : isMat n n xs = true
  · rw [if_pos hm] at p1 ec
    have p1 : (n : Int) = (p : Int) := p1
    obtain rfl : n = p := by omega
    rw [ea, ec]
    show det n (mxL n xs) = det n (mxL n (turnL n n xs))
    rw [← det_tr n (mxL n xs)]
    refine det_congr fun r c hr hc => ?_
    show xs.getD (c * n + r) 0 = (turnL n n xs).getD (r * n + c) 0
    exact (turnL_at n n xs hc hr).symm
  · exfalso
    unfold detOf isSq at a2
    rw [show isMat n n xs = false by simpa using hm] at a2
    simp at a2
theorem steps_says {r c d : Int} {xs : List Int} (h1 : (detOf r c xs).1 = d) (h2 : (detOf r c xs).2 = true) {e : Int} (hs : (if isSq r c xs = true then stepsM r.toNat xs else (0, false)) = (e, true)) : d = e := by
  obtain ⟨n, rfl, rfl, -, hl, -, -, -, ed⟩ := detOf_says h1 h2
  by_cases hq : isSq n n xs = true
  · rw [if_pos hq] at hs
    rw [ed]
    exact (stepsM_det hl hs).symm
  · rw [if_neg hq] at hs; exact absurd (congrArg Prod.snd hs) (by simp)
end Go.Proofs.Ytgemkfcapkfdbaa
end

section
/-
  Plain mathematics of chapter 9: what its functions answer, step by step. Nothing of a program is used.
-/
namespace Go.Proofs.Ytgemkfcapkfdbaa

/-! ### AreModuli -/
/-- The i-th number of a list, 0 behind its end. -/
def atL (l : List Int) (i : Nat) : Int := l.getD i 0
/-- One modulus passes. -/
def modOk (l : List Int) (i : Nat) : Bool := decide (2 ≤ atL l i ∧ atL l i ≤ 400000000) && decide ((prodI (atL l) i).gcd (atL l i) = 1) && decide (prodI (atL l) (i + 1) ≤ 400000000)
def modB (l : List Int) : Bool := decide (l.length ≤ 8) && (List.range l.length).all (modOk l)
theorem modB_says {l : List Int} (h : modB l = true) : l.length ≤ 8 ∧ Modu (atL l) l.length ∧ (∀ i, i < l.length → 2 ≤ atL l i ∧ atL l i ≤ 400000000) ∧ ∀ i, i ≤ l.length → prodI (atL l) i ≤ 400000000 := by
  unfold modB at h
  rw [Bool.and_eq_true, decide_eq_true_eq, List.all_eq_true] at h
  have h2 : ∀ i, i < l.length → (2 ≤ atL l i ∧ atL l i ≤ 400000000) ∧ (prodI (atL l) i).gcd (atL l i) = 1 ∧ prodI (atL l) (i + 1) ≤ 400000000 := fun i hi => by
    have := h.2 i (List.mem_range.mpr hi)
    unfold modOk at this
    simp only [Bool.and_eq_true, decide_eq_true_eq] at this
    exact ⟨this.1.1, this.1.2, this.2⟩
  refine ⟨h.1, fun i hi => ⟨(h2 i hi).1.1, (h2 i hi).2.1⟩, fun i hi => (h2 i hi).1, fun i hi => ?_⟩
  rcases i with _ | i
  · show (1 : Int) ≤ 400000000; decide
  · exact (h2 i hi).2.2
theorem modB_true {l : List Int} (h8 : l.length ≤ 8) (h : ∀ i, i < l.length → modOk l i = true) : modB l = true := by
  unfold modB
  rw [decide_eq_true h8, List.all_eq_true.mpr fun i hi => h i (List.mem_range.mp hi)]; rfl
theorem modB_long {l : List Int} (h : ¬ l.length ≤ 8) : modB l = false := by
  unfold modB
  rw [decide_eq_false h]; rfl
theorem modB_bad {l : List Int} {i : Nat} (hi : i < l.length) (h : modOk l i = false) : modB l = false := by
  cases hb : modB l with
  | false => rfl
  | true =>
    unfold modB at hb
    rw [Bool.and_eq_true, List.all_eq_true] at hb
    rw [hb.2 i (List.mem_range.mpr hi)] at h
    cases h
theorem modOk_low {l : List Int} {i : Nat} (h : ¬ (2 ≤ atL l i ∧ atL l i ≤ 400000000)) : modOk l i = false := by
  unfold modOk; rw [decide_eq_false h]; rfl
theorem modOk_gcd {l : List Int} {i : Nat} (h : (prodI (atL l) i).gcd (atL l i) ≠ 1) : modOk l i = false := by
  unfold modOk; rw [decide_eq_false h, Bool.and_false]; rfl
theorem modOk_big {l : List Int} {i : Nat} (h : 400000000 < prodI (atL l) (i + 1)) : modOk l i = false := by
  unfold modOk; rw [decide_eq_false (show ¬ prodI (atL l) (i + 1) ≤ 400000000 by omega), Bool.and_false]
theorem modOk_true {l : List Int} {i : Nat} (h1 : 2 ≤ atL l i ∧ atL l i ≤ 400000000) (h2 : (prodI (atL l) i).gcd (atL l i) = 1) (h3 : prodI (atL l) (i + 1) ≤ 400000000) : modOk l i = true := by
  unfold modOk; rw [decide_eq_true h1, decide_eq_true h2, decide_eq_true h3]; rfl
/-- What a loop over the moduli knows. -/
structure ModTo (l : List Int) (i : Nat) (P : Int) : Prop where
  le : i ≤ l.length
  prod : prodI (atL l) i = P
  pos : 0 < P
  num : P ≤ 400000000
  ok : ∀ k, k < i → modOk l k = true
theorem ModTo.zero (l : List Int) : ModTo l 0 1 := ⟨Nat.zero_le _, rfl, by decide, by decide, fun k hk => absurd hk (by omega)⟩
theorem ModTo.step {l : List Int} {i : Nat} {P : Int} (h : ModTo l i P) (hi : i < l.length) (h1 : 2 ≤ atL l i ∧ atL l i ≤ 400000000) (h2 : P.gcd (atL l i) = 1) (h3 : P * atL l i ≤ 400000000) : ModTo l (i + 1) (P * atL l i) := by
  have e : prodI (atL l) (i + 1) = P * atL l i := by show prodI (atL l) i * atL l i = _; rw [h.prod]
  refine ⟨hi, e, Int.mul_pos h.pos (by omega), h3, fun k hk => ?_⟩
  rcases Nat.lt_or_ge k i with hk2 | hk2
  · exact h.ok k hk2
  · obtain rfl : k = i := by omega
    exact modOk_true h1 (by rw [h.prod]; exact h2) (by rw [e]; exact h3)
theorem ModTo.big {l : List Int} {i : Nat} {P : Int} (h : ModTo l i P) (hi : i < l.length) (h3 : 400000000 < P * atL l i) : modB l = false :=
  modB_bad hi (modOk_big (by show 400000000 < prodI (atL l) i * atL l i; rw [h.prod]; exact h3))
theorem ModTo.low {l : List Int} {i : Nat} {P : Int} (_ : ModTo l i P) (hi : i < l.length) (h1 : ¬ (2 ≤ atL l i ∧ atL l i ≤ 400000000)) : modB l = false := modB_bad hi (modOk_low h1)
theorem ModTo.gcd {l : List Int} {i : Nat} {P : Int} (h : ModTo l i P) (hi : i < l.length) (h2 : P.gcd (atL l i) ≠ 1) : modB l = false := modB_bad hi (modOk_gcd (by rw [h.prod]; exact h2))
theorem ModTo.all {l : List Int} {P : Int} (h : ModTo l l.length P) (h8 : l.length ≤ 8) : modB l = true := modB_true h8 h.ok

/-! ### ChineseOf -/
open Classical in
/-- The number with the residues. -/
noncomputable def chiV (rs ms : Nat → Int) (k : Nat) : Int := if h : ∃ x, ChiP rs ms k x then Classical.choose h else 0
theorem chiV_eq {rs ms : Nat → Int} {k : Nat} {x : Int} (hm : Modu ms k) (h : ChiP rs ms k x) : chiV rs ms k = x := by
  have hx : ∃ x, ChiP rs ms k x := ⟨x, h⟩
  unfold chiV
  rw [dif_pos hx]
  exact ChiP.uniq hm (Classical.choose_spec hx) h
/-- What ChineseOf answers. -/
noncomputable def chiX (rs ms : List Int) : Int × Int × Bool := if (modB ms && decide (rs.length = ms.length) && nums rs) = true then (chiV (atL rs) (atL ms) ms.length, prodI (atL ms) ms.length, true) else (0, 0, false)
theorem chiX_no {rs ms : List Int} (h : modB ms = false ∨ rs.length ≠ ms.length ∨ nums rs = false) : chiX rs ms = (0, 0, false) := by
  unfold chiX
  rcases h with h | h | h
  · rw [h]; rfl
  · rw [decide_eq_false h, Bool.and_false, Bool.false_and]; rfl
  · rw [h, Bool.and_false]; rfl
theorem chiX_yes {rs ms : List Int} {x : Int} (h1 : modB ms = true) (h2 : rs.length = ms.length) (h3 : nums rs = true) (h : ChiP (atL rs) (atL ms) ms.length x) : chiX rs ms = (x, prodI (atL ms) ms.length, true) := by
  unfold chiX
  rw [h1, decide_eq_true h2, h3, chiV_eq (modB_says h1).2.1 h]; rfl
/-- What is known where it is found. -/
theorem chiX_says {rs ms : List Int} (h : (chiX rs ms).2.2 = true) (hx : ∃ x, ChiP (atL rs) (atL ms) ms.length x) : modB ms = true ∧ rs.length = ms.length ∧ nums rs = true ∧ (chiX rs ms).2.1 = prodI (atL ms) ms.length ∧ ChiP (atL rs) (atL ms) ms.length (chiX rs ms).1 := by
  obtain ⟨x, hx⟩ := hx
  by_cases h1 : modB ms = true
  · by_cases h2 : rs.length = ms.length
    · by_cases h3 : nums rs = true
      · rw [chiX_yes h1 h2 h3 hx]
        exact ⟨h1, h2, h3, rfl, hx⟩
      · rw [chiX_no (.inr (.inr (by simpa using h3)))] at h; cases h
    · rw [chiX_no (.inr (.inl h2))] at h; cases h
  · rw [chiX_no (.inl (by simpa using h1))] at h; cases h
/-- What the loop over the residues does: the inverse comes from the common divisor. -/
theorem chi_step {rs ms : List Int} {i : Nat} {x u y g : Int} (hm : modB ms = true) (hi : i < ms.length) (h : ChiP (atL rs) (atL ms) i x) (hg : prodI (atL ms) i % atL ms i * u + atL ms i * y = g) (he : g = (prodI (atL ms) i % atL ms i).gcd (atL ms i)) :
    ChiP (atL rs) (atL ms) (i + 1) (x + prodI (atL ms) i * chT x (atL rs i) (atL ms i) u) := by
  obtain ⟨-, hmo, hr, -⟩ := modB_says hm
  have h0 := hr i hi
  refine h.step (by omega) (hmo.less (Nat.le_of_lt hi)).pos (chi_inv hg ?_)
  rw [he, gcd_emod, (hmo i hi).2]; rfl

/-- There is such a number. -/
theorem chi_ex {rs ms : Nat → Int} : ∀ {k : Nat}, Modu ms k → ∃ x, ChiP rs ms k x
  | 0, _ => ⟨0, ChiP.zero rs ms⟩
  | k + 1, hm => by
    obtain ⟨x, hx⟩ := chi_ex (rs := rs) (hm.less (Nat.le_succ k))
    have hP := (hm.less (Nat.le_succ k)).pos
    obtain ⟨h2, hg⟩ := hm k (by omega)
    obtain ⟨u, y, hb⟩ := bez (ms k).toNat (prodI ms k).toNat
    have e1 : ((prodI ms k).toNat : Int) = prodI ms k := Int.toNat_of_nonneg (by omega)
    have e2 : ((ms k).toNat : Int) = ms k := Int.toNat_of_nonneg (by omega)
    have e3 : Nat.gcd (prodI ms k).toNat (ms k).toNat = 1 := by
      rw [← hg, Int.gcd, show (prodI ms k).natAbs = (prodI ms k).toNat by omega, show (ms k).natAbs = (ms k).toNat by omega]
    rw [e1, e2, e3] at hb
    refine ⟨_, hx.step (u := u) (by omega) hP ⟨-y, ?_⟩⟩
    have : ((1 : Nat) : Int) = 1 := rfl
    rw [this] at hb
    rw [Int.mul_neg]
    omega
/-- What the law asks of what ChineseOf finds. -/
theorem chinese_law {rs ms : List Int} {x n : Int} (h : chiX rs ms = (x, n, true)) : modB ms = true ∧ rs.length = ms.length ∧ nums rs = true ∧ n = prodI (atL ms) ms.length ∧ 0 ≤ x ∧ x < n ∧ n ≤ 400000000 ∧ (∀ i, i < ms.length → Int.tmod (x - atL rs i) (atL ms i) = 0) ∧ (∀ i, i < ms.length → 2 ≤ atL ms i ∧ atL ms i ≤ 400000000) := by
  have h0 : (chiX rs ms).2.2 = true := by rw [h]
  have hm : modB ms = true := by
    cases hb : modB ms with
    | true => rfl
    | false => rw [chiX_no (.inl hb)] at h0; cases h0
  obtain ⟨-, hmo, hr, hp⟩ := modB_says hm
  obtain ⟨-, h2, h3, h4, h5⟩ := chiX_says h0 (chi_ex hmo)
  rw [h] at h4 h5
  have h4 : n = prodI (atL ms) ms.length := h4
  have h5 : ChiP (atL rs) (atL ms) ms.length x := h5
  refine ⟨hm, h2, h3, h4, h5.1.1, by rw [h4]; exact h5.1.2, by rw [h4]; exact hp _ (Nat.le_refl _), fun i hi => Int.tmod_eq_zero_of_dvd (h5.2 i hi), hr⟩

/-! ### SymmetricOf -/
def symX (x m : Int) : Int × Bool := if NumP x ∧ 1 ≤ m ∧ m ≤ 400000000 then (symM x m, true) else (0, false)
theorem symX_no {x m : Int} (h : ¬ (NumP x ∧ 1 ≤ m ∧ m ≤ 400000000)) : symX x m = (0, false) := if_neg h
theorem symX_yes {x m : Int} (h : NumP x ∧ 1 ≤ m ∧ m ≤ 400000000) : symX x m = (symM x m, true) := if_pos h

/-- What the law asks of SymmetricOf there. -/
theorem symm_law {x n : Int} (h0 : 0 ≤ x) (h1 : x < n) (h2 : n ≤ 400000000) : symX x n = (symM x n, true) ∧ Int.tmod (x - symM x n) n = 0 ∧ 2 * symM x n ≤ n ∧ -n < 2 * symM x n := by
  obtain ⟨s1, s2, s3⟩ := symM_says (x := x) (m := n) (by omega)
  exact ⟨symX_yes ⟨⟨by omega, by omega⟩, by omega, h2⟩, Int.tmod_eq_zero_of_dvd s1.symm, s2, s3⟩

/-! ### RowBound -/
/-- The sum of the first j absolute values of row i. -/
def rowA (n : Nat) (xs : List Int) (i j : Nat) : Int := sumN j fun k => ((xs.getD (i * n + k) 0).natAbs : Int)
theorem rowA_zero (n : Nat) (xs : List Int) (i : Nat) : rowA n xs i 0 = 0 := rfl
theorem rowA_step (n : Nat) (xs : List Int) (i j : Nat) : rowA n xs i (j + 1) = rowA n xs i j + ((xs.getD (i * n + j) 0).natAbs : Int) := rfl
theorem rowA_nonneg (n : Nat) (xs : List Int) (i j : Nat) : 0 ≤ rowA n xs i j := sumN_nonneg fun _ _ => Int.natCast_nonneg _
theorem rowA_mono (n : Nat) (xs : List Int) (i : Nat) : ∀ {j k : Nat}, j ≤ k → rowA n xs i j ≤ rowA n xs i k
  | j, 0, h => by obtain rfl : j = 0 := by omega
                  exact Int.le_refl _
  | j, k + 1, h => by
    rcases Nat.lt_or_ge j (k + 1) with h1 | h1
    · have := rowA_mono n xs i (j := j) (k := k) (by omega)
      rw [rowA_step]; omega
    · obtain rfl : j = k + 1 := by omega
      exact Int.le_refl _
theorem rowA_abs (n : Nat) (xs : List Int) (i : Nat) : rowA n xs i n = absR n (mxL n xs) i := rfl
/-- The product of the first i sums, where all is within the limit. -/
def bndTo (n : Nat) (xs : List Int) : Nat → Option Int
  | 0 => some 1
  | i + 1 => match bndTo n xs i with
    | none => none
    | some P => if rowA n xs i n ≤ 400000000 ∧ P * rowA n xs i n ≤ 400000000 then some (P * rowA n xs i n) else none
theorem bndTo_none {n : Nat} {xs : List Int} {i : Nat} (h : bndTo n xs i = none) : ∀ j, i ≤ j → bndTo n xs j = none
  | 0, hj => by obtain rfl : i = 0 := by omega
                exact h
  | j + 1, hj => by
    rcases Nat.lt_or_ge i (j + 1) with h1 | h1
    · show (match bndTo n xs j with | none => none | some P => _) = none
      rw [bndTo_none h j (by omega)]
    · obtain rfl : i = j + 1 := by omega
      exact h
theorem bndTo_yes {n : Nat} {xs : List Int} {i : Nat} {P : Int} (h : bndTo n xs i = some P) (h1 : rowA n xs i n ≤ 400000000) (h2 : P * rowA n xs i n ≤ 400000000) : bndTo n xs (i + 1) = some (P * rowA n xs i n) := by
  show (match bndTo n xs i with | none => none | some P => if rowA n xs i n ≤ 400000000 ∧ P * rowA n xs i n ≤ 400000000 then some (P * rowA n xs i n) else none) = _
  rw [h]
  exact if_pos ⟨h1, h2⟩
theorem bndTo_no {n : Nat} {xs : List Int} {i : Nat} {P : Int} (h : bndTo n xs i = some P) (h1 : 400000000 < rowA n xs i n ∨ 400000000 < P * rowA n xs i n) : bndTo n xs (i + 1) = none := by
  show (match bndTo n xs i with | none => none | some P => if rowA n xs i n ≤ 400000000 ∧ P * rowA n xs i n ≤ 400000000 then some (P * rowA n xs i n) else none) = _
  rw [h]
  exact if_neg (by omega)
theorem bndTo_says {n : Nat} {xs : List Int} : ∀ {i : Nat} {P : Int}, bndTo n xs i = some P → 0 ≤ P ∧ P ≤ 400000000 ∧ P = prodI (absR n (mxL n xs)) i
  | 0, P, h => by
    cases h
    exact ⟨by decide, by decide, rfl⟩
  | i + 1, P, h => by
    cases hb : bndTo n xs i with
    | none => rw [bndTo_none hb (i + 1) (by omega)] at h; cases h
    | some Q =>
      obtain ⟨q0, q1, q2⟩ := bndTo_says hb
      have r0 := rowA_nonneg n xs i n
      by_cases h1 : rowA n xs i n ≤ 400000000 ∧ Q * rowA n xs i n ≤ 400000000
      · rw [bndTo_yes hb h1.1 h1.2] at h
        cases h
        refine ⟨Int.mul_nonneg q0 r0, h1.2, ?_⟩
        show _ = prodI (absR n (mxL n xs)) i * absR n (mxL n xs) i
        rw [← q2]; rfl
      · rw [bndTo_no hb (by omega)] at h; cases h
/-- What RowBound answers. -/
def bndX (r c : Int) (xs : List Int) : Int × Bool := if isSq r c xs = true then (match bndTo r.toNat xs r.toNat with | some P => (P, true) | none => (0, false)) else (0, false)
theorem bndX_sq {r c : Int} {xs : List Int} (h : isSq r c xs = false) : bndX r c xs = (0, false) := by unfold bndX; rw [h]; rfl
theorem bndX_yes {n : Nat} {xs : List Int} {P : Int} (h : isSq n n xs = true) (hb : bndTo n xs n = some P) : bndX n n xs = (P, true) := by
  unfold bndX; rw [h, if_pos rfl]
  show (match bndTo n xs n with | some P => (P, true) | none => (0, false)) = _
  rw [hb]
theorem bndX_no {n : Nat} {xs : List Int} (h : isSq n n xs = true) (hb : bndTo n xs n = none) : bndX n n xs = (0, false) := by
  unfold bndX; rw [h, if_pos rfl]
  show (match bndTo n xs n with | some P => (P, true) | none => (0, false)) = _
  rw [hb]
theorem bndX_says {r c : Int} {xs : List Int} (h : (bndX r c xs).2 = true) : ∃ n : Nat, r = n ∧ c = n ∧ n ≤ 6 ∧ xs.length = n * n ∧ nums xs = true ∧ 0 ≤ (bndX r c xs).1 ∧ (bndX r c xs).1 ≤ 400000000 ∧ ((det n (mxL n xs)).natAbs : Int) ≤ (bndX r c xs).1 := by
  rcases Bool.eq_false_or_eq_true (isSq r c xs) with hs | hs
  rotate_left
  · rw [bndX_sq hs] at h; cases h
  obtain ⟨n, rfl, rfl, h6, hl, hn⟩ := isSq_says hs
  cases hb : bndTo n xs n with
  | none => rw [bndX_no hs hb] at h; cases h
  | some P =>
    rw [bndX_yes hs hb]
    obtain ⟨p0, p1, p2⟩ := bndTo_says hb
    exact ⟨n, rfl, rfl, h6, hl, hn, p0, p1, by show _ ≤ P; rw [p2]; exact det_bound n _⟩

/-! ### DeterminantByImages -/
/-- The primes that are taken, and what they come to. -/
def pr9 : Nat → Int
  | 0 => 101
  | 1 => 103
  | 2 => 107
  | 3 => 109
  | _ => 113
def pp9 : Nat → Int
  | 0 => 1
  | 1 => 101
  | 2 => 10403
  | 3 => 1113121
  | _ => 121330189
theorem pp9_prod {k : Nat} (h : k ≤ 4) : prodI pr9 k = pp9 k := by
  rcases (show k = 0 ∨ k = 1 ∨ k = 2 ∨ k = 3 ∨ k = 4 by omega) with rfl | rfl | rfl | rfl | rfl <;> rfl
theorem pr9_prm : ∀ i, i < 4 → prmB (pr9 i) = true := by
  intro i hi
  rcases (show i = 0 ∨ i = 1 ∨ i = 2 ∨ i = 3 by omega) with rfl | rfl | rfl | rfl <;> decide +kernel
/-- Between them there is no prime. -/
theorem pr9_gap : ∀ p : Nat, 101 ≤ p → p ≤ 113 → prmB (p : Int) = true → p = 101 ∨ p = 103 ∨ p = 107 ∨ p = 109 ∨ p = 113 := by
  intro p h1 h2
  rcases (show p = 101 ∨ p = 102 ∨ p = 103 ∨ p = 104 ∨ p = 105 ∨ p = 106 ∨ p = 107 ∨ p = 108 ∨ p = 109 ∨ p = 110 ∨ p = 111 ∨ p = 112 ∨ p = 113 by omega) with rfl | rfl | rfl | rfl | rfl | rfl | rfl | rfl | rfl | rfl | rfl | rfl | rfl <;> decide +kernel
theorem pr9_modu {k : Nat} (h : k ≤ 4) : Modu pr9 k := Modu.primes (fun i hi => (prmB_says (pr9_prm i (by omega))).1) fun i j hij hj => by
  rcases (show (i = 0 ∧ j = 1) ∨ (i = 0 ∧ j = 2) ∨ (i = 0 ∧ j = 3) ∨ (i = 1 ∧ j = 2) ∨ (i = 1 ∧ j = 3) ∨ (i = 2 ∧ j = 3) by omega) with ⟨rfl, rfl⟩ | ⟨rfl, rfl⟩ | ⟨rfl, rfl⟩ | ⟨rfl, rfl⟩ | ⟨rfl, rfl⟩ | ⟨rfl, rfl⟩ <;> decide
/-- What DeterminantByImages answers. -/
def imX (r c : Int) (xs : List Int) : Int × Bool := if (bndX r c xs).2 = true ∧ 2 * (bndX r c xs).1 < 121330189 then (det r.toNat (mxL r.toNat xs), true) else (0, false)
theorem imX_yes {n : Nat} {xs : List Int} {k : Nat} (hk : k ≤ 4) {x : Int} (h : (bndX n n xs).2 = true) (hb : 2 * (bndX n n xs).1 < pp9 k) (hx : ChiP (fun i => det n (mxL n xs) % pr9 i) pr9 k x) : imX n n xs = (symM x (pp9 k), true) := by
  obtain ⟨n', hn, -, -, -, -, b0, b1, bd⟩ := bndX_says h
  obtain rfl : n = n' := by omega
  have e := chi_img (pr9_modu hk) hx bd (by rw [pp9_prod hk]; exact hb)
  rw [pp9_prod hk] at e
  have hle : pp9 k ≤ 121330189 := by
    rcases (show k = 0 ∨ k = 1 ∨ k = 2 ∨ k = 3 ∨ k = 4 by omega) with rfl | rfl | rfl | rfl | rfl <;> decide
  unfold imX
  rw [if_pos ⟨h, by omega⟩, e]; rfl
theorem imX_no {r c : Int} {xs : List Int} (h : (bndX r c xs).2 = false ∨ 121330189 ≤ 2 * (bndX r c xs).1) : imX r c xs = (0, false) := by
  unfold imX
  refine if_neg fun h2 => ?_
  rcases h with h | h
  · rw [h] at h2; cases h2.1
  · omega
/-- The three roads: where the determinant is found by images, it is the determinant. -/
theorem imX_det {r c : Int} {xs : List Int} (h : (imX r c xs).2 = true) : (bndX r c xs).2 = true ∧ ∃ n : Nat, r = n ∧ c = n ∧ (imX r c xs).1 = det n (mxL n xs) := by
  unfold imX at h ⊢
  by_cases h1 : (bndX r c xs).2 = true ∧ 2 * (bndX r c xs).1 < 121330189
  · rw [if_pos h1]
    obtain ⟨n, rfl, rfl, -⟩ := bndX_says h1.1
    exact ⟨h1.1, n, rfl, rfl, rfl⟩
  · rw [if_neg h1] at h; cases h
theorem roads_image {r c d : Int} {xs : List Int} (h1 : (detOf r c xs).1 = d) (h2 : (detOf r c xs).2 = true) (h3 : (imX r c xs).2 = true) : d = (imX r c xs).1 := by
  obtain ⟨n, hr, -, -, -, -, -, -, ed⟩ := detOf_says h1 h2
  obtain ⟨-, m, hm, -, e⟩ := imX_det h3
  obtain rfl : n = m := by omega
  rw [e, ed]
theorem roads_bound {r c d : Int} {xs : List Int} (h1 : (detOf r c xs).1 = d) (h2 : (detOf r c xs).2 = true) (h3 : (bndX r c xs).2 = true) : (d.natAbs : Int) ≤ (bndX r c xs).1 := by
  obtain ⟨n, hr, -, -, -, -, -, -, ed⟩ := detOf_says h1 h2
  obtain ⟨m, hm, -, -, -, -, -, -, e⟩ := bndX_says h3
  obtain rfl : n = m := by omega
  rw [ed]; exact e
end Go.Proofs.Ytgemkfcapkfdbaa
end

section
/-
  Chapter 1, in the model: GcdOf.
-/
namespace Go.Proofs.Ytgemkfcapkfdbaa
open Go.RowKit

set_option maxHeartbeats 400000 in
theorem sGcd (a b : Int) (w : World) (ha : -400000000 ≤ a ∧ a ≤ 400000000) (hb : -400000000 ≤ b ∧ b ≤ 400000000) :
    Calls Try.prog 60 #[.int .i64 a, .int .i64 b] w fun e w' => e = .returned (.int .i64 (Int.gcd a b : Int)) ∧ ∃ n, w' = w.drewN n := by
  obtain ⟨ha1, ha2⟩ := ha
  obtain ⟨hb1, hb2⟩ := hb
  go_enter Try.func60, Try.ntmps60
  go_wp2_with (go_at_call 38; refine (sIsNum_t _ _ (by omega) (by omega)).mono ?_; rintro e w' ⟨rfl, rfl⟩)
  go_loopw [0, 1] (fun x y wr => ∃ p q : Int, x = .int .i64 p ∧ y = .int .i64 q ∧ -400000000 ≤ p ∧ p ≤ 400000000 ∧ -400000000 ≤ q ∧ q ≤ 400000000 ∧ Int.gcd p q = Int.gcd a b ∧ ∃ n, wr = w.drewN n) (fun _ y _ => (intOf y).natAbs)
  case atStart => exact ⟨a, b, rfl, rfl, ha1, ha2, hb1, hb2, rfl, 0, rfl⟩
  case round =>
    obtain ⟨p, q, rfl, rfl, p1, p2, q1, q2, hg, n, rfl⟩ := hrel
    have HG := Lib.hid hg
    clear hg
    by_cases hq : q = 0
    · subst hq
      go_wp2
      all_goals
        go_ret
        exact ⟨by rw [← HG.out, Int.gcd_zero_right]; exact ret_int (by omega), n, rfl⟩
    · have t1 := tmod_small p q hq
      have t2 := gcd_round p q
      have b1 : -400000000 ≤ p.tmod q := by omega
      have b2 : p.tmod q ≤ 400000000 := by omega
      have T1 := Lib.hid t1
      have T2 := Lib.hid t2
      clear t1 t2
      have hq' : (q == 0) = false := by simpa using hq
      go_wp2
      go_quiet (fail)
      go_wp2
      go_roundw
      case rel => exact ⟨q, p.tmod q, rfl, rfl, q1, q2, b1, b2, T2.out.trans HG.out, _, by rw [World.drewN_drewN]⟩
      case measure => simpa [intOf] using T1.out
theorem sGcd_f (a b : Int) (w : World) (h : ¬ ((-400000000 ≤ a ∧ a ≤ 400000000) ∧ (-400000000 ≤ b ∧ b ≤ 400000000))) :
    Calls Try.prog 60 #[.int .i64 a, .int .i64 b] w fun e w' => e = .returned (.int .i64 0) ∧ w = w' := by
  by_cases ha : -400000000 ≤ a ∧ a ≤ 400000000
  · have hb : b < -400000000 ∨ 400000000 < b := by omega
    clear h
    go_enter Try.func60, Try.ntmps60
    go_wp2_with fail
    refine (sIsNum_t _ _ ha.1 ha.2).mono ?_
    rintro e w' ⟨rfl, rfl⟩
    go_wp2_with fail
    refine (sIsNum_f _ _ hb).mono ?_
    rintro e w' ⟨rfl, rfl⟩
    go_wp2_with fail
    go_ret
    exact ⟨rfl, rfl⟩
  · have ha' : a < -400000000 ∨ 400000000 < a := by omega
    clear h ha
    go_enter Try.func60, Try.ntmps60
    go_wp2_with fail
    refine (sIsNum_f _ _ ha').mono ?_
    rintro e w' ⟨rfl, rfl⟩
    go_wp2_with fail
    go_ret
    exact ⟨rfl, rfl⟩

end Go.Proofs.Ytgemkfcapkfdbaa
end

section
/-
  Chapter 1, in the program: greatestDivisor.
-/
namespace Go.Proofs.Ytgemkfcapkfdbaa
open Go.RowKit

set_option maxHeartbeats 400000 in
/-- The program's Euclid, of any two ints but the two smallest. -/
theorem iGD (a b : Int) (w : World) (ha : -9000000000000000000 ≤ a ∧ a ≤ 9000000000000000000) (hb : -9000000000000000000 ≤ b ∧ b ≤ 9000000000000000000) :
    Calls Try.prog 73 #[.int .i64 a, .int .i64 b] w fun e w' => e = .returned (.int .i64 (Int.gcd a b : Int)) ∧ ∃ n, w' = w.drewN n := by
  obtain ⟨ha1, ha2⟩ := ha
  obtain ⟨hb1, hb2⟩ := hb
  go_enter Try.func73, Try.ntmps73
  go_wp2_with fail
  go_loopw [0, 1] (fun x y wr => ∃ p q : Int, x = .int .i64 p ∧ y = .int .i64 q ∧ -9000000000000000000 ≤ p ∧ p ≤ 9000000000000000000 ∧ -9000000000000000000 ≤ q ∧ q ≤ 9000000000000000000 ∧ Int.gcd p q = Int.gcd a b ∧ ∃ n, wr = w.drewN n) (fun _ y _ => (intOf y).natAbs)
  case atStart => exact ⟨a, b, rfl, rfl, ha1, ha2, hb1, hb2, rfl, 0, rfl⟩
  case round =>
    obtain ⟨p, q, rfl, rfl, p1, p2, q1, q2, hg, n, rfl⟩ := hrel
    have HG := Lib.hid hg
    clear hg
    by_cases hq : q = 0
    · subst hq
      go_wp2
      all_goals
        go_ret
        exact ⟨by rw [← HG.out, Int.gcd_zero_right]; exact ret_int (by omega), n, rfl⟩
    · have t1 := tmod_small p q hq
      have t2 := gcd_round p q
      have b1 : -9000000000000000000 ≤ p.tmod q := by omega
      have b2 : p.tmod q ≤ 9000000000000000000 := by omega
      have T1 := Lib.hid t1
      have T2 := Lib.hid t2
      clear t1 t2
      have hq' : (q == 0) = false := by simpa using hq
      go_wp2
      go_quiet (fail)
      go_wp2
      go_roundw
      case rel => exact ⟨q, p.tmod q, rfl, rfl, q1, q2, b1, b2, T2.out.trans HG.out, _, by rw [World.drewN_drewN]⟩
      case measure => simpa [intOf] using T1.out
end Go.Proofs.Ytgemkfcapkfdbaa
end

section
/-
  Chapter 1, in the program: GcdOf.
-/
namespace Go.Proofs.Ytgemkfcapkfdbaa
open Go.RowKit

theorem iGcd (a b : Int) (w : World) (ha : -400000000 ≤ a ∧ a ≤ 400000000) (hb : -400000000 ≤ b ∧ b ≤ 400000000) :
    Calls Try.prog 43 #[.int .i64 a, .int .i64 b] w fun e w' => e = .returned (.int .i64 (Int.gcd a b : Int)) ∧ ∃ n, w' = w.drewN n := by
  go_enter Try.func43, Try.ntmps43
  go_wp2_with fail
  refine (iIsNum_t _ _ ha.1 ha.2).mono ?_
  rintro e w' ⟨rfl, rfl⟩
  go_wp2_with fail
  refine (iIsNum_t _ _ hb.1 hb.2).mono ?_
  rintro e w' ⟨rfl, rfl⟩
  go_wp2_with fail
  refine (iGD a b _ (by omega) (by omega)).mono ?_
  rintro e w' ⟨rfl, n, rfl⟩
  go_wp2_with fail
  go_ret
  exact ⟨rfl, n, rfl⟩
theorem iGcd_f (a b : Int) (w : World) (h : ¬ ((-400000000 ≤ a ∧ a ≤ 400000000) ∧ (-400000000 ≤ b ∧ b ≤ 400000000))) :
    Calls Try.prog 43 #[.int .i64 a, .int .i64 b] w fun e w' => e = .returned (.int .i64 0) ∧ w = w' := by
  by_cases ha : -400000000 ≤ a ∧ a ≤ 400000000
  · have hb : b < -400000000 ∨ 400000000 < b := by omega
    clear h
    go_enter Try.func43, Try.ntmps43
    go_wp2_with fail
    refine (iIsNum_t _ _ ha.1 ha.2).mono ?_
    rintro e w' ⟨rfl, rfl⟩
    go_wp2_with fail
    refine (iIsNum_f _ _ hb).mono ?_
    rintro e w' ⟨rfl, rfl⟩
    go_wp2_with fail
    go_ret
    exact ⟨rfl, rfl⟩
  · have ha' : a < -400000000 ∨ 400000000 < a := by omega
    clear h ha
    go_enter Try.func43, Try.ntmps43
    go_wp2_with fail
    refine (iIsNum_f _ _ ha').mono ?_
    rintro e w' ⟨rfl, rfl⟩
    go_wp2_with fail
    go_ret
    exact ⟨rfl, rfl⟩


end Go.Proofs.Ytgemkfcapkfdbaa
end

section
/-
  The model's quotient rounded down.
-/
namespace Go.Proofs.Ytgemkfcapkfdbaa
open Go.RowKit

end Go.Proofs.Ytgemkfcapkfdbaa
end

section
/-
  Chapter 1: Euclid's algorithm with coefficients, in the model and in the program.
-/
namespace Go.Proofs.Ytgemkfcapkfdbaa
open Go.RowKit

/-- The answer: g from 0 on. -/
def egOut (r : Int × Int × Int) : Int × Int × Int := if r.1 < 0 then (-r.1, -r.2.1, -r.2.2) else r
def egAns (a b : Int) : Int × Int × Int := egOut (eg a 1 0 b 0 1)
def egVal (r : Int × Int × Int) : Value := .tuple #[.int .i64 r.1, .int .i64 r.2.1, .int .i64 r.2.2, .bool true]

theorem eg_neg {a b g x y : Int} (h : eg a 1 0 b 0 1 = (g, x, y)) (hg : g < 0) : egVal (egAns a b) = .tuple #[.int .i64 (-g), .int .i64 (-x), .int .i64 (-y), .bool true] := by
  unfold egAns; rw [h]; simp [egOut, hg, egVal]
theorem eg_pos {a b g x y : Int} (h : eg a 1 0 b 0 1 = (g, x, y)) (hg : ¬ g < 0) : egVal (egAns a b) = .tuple #[.int .i64 g, .int .i64 x, .int .i64 y, .bool true] := by
  unfold egAns; rw [h]; simp [egOut, hg, egVal]

set_option maxHeartbeats 400000 in
theorem sExt (a b : Int) (w : World) (ha : -400000000 ≤ a ∧ a ≤ 400000000) (hb : -400000000 ≤ b ∧ b ≤ 400000000) :
    Calls Try.prog 39 #[.int .i64 a, .int .i64 b] w fun e w' => e = .returned (egVal (egAns a b)) ∧ ∃ n, w' = w.drewN n := by
  have i0 := Inv.start a b ha hb
  have A := Lib.hid ha
  have B := Lib.hid hb
  have I0 := Lib.hid i0
  clear i0
  obtain ⟨ha1, ha2⟩ := ha
  obtain ⟨hb1, hb2⟩ := hb
  go_enter Try.func39, Try.ntmps39
  go_wp2_with (go_at_call 38; refine (sIsNum_t _ _ (by omega) (by omega)).mono ?_; rintro e w' ⟨rfl, rfl⟩)
  go_loopw [8, 9, 10, 11, 12, 13] (fun sg sx sy sh su sv wr => ∃ g x y h u v : Int, sg = .int .i64 g ∧ sx = .int .i64 x ∧ sy = .int .i64 y ∧ sh = .int .i64 h ∧ su = .int .i64 u ∧ sv = .int .i64 v ∧ Inv a b g x y h u v ∧ eg g x y h u v = eg a 1 0 b 0 1 ∧ ∃ n, wr = w.drewN n) (fun _ _ _ sh _ _ _ => (intOf sh).natAbs)
  case atStart => exact ⟨a, 1, 0, b, 0, 1, rfl, rfl, rfl, rfl, rfl, rfl, I0.out, rfl, 0, rfl⟩
  case round =>
    obtain ⟨g, x, y, h, u, v, rfl, rfl, rfl, rfl, rfl, rfl, i, hE, n, rfl⟩ := hrel
    have HE := Lib.hid hE
    have I := Lib.hid i
    clear hE
    have ⟨g1, g2⟩ := i.g0
    have ⟨h1, h2⟩ := i.h0
    have ⟨x1, x2⟩ := i.x0
    have ⟨y1, y2⟩ := i.y0
    have ⟨u1, u2⟩ := i.u0
    have ⟨v1, v2⟩ := i.v0
    clear i
    by_cases hh : h = 0
    · subst hh
      have HE2 : Hid (eg a 1 0 b 0 1 = (g, x, y)) := by rw [← HE.out, eg_end]; exact rfl
      by_cases hg : g < 0
      · go_wp2
        refine bodyPost_ret (retFour rfl _ _ _) rfl ?_
        exact ⟨by rw [eg_neg HE2.out hg]; rfl, n, rfl⟩
      · go_wp2
        refine bodyPost_ret (retFour rfl _ _ _) rfl ?_
        exact ⟨by rw [eg_pos HE2.out (by omega)]; rfl, n, rfl⟩
    · have hh' : (h == 0) = false := by simpa using hh
      obtain ⟨⟨m1, m2⟩, ⟨m3, m4⟩, ⟨m5, m6⟩, m7, m8⟩ := I.out.fits A.out B.out hh
      have J := Lib.hid (I.out.step A.out B.out hh)
      have E := Lib.hid (eg_step g x y h u v hh)
      have L := Lib.hid (rem_lt g h hh)
      go_wp2
      go_roundw
      case rel => exact ⟨h, u, v, _, _, _, rfl, rfl, rfl, rfl, rfl, rfl, J.out, E.out.symm.trans HE.out, n, rfl⟩
      case measure => simpa [intOf] using L.out

set_option maxHeartbeats 400000 in
theorem lessT (g x y h u v q : Int) (w : World) (g1 : -1000000000 ≤ g) (g2 : g ≤ 1000000000) (x1 : -1000000000 ≤ x) (x2 : x ≤ 1000000000) (y1 : -1000000000 ≤ y) (y2 : y ≤ 1000000000)
    (h1 : -1000000000 ≤ q * h) (h2 : q * h ≤ 1000000000) (u1 : -1000000000 ≤ q * u) (u2 : q * u ≤ 1000000000) (v1 : -1000000000 ≤ q * v) (v2 : q * v ≤ 1000000000) :
    Calls Try.prog 107 #[.agg #[.int .i64 g, .int .i64 x, .int .i64 y], .agg #[.int .i64 h, .int .i64 u, .int .i64 v], .int .i64 q] w fun e w' =>
      e = .returned (.agg #[.int .i64 (g - q * h), .int .i64 (x - q * u), .int .i64 (y - q * v)]) ∧ Below w.heap.size w w' := by
  go_enter Try.func107, Try.ntmps107
  go_wp2
  refine bodyPost_ret (v := .agg #[.int .i64 (g - q * h), .int .i64 (x - q * u), .int .i64 (y - q * v)]) (by simp [results, Try.results107, go_sem]) rfl ⟨rfl, ?_⟩
  exact (((Below.refl _ _).alloc (Nat.le_refl _) _).alloc (by simp) _).alloc (by simp; omega) _

set_option maxHeartbeats 4000000 in
theorem iExt (a b : Int) (w : World) (ha : -400000000 ≤ a ∧ a ≤ 400000000) (hb : -400000000 ≤ b ∧ b ≤ 400000000) :
    Calls Try.prog 92 #[.int .i64 a, .int .i64 b] w fun e w' => e = .returned (egVal (egAns a b)) ∧ Below w.heap.size w w' := by
  have i0 := Inv.start a b ha hb
  have A := Lib.hid ha
  have B := Lib.hid hb
  have I0 := Lib.hid i0
  clear i0
  obtain ⟨ha1, ha2⟩ := ha
  obtain ⟨hb1, hb2⟩ := hb
  go_enter Try.func92, Try.ntmps92
  go_wp2_with (go_at_call 36; refine (iIsNum_t _ _ (by omega) (by omega)).mono ?_; rintro e w' ⟨rfl, rfl⟩)
  go_loopg [] b.natAbs (fun k wr => ∃ g x y h u v : Int, k = h.natAbs ∧ Inv a b g x y h u v ∧ eg g x y h u v = eg a 1 0 b 0 1 ∧ Below w.heap.size w wr ∧
      Blk3 wr w.heap.size 114 (.int .i64 g) (.int .i64 x) (.int .i64 y) ∧ Blk3 wr (w.heap.size + 1) 114 (.int .i64 h) (.int .i64 u) (.int .i64 v))
  case atStart =>
    refine ⟨a, 1, 0, b, 0, 1, rfl, I0.out, rfl, ?_, (Blk3.new _ _ _ _ _).old _, ?_⟩
    · exact ((Below.refl _ _).alloc (Nat.le_refl _) _).alloc (by simp) _
    · have := Blk3.new (w.alloc (.cells #[.int .i64 a, .int .i64 1, .int .i64 0] 114)) 114 (.int .i64 b) (.int .i64 0) (.int .i64 1)
      simpa using this
  case round =>
    obtain ⟨g, x, y, h, u, v, hk, i, hE, hbel, k1, k2⟩ := hrel
    have HK := Lib.hid hk
    have HE := Lib.hid hE
    have I := Lib.hid i
    have K1 := Lib.hid k1
    have K2 := Lib.hid k2
    have BEL := Lib.hid hbel
    have c0 := k1.cell0
    have c1 := k1.cell1
    have c2 := k1.cell2
    have d0 := k2.cell0
    have d1 := k2.cell1
    have d2 := k2.cell2
    have f0 := k1.free 0
    have f1 := k1.free 1
    have f2 := k1.free 2
    have e0 := k2.free 0
    have e1 := k2.free 1
    have e2 := k2.free 2
    have hz := k2.lt
    have hz1 := k1.lt
    clear hE k1 k2 hbel hk
    have ⟨g1, g2⟩ := i.g0
    have ⟨h1, h2⟩ := i.h0
    have ⟨x1, x2⟩ := i.x0
    have ⟨y1, y2⟩ := i.y0
    have ⟨u1, u2⟩ := i.u0
    have ⟨v1, v2⟩ := i.v0
    clear i
    by_cases hh : h = 0
    · subst hh
      have HE2 : Hid (eg a 1 0 b 0 1 = (g, x, y)) := by rw [← HE.out, eg_end]; exact rfl
      by_cases hg : g < 0
      · go_wp2_with fail
        refine (lessT 0 0 0 g x y 1 _ (by omega) (by omega) (by omega) (by omega) (by omega) (by omega) (by omega) (by omega) (by omega) (by omega) (by omega) (by omega)).mono ?_
        rintro e w1 ⟨rfl, hb1⟩
        obtain ⟨C0, C1, C2, F0, F1, F2⟩ := (K1.out.keep hb1 hz1).all
        clear c0 c1 c2 d0 d1 d2 f0 f1 f2 e0 e1 e2
        go_wp2_with fail
        go_quiet (fail)
        go_wp2_with fail
        refine bodyPost_ret (retFour rfl _ _ _) rfl ?_
        exact ⟨by rw [eg_neg HE2.out hg]; rfl, below_drewN ((((BEL.out.trans (hb1.mono (by omega))).setCell (Nat.le_refl _) _).setCell (Nat.le_refl _) _).setCell (Nat.le_refl _) _) _⟩
      · go_wp2_with fail
        go_quiet (fail)
        go_wp2_with fail
        refine bodyPost_ret (retFour rfl _ _ _) rfl ?_
        exact ⟨by rw [eg_pos HE2.out (by omega)]; rfl, below_drewN BEL.out _⟩
    · have hh' : (h == 0) = false := by simpa using hh
      obtain ⟨⟨m1, m2⟩, ⟨m3, m4⟩, ⟨m5, m6⟩, m7, m8⟩ := I.out.fits A.out B.out hh
      have J := Lib.hid (I.out.step A.out B.out hh)
      have E := Lib.hid (eg_step g x y h u v hh)
      have L := Lib.hid (rem_lt g h hh)
      go_wp2_with fail
      go_region_with (go_at_call 107; refine (lessT _ _ _ _ _ _ _ _ (by omega) (by omega) (by omega) (by omega) (by omega) (by omega) (by omega) (by omega) (by omega) (by omega) (by omega) (by omega)).mono ?_; rintro e w1 ⟨rfl, hb1⟩; obtain ⟨C0, C1, C2, F0, F1, F2⟩ := ((K1.out.drewN _).keep hb1 hz1).all; obtain ⟨D0, D1, D2, G0, G1, G2⟩ := ((K2.out.drewN _).keep hb1 hz).all)
      all_goals
        go_wp2_with fail
        go_roundg (g - g.tdiv h * h).natAbs
        case measure => rw [HK.out]; exact L.out
        case rel =>
          refine ⟨h, u, v, _, _, _, rfl, J.out, E.out.symm.trans HE.out, ?_, ?_, ?_⟩
          · exact (((((((below_drewN BEL.out _).trans (hb1.mono (Nat.le_of_lt hz1))).setCell (Nat.le_refl _) _).setCell (Nat.le_refl _) _).setCell (Nat.le_refl _) _).setCell (Nat.le_succ _) _).setCell (Nat.le_succ _) _).setCell (Nat.le_succ _) _
          · exact (((((((K1.out.drewN _).keep hb1 hz1).set0 _).set1 _).set2 _).far (by simp) _).far (by simp) _).far (by simp) _
          · exact (((((((K2.out.drewN _).keep hb1 hz).far (by simp) _).far (by simp) _).far (by simp) _).set0 _).set1 _).set2 _

theorem sExt_f (a b : Int) (w : World) (h : ¬ ((-400000000 ≤ a ∧ a ≤ 400000000) ∧ (-400000000 ≤ b ∧ b ≤ 400000000))) :
    Calls Try.prog 39 #[.int .i64 a, .int .i64 b] w fun e w' => e = .returned (.tuple #[.int .i64 0, .int .i64 0, .int .i64 0, .bool false]) ∧ w = w' := by
  by_cases ha : -400000000 ≤ a ∧ a ≤ 400000000
  · have hb : b < -400000000 ∨ 400000000 < b := by omega
    clear h
    go_enter Try.func39, Try.ntmps39
    go_wp2_with fail
    refine (sIsNum_t _ _ ha.1 ha.2).mono ?_
    rintro e w' ⟨rfl, rfl⟩
    go_wp2_with fail
    refine (sIsNum_f _ _ hb).mono ?_
    rintro e w' ⟨rfl, rfl⟩
    go_wp2_with fail
    refine bodyPost_ret (retFour rfl _ _ _) rfl ?_
    exact ⟨rfl, rfl⟩
  · have ha' : a < -400000000 ∨ 400000000 < a := by omega
    clear h ha
    go_enter Try.func39, Try.ntmps39
    go_wp2_with fail
    refine (sIsNum_f _ _ ha').mono ?_
    rintro e w' ⟨rfl, rfl⟩
    go_wp2_with fail
    refine bodyPost_ret (retFour rfl _ _ _) rfl ?_
    exact ⟨rfl, rfl⟩

theorem iExt_f (a b : Int) (w : World) (h : ¬ ((-400000000 ≤ a ∧ a ≤ 400000000) ∧ (-400000000 ≤ b ∧ b ≤ 400000000))) :
    Calls Try.prog 92 #[.int .i64 a, .int .i64 b] w fun e w' => e = .returned (.tuple #[.int .i64 0, .int .i64 0, .int .i64 0, .bool false]) ∧ w = w' := by
  by_cases ha : -400000000 ≤ a ∧ a ≤ 400000000
  · have hb : b < -400000000 ∨ 400000000 < b := by omega
    clear h
    go_enter Try.func92, Try.ntmps92
    go_wp2_with fail
    refine (iIsNum_t _ _ ha.1 ha.2).mono ?_
    rintro e w' ⟨rfl, rfl⟩
    go_wp2_with fail
    refine (iIsNum_f _ _ hb).mono ?_
    rintro e w' ⟨rfl, rfl⟩
    go_wp2_with fail
    refine bodyPost_ret (retFour rfl _ _ _) rfl ?_
    exact ⟨rfl, rfl⟩
  · have ha' : a < -400000000 ∨ 400000000 < a := by omega
    clear h ha
    go_enter Try.func92, Try.ntmps92
    go_wp2_with fail
    refine (iIsNum_f _ _ ha').mono ?_
    rintro e w' ⟨rfl, rfl⟩
    go_wp2_with fail
    refine bodyPost_ret (retFour rfl _ _ _) rfl ?_
    exact ⟨rfl, rfl⟩

/-- The answer is a greatest common divisor and a combination, and its numbers are small. -/
theorem eg_last (n : Nat) : ∀ a b g x y h u v : Int, h.natAbs = n → -400000000 ≤ a ∧ a ≤ 400000000 → -400000000 ≤ b ∧ b ≤ 400000000 → Inv a b g x y h u v →
    ∃ g' x' y' u' v' : Int, eg g x y h u v = (g', x', y') ∧ Inv a b g' x' y' 0 u' v' := by
  induction n using Nat.strongRecOn with
  | ind n ih =>
    intro a b g x y h u v hn ha hb i
    by_cases hh : h = 0
    · subst hh
      exact ⟨g, x, y, u, v, eg_end _ _ _ _ _, i⟩
    · have l := rem_lt g h hh
      rw [eg_step g x y h u v hh]
      exact ih _ (by omega) a b _ _ _ _ _ _ rfl ha hb (i.step ha hb hh)
theorem egAns_is (a b : Int) (ha : -400000000 ≤ a ∧ a ≤ 400000000) (hb : -400000000 ≤ b ∧ b ≤ 400000000) :
    ∃ x y : Int, egAns a b = ((Int.gcd a b : Int), x, y) ∧ a * x + b * y = (Int.gcd a b : Int) ∧ -400000000 ≤ x ∧ x ≤ 400000000 ∧ -400000000 ≤ y ∧ y ≤ 400000000 := by
  obtain ⟨g, x, y, u, v, he, i⟩ := eg_last _ a b a 1 0 b 0 1 rfl ha hb (Inv.start a b ha hb)
  have l := i.last
  have gc := i.gc
  have x0 := i.x0
  have y0 := i.y0
  unfold egAns egOut
  rw [he]
  by_cases hg : g < 0
  · refine ⟨-x, -y, ?_, ?_, by omega, by omega, by omega, by omega⟩
    · simp only [hg, if_true]
      rw [show -g = (Int.gcd a b : Int) from by omega]
    · rw [Int.mul_neg, Int.mul_neg]; omega
  · refine ⟨x, y, ?_, by omega, by omega, by omega, by omega, by omega⟩
    simp only [hg, if_false]
    rw [show g = (Int.gcd a b : Int) from by omega]

end Go.Proofs.Ytgemkfcapkfdbaa
end

section
/-
  Chapter 8, in the model: residues from 0 on, IsPrime, InverseModulo.
-/
namespace Go.Proofs.Ytgemkfcapkfdbaa
set_option maxRecDepth 100000
open Go.RowKit

theorem tmod_in {n p : Int} (hp : 0 < p) : -p < n.tmod p ∧ n.tmod p < p := by
  refine ⟨?_, Int.tmod_lt_of_pos n hp⟩
  have h1 := Int.tmod_lt_of_pos (-n) hp
  rw [Int.neg_tmod] at h1
  omega
theorem sMod (n p : Int) (w : World) (hp : 0 < p) (hp2 : p ≤ 1000000000) :
    Calls Try.prog 40 #[.int .i64 n, .int .i64 p] w fun e w' => e = .returned (.int .i64 (n % p)) ∧ w = w' := by
  have t1 := tmod_in (n := n) hp
  have E : Hid ((n.tmod p + p) % p = n % p) := by
    show _ = _
    rw [← mod_go (n := n) hp, Int.tmod_eq_emod_of_nonneg (a := n.tmod p + p) (by omega)]
  have h0 : (p == 0) = false := by simp; omega
  go_enter Try.func40, Try.ntmps40
  go_wp2_with fail
  go_ret
  exact ⟨by show Ending.returned (Value.int .i64 ((n.tmod p + p) % p)) = _; rw [E.out], rfl⟩
theorem sPrime (p : Int) (w : World) : Calls Try.prog 65 #[.int .i64 p] w fun e w' => e = .returned (.bool (prmB p)) ∧ w = w' := by
  by_cases h : 2 ≤ p ∧ p ≤ 10000
  · have FB : Hid (∀ d : Nat, 2 ≤ d → (d : Int) * (d : Int) ≤ p → (d : Int) ∣ p → prmB p = false) := fun d => prmB_div
    have FT : Hid ((∀ d : Nat, 2 ≤ d → (d : Int) * (d : Int) ≤ p → ¬ (d : Int) ∣ p) → prmB p = true) := prmB_true h
    generalize prmB p = b at FB FT ⊢
    obtain ⟨h1, h2⟩ := h
    go_enter Try.func65, Try.ntmps65
    go_wp2_with fail
    refine (sIn_t p 2 10000 _ h1 h2).mono ?_
    rintro e w' ⟨rfl, rfl⟩
    go_wp2_with fail
    go_loopw [3] (fun v3 wr => ∃ d : Nat, v3 = .int .i64 d ∧ 2 ≤ d ∧ d ≤ 101 ∧ (∀ k : Nat, 2 ≤ k → k < d → (k : Int) * (k : Int) ≤ p → ¬ (k : Int) ∣ p) ∧ wr = w) (fun v3 _ => 200 - (intOf v3).toNat)
    case atStart => exact ⟨2, rfl, by omega, by omega, fun k _ h => by omega, rfl⟩
    case round =>
      obtain ⟨d, rfl, d1, d2, hd, rfl⟩ := hrel
      have HD := Lib.hid hd
      clear hd
      have q0 : (d : Int) * (d : Int) = ((d * d : Nat) : Int) := (Int.natCast_mul _ _).symm
      have q1 : d * d ≤ 101 * 101 := Nat.mul_le_mul d2 d2
      have Q := Lib.hid q0
      obtain ⟨q, hq⟩ : ∃ q, d * d = q := ⟨_, rfl⟩
      have HQ := Lib.hid hq
      rw [hq] at q0 q1
      have w1 : IntKind.i64.wrap ((d : Int) * (d : Int)) = (q : Int) := by rw [q0]; exact IntWalk.i64_in _ (by omega)
      clear q0 hq
      by_cases hp : (q : Int) ≤ p
      · have d3 : d ≤ 100 := by
          rcases Nat.lt_or_ge 100 d with h | h
          · have : 101 * 101 ≤ d * d := Nat.mul_le_mul h h
            have := HQ.out
            omega
          · exact h
        have n0 : ((d : Int) == 0) = false := by simp; omega
        have X : Hid ((d : Int) ∣ p ↔ p % (d : Int) = 0) := ⟨Int.emod_eq_zero_of_dvd, Int.dvd_of_emod_eq_zero⟩
        by_cases h0 : p % (d : Int) = 0
        · have n1 : (p % (d : Int) == 0) = true := by simp [h0]
          have R : Hid (b = false) := FB.out d d1 (by rw [Q.out, HQ.out]; exact hp) (X.out.mpr h0)
          clear h0
          go_wp2_with fail
          go_ret
          exact ⟨by rw [R.out]; rfl, rfl⟩
        · have n1 : (p % (d : Int) == 0) = false := by simpa using h0
          have ND : Hid (¬ (d : Int) ∣ p) := fun hdv => h0 (X.out.mp hdv)
          have HD2 : Hid (∀ k : Nat, 2 ≤ k → k < d + 1 → (k : Int) * (k : Int) ≤ p → ¬ (k : Int) ∣ p) := fun k k1 k2 k3 => by
            rcases Nat.lt_or_ge k d with h | h
            · exact HD.out k k1 h k3
            · obtain rfl : k = d := by omega
              exact ND.out
          clear h0
          go_wp2_with fail
          go_roundw
          case rel => exact ⟨d + 1, by go_num, by omega, by omega, HD2.out, trivial⟩
          case measure => simp [intOf]; omega
      · have R : Hid (b = true) := FT.out fun k k1 k2 => by
          rcases Nat.lt_or_ge k d with h | h
          · exact HD.out k k1 h k2
          · have h3 : d * d ≤ k * k := Nat.mul_le_mul h h
            have h4 := HQ.out
            rw [← Int.natCast_mul] at k2
            have h5 : ((d * d : Nat) : Int) ≤ ((k * k : Nat) : Int) := Int.ofNat_le.mpr h3
            rw [h4] at h5
            omega
        go_wp2_with fail
        go_ret
        exact ⟨by rw [R.out]; rfl, rfl⟩
  · have E : Hid (prmB p = false) := prmB_out (by omega)
    have h' : p < 2 ∨ 10000 < p := by omega
    clear h
    go_enter Try.func65, Try.ntmps65
    go_wp2_with fail
    refine (sIn_f p 2 10000 _ h').mono ?_
    rintro e w' ⟨rfl, rfl⟩
    go_wp2_with fail
    go_ret
    exact ⟨by rw [E.out]; rfl, rfl⟩
theorem ivM_no1 {p a : Int} (h : prmB p = false) : ivM p a = (0, false) := by unfold ivM; rw [h]; rfl
theorem ivM_no2 {p a : Int} (h : ¬ NumP a) : ivM p a = (0, false) := by unfold ivM; rw [decide_eq_false h, Bool.and_false, Bool.false_and]; rfl
theorem ivM_no3 {p a : Int} (h : a % p = 0) : ivM p a = (0, false) := by unfold ivM; rw [decide_eq_false (by omega : ¬ a % p ≠ 0), Bool.and_false]; rfl
theorem ivM_yes {p a y : Int} (h1 : prmB p = true) (h2 : NumP a) (h : a % p = y) (h3 : y ≠ 0) : ivM p a = (invF p y, true) := by
  unfold ivM
  rw [h1, decide_eq_true h2, h, decide_eq_true h3]; rfl
/-- The combination that ExtendedGcd makes of a residue that is not 0 and the prime. -/
theorem ext_res {p y : Int} (hp : Prm p) (hp2 : p ≤ 10000) (h0 : 0 ≤ y) (hy : y < p) (hn : y ≠ 0) : ∃ x z : Int, egAns y p = (1, x, z) ∧ invF p y = x % p ∧ -400000000 ≤ x ∧ x ≤ 400000000 := by
  have hp1 := hp.1
  obtain ⟨x, z, e, hxz, b1, b2, -, -⟩ := egAns_is y p ⟨by omega, by omega⟩ ⟨by omega, by omega⟩
  have hg : (Int.gcd y p : Int) = 1 := by have := hp.gcd (can_nd ⟨h0, hy⟩ hn); omega
  rw [hg] at e hxz
  exact ⟨x, z, e, invF_ext hp hxz rfl, b1, b2⟩
theorem sInvM (a p : Int) (w : World) : Calls Try.prog 106 #[.int .i64 a, .int .i64 p] w fun e w' => e = .returned (.tuple #[.int .i64 (ivM p a).1, .bool (ivM p a).2]) ∧ ∃ n, w' = w.drewN n := by
  have W0 : Hid (∃ n, w = w.drewN n) := ⟨0, rfl⟩
  rcases Bool.eq_false_or_eq_true (prmB p) with h1 | h1
  · obtain ⟨hp, hp2⟩ := prmB_says h1
    have hp1 := hp.1
    have P1 := Lib.hid h1
    by_cases h2 : NumP a
    · obtain ⟨y, hy⟩ : ∃ y, a % p = y := ⟨_, rfl⟩
      have Y := Lib.hid hy
      by_cases h3 : y = 0
      · have V : Hid (ivM p a = (0, false)) := ivM_no3 (by rw [hy, h3])
        have n3 : (y == 0) = true := by simp [h3]
        clear h1 h3 hy hp
        go_enter Try.func106, Try.ntmps106
        go_wp2_with fail
        refine (sPrime p _).mono ?_
        rintro e w' ⟨rfl, rfl⟩
        rw [P1.out]
        go_wp2_with fail
        refine (sIsNum_t a _ h2.1 h2.2).mono ?_
        rintro e w' ⟨rfl, rfl⟩
        go_wp2_with fail
        refine (sMod a p _ (by omega) (by omega)).mono ?_
        rintro e w' ⟨rfl, rfl⟩
        rw [Y.out]
        go_wp2_with fail
        exact bodyPost_ret (v := .tuple #[.int .i64 0, .bool false]) (by simp [results, Try.results106, go_sem]) rfl ⟨by rw [V.out], W0.out⟩
      · have V := Lib.hid (ivM_yes h1 h2 hy h3)
        have n3 : (y == 0) = false := by simpa using h3
        have y0 : 0 ≤ y := by rw [← hy]; exact Int.emod_nonneg _ (by omega)
        have y1 : y < p := by rw [← hy]; exact Int.emod_lt_of_pos _ (by omega)
        obtain ⟨x, z, hx, hi, b1, b2⟩ := ext_res hp hp2 y0 y1 h3
        have HI := Lib.hid hi
        have HX : Hid (egVal (egAns y p) = .tuple #[.int .i64 1, .int .i64 x, .int .i64 z, .bool true]) := by show _ = _; rw [hx]; rfl
        clear h1 h3 hy hp hi hx
        go_enter Try.func106, Try.ntmps106
        go_wp2_with fail
        refine (sPrime p _).mono ?_
        rintro e w' ⟨rfl, rfl⟩
        rw [P1.out]
        go_wp2_with fail
        refine (sIsNum_t a _ h2.1 h2.2).mono ?_
        rintro e w' ⟨rfl, rfl⟩
        go_wp2_with fail
        refine (sMod a p _ (by omega) (by omega)).mono ?_
        rintro e w' ⟨rfl, rfl⟩
        rw [Y.out]
        go_wp2_with fail
        refine (sMod a p _ (by omega) (by omega)).mono ?_
        rintro e w' ⟨rfl, rfl⟩
        rw [Y.out]
        go_wp2_with fail
        refine (sExt y p _ ⟨by omega, by omega⟩ ⟨by omega, by omega⟩).mono ?_
        rintro e w' ⟨rfl, n, rfl⟩
        rw [HX.out]
        go_wp2_with fail
        refine (sMod x p _ (by omega) (by omega)).mono ?_
        rintro e w' ⟨rfl, rfl⟩
        go_wp2_with fail
        exact bodyPost_ret (v := .tuple #[.int .i64 (x % p), .bool true]) (by simp [results, Try.results106, go_sem]) rfl ⟨by rw [V.out, ← HI.out], n, rfl⟩
    · have V := Lib.hid (ivM_no2 (p := p) h2)
      have h2' : a < -400000000 ∨ 400000000 < a := by unfold NumP at h2; omega
      clear h1 h2 hp
      go_enter Try.func106, Try.ntmps106
      go_wp2_with fail
      refine (sPrime p _).mono ?_
      rintro e w' ⟨rfl, rfl⟩
      rw [P1.out]
      go_wp2_with fail
      refine (sIsNum_f a _ h2').mono ?_
      rintro e w' ⟨rfl, rfl⟩
      go_wp2_with fail
      exact bodyPost_ret (v := .tuple #[.int .i64 0, .bool false]) (by simp [results, Try.results106, go_sem]) rfl ⟨by rw [V.out], W0.out⟩
  · have V := Lib.hid (ivM_no1 (a := a) h1)
    have P1 := Lib.hid h1
    clear h1
    go_enter Try.func106, Try.ntmps106
    go_wp2_with fail
    refine (sPrime p _).mono ?_
    rintro e w' ⟨rfl, rfl⟩
    rw [P1.out]
    go_wp2_with fail
    exact bodyPost_ret (v := .tuple #[.int .i64 0, .bool false]) (by simp [results, Try.results106, go_sem]) rfl ⟨by rw [V.out], W0.out⟩
end Go.Proofs.Ytgemkfcapkfdbaa
end
