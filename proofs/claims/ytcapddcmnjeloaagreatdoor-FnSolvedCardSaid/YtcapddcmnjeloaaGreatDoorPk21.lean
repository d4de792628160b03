/-
  Texts of this seat, joined: ZBLfI · ZBPbI · ZBRcIa · ZBRcI · ZBLfF · ZBRgY · ZBPrI4 · ZBAsH
-/
import Derived.StillTailTactics
import Derived.BigQuiet
import Derived.Deep.CutBlock
import Derived.Deep.DeepCutAuto
import Derived.Deep.QuietTactic
import Derived.WalkMore
import Derived.Test.YtcapddcmnjeloaaGreatDoorProg
import Derived.RangeFuncNested
import Derived.RangeFuncBound
import Derived.RangeFuncCalls
import Derived.RangeFuncLeaves
import Derived.Maps.OwnIn
import Derived.Test.YtcapddcmnjeloaaGreatDoorChecked
import Derived.WalkKit
import Derived.LaidEql
import Derived.Stop.Asserts
import Derived.RowKitTokens
import Derived.Test.YtcapddcmnjeloaaGreatDoorPk12
import Derived.Test.YtcapddcmnjeloaaGreatDoorPk14
import Derived.Test.YtcapddcmnjeloaaGreatDoorPk15
import Derived.Test.YtcapddcmnjeloaaGreatDoorPk16
import Derived.Test.YtcapddcmnjeloaaGreatDoorPk17
import Derived.Test.YtcapddcmnjeloaaGreatDoorPk18
import Derived.Test.YtcapddcmnjeloaaGreatDoorPk19

section
/-
  Chapter 11, in the program: lift.
-/
namespace Go.Proofs.YtcapddcmnjeloaaGreatDoor
set_option maxRecDepth 100000
open Go.RowKit
theorem Ints.none_ {w : World} {g : Nat} {zs : List Int} (h : Ints w g zs) : Ints w g [] := by
  obtain ⟨rest, h⟩ := h
  exact ⟨zs.map (Value.int .i64) ++ rest, by rw [List.map_nil, List.nil_append]; exact h⟩
theorem rest_of {w : World} {B b0 n cr gx : Nat} {qr : Option Addr} {bs us : List Int} (h : Own B w (.slice qr n cr) bs) (hl : bs.length = n) (hx : Ints w gx us) (h0 : b0 ≤ gx) (hne : ∀ g, B ≤ g → qr = some ⟨g, 0, none⟩ → gx ≠ g ∧ b0 ≤ g) : ∃ gr, (0 < n → qr = some ⟨gr, 0, none⟩ ∧ gx ≠ gr) ∧ Ints w gr bs ∧ b0 ≤ gr := by
  rcases h.cases with ⟨-, e⟩ | ⟨g, c, e, hB, hi, -⟩
  · subst e
    simp only [List.length_nil] at hl
    exact ⟨gx, fun h => by omega, hx.none_, h0⟩
  · injection e with e1 e2 e3
    have := hne g hB e1
    exact ⟨g, fun _ => ⟨e1, this.1⟩, hi, this.2⟩
theorem Own.ltq {w : World} {B n cr g : Nat} {qr : Option Addr} {bs : List Int} (h : Own B w (.slice qr n cr) bs) (e : qr = some ⟨g, 0, none⟩) : g < w.heap.size := by
  subst e
  rcases h with ⟨e, -⟩ | ⟨g', c, e, -, hi, -⟩
  · injection e with e1; cases e1
  · injection e with e1 e2 e3
    injection e1 with e1
    injection e1 with e1 _
    subst e1
    exact hi.lt
set_option maxHeartbeats 8000000 in
theorem iLift (p : Int) (n N : Nat) (a : Option Addr) (m : Nat) (xs : List Int) (q : Option Addr) (cap : Nat) (vs : List Int) (ab : Option Addr) (mb : Nat) (bs : List Int) (w : World) (H : LfH p n xs vs bs) (hN : n * n = N) (h : Rd w a xs) (hc : CelA a N m) (hv : Rd w q vs) (hq : CelA q N cap) (hb : Rd w ab bs) :
    Calls Tryz.prog 135 #[.agg #[.int .i64 n, .int .i64 n, .slice a N m], .agg #[.int .i64 n, .int .i64 n, .slice q N cap], .slice ab n mb, .int .i64 p] w fun e w' => ∃ v, e = .returned (.tuple #[v, .int .i64 (p ^ lfK p)]) ∧ Own w.heap.size w' v (lfS p n xs vs bs (lfK p)).1 ∧ Below w.heap.size w w' := by
  have h6 := H.h6
  have p1 := H.lo
  have p2 := H.hi
  have N36 : N ≤ 36 := by rw [← hN]; exact Nat.mul_le_mul h6 h6
  have HH := Lib.hid H
  have RA := Lib.hid h
  have RQ := Lib.hid hv
  have CA := Lib.hid hc
  have CQ := Lib.hid hq
  have HNN := Lib.hid hN
  have HBL : Hid (bs.length = n) := H.hb
  have HXL : Hid (xs.length = n * n) := H.hx
  have HVL : Hid (vs.length = N) := by show _ = _; rw [← hN]; exact H.hv
  have CL : Hid (∀ w', Below w.heap.size w w' → Calls Tryz.prog 162 #[.slice ab n mb] w' (CopyN n bs w')) := fun w' hb' => iCloneN ab mb n bs H.hb w' (hb.below hb') (by omega)
  have RW : Hid (∀ i, i < n → ∀ w', Calls Tryz.prog 44 #[.agg #[.int .i64 n, .int .i64 n, .slice a N m], .int .i64 i] w' (RowAt a (i * n) n w')) := fun i hi w' => iRowIn n n i (i * n) N m a w' CA.out.spot rfl (by rw [← hN, ← Nat.succ_mul]; exact Nat.mul_le_mul_right _ hi) CA.out.le CA.out.nil (by omega) (by omega)
  have TM : Hid (∀ (qr : Option Addr) (cr k : Nat) (w' : World), Below w.heap.size w w' → Rd w' qr (lfS p n xs vs bs k).2 → Calls Tryz.prog 164 #[.agg #[.int .i64 n, .int .i64 n, .slice q N cap], .slice qr n cr, .int .i64 p] w' (Copy (solL p n vs (lfS p n xs vs bs k).2) w')) := fun qr cr k w' hb' hr => iTimes n N p q cap vs qr cr _ w' (RQ.out.below hb') hN HVL.out H.can CQ.out.spot CQ.out.le CQ.out.nil (by omega) (by omega) (by omega) hr (H.rest k).1 (H.rest k).2
  have MKI := makeInts n (by omega)
  clear h hv hc hq hN hb H
  have KA : Hid (Blk3 ((w.alloc (.cells #[.int .i64 n, .int .i64 n, .slice a N m] 26)).alloc (.cells #[.int .i64 n, .int .i64 n, .slice q N cap] 26)) w.heap.size 26 (.int .i64 n) (.int .i64 n) (.slice a N m)) := (Blk3.at_ _ _ _ _ rfl).old _
  have KB : Hid (Blk3 ((w.alloc (.cells #[.int .i64 n, .int .i64 n, .slice a N m] 26)).alloc (.cells #[.int .i64 n, .int .i64 n, .slice q N cap] 26)) (w.heap.size + 1) 26 (.int .i64 n) (.int .i64 n) (.slice q N cap)) := Blk3.at_ _ _ _ _ (by simp)
  have B0 : Hid (Below w.heap.size w ((w.alloc (.cells #[.int .i64 n, .int .i64 n, .slice a N m] 26)).alloc (.cells #[.int .i64 n, .int .i64 n, .slice q N cap] 26))) := ((Below.refl _ _).alloc (Nat.le_refl _) _).alloc (by simp) _
  go_enter Tryz.func135, Tryz.ntmps135
  go_upto_region 1 with fail
  generalize (w.alloc (.cells #[.int .i64 n, .int .i64 n, .slice a N m] 26)).alloc (.cells #[.int .i64 n, .int .i64 n, .slice q N cap] 26) = W0 at KA KB B0 ⊢
  go_cut [10, 11, 12] from 19 to 23 (fun v10 v11 v12 wx => v12 = .int .i64 1 ∧ ∃ (gx gr : Nat) (qr : Option Addr) (cr : Nat), v10 = .slice (some ⟨gx, 0, none⟩) n n ∧ v11 = .slice qr n cr ∧ (0 < n → qr = some ⟨gr, 0, none⟩ ∧ gx ≠ gr) ∧ Ints wx gx (List.replicate n 0) ∧ Ints wx gr bs ∧ w.heap.size + 2 ≤ gx ∧ w.heap.size + 2 ≤ gr ∧ Blk3 wx w.heap.size 26 (.int .i64 n) (.int .i64 n) (.slice a N m) ∧ Blk3 wx (w.heap.size + 1) 26 (.int .i64 n) (.int .i64 n) (.slice q N cap) ∧ Below w.heap.size w wx)
  case first =>
    refine wp_region_T (S := fun _ => True) (T := fun _ => false) (by kernel_rfl) trivial (fun hH => ?_)
    have KA := Lib.hid KA.out.drew
    have KB := Lib.hid KB.out.drew
    have B0 := Lib.hid B0.out.drew
    generalize W0.drew = Wd at KA KB B0 ⊢
    refine wpAnyT_take (i := 0) (v := ?_) (by simp only [List.getElem?_toArray, List.getElem?_cons_zero]; rfl) (by kernel_rfl) (by kernel_rfl) (by kernel_rfl) (by kernel_rfl) (fun _ h => by cases h) (by exact fun _ _ _ h => h) (Or.inl ⟨by rfl, ?_⟩) trivial ?_
    rotate_left
    · (intro wS hS; clear hS; go_simp; try rfl)
    try simp only [Act.put, List.setIfInBounds_toArray, List.set_cons_zero, List.set_cons_succ]
    refine wpAnyT_take (i := 1) (v := ?_) (by simp only [List.getElem?_toArray, List.getElem?_cons_succ, List.getElem?_cons_zero]; rfl) (by kernel_rfl) (by kernel_rfl) (by kernel_rfl) (by kernel_rfl) (fun _ h => by cases h) (by exact fun _ _ _ h => h) (Or.inl ⟨by rfl, ?_⟩) trivial ?_
    rotate_left
    · (intro wS hS; clear hS; go_simp; try rfl)
    try simp only [Act.put, List.setIfInBounds_toArray, List.set_cons_zero, List.set_cons_succ]
    refine wpAnyT_take (i := 3) (v := ?_) (by simp only [List.getElem?_toArray, List.getElem?_cons_succ, List.getElem?_cons_zero]; rfl) (by kernel_rfl) (by kernel_rfl) (by kernel_rfl) (by kernel_rfl) (fun _ h => by cases h) (by exact fun _ _ _ h => h) (Or.inl ⟨by rfl, ?_⟩) trivial ?_
    rotate_left
    · (intro wS hS; clear hS; go_simp; try rfl)
    try simp only [Act.put, List.setIfInBounds_toArray, List.set_cons_zero, List.set_cons_succ]
    refine wpAnyT_ready (rs := [2, 4]) (by kernel_rfl) (by simp) ?_
    refine AllReadyT.cons (by simp only [List.getElem?_toArray, List.getElem?_cons_succ, List.getElem?_cons_zero]; rfl) (fun K hK => ?_) (AllReadyT.cons (by simp only [List.getElem?_toArray, List.getElem?_cons_succ, List.getElem?_cons_zero]; rfl) (fun K hK => ?_) (AllReadyT.nil))
    ·
      go_simp
      try dsimp only
      refine hK.out _ _ (fun _ => trivial) ?_
      clear hK K
      try simp only [Act.put, List.setIfInBounds_toArray, List.set_cons_zero, List.set_cons_succ]
      have GX : Hid (Ints (Wd.alloc (.cells (madeCells #[.int .i64 0] n) 3)) Wd.heap.size (List.replicate n 0)) := Ints.made n rfl
      have lb := KB.out.lt
      have KA := Lib.hid (KA.out.old (.cells (madeCells #[.int .i64 0] n) 3))
      have KB := Lib.hid (KB.out.old (.cells (madeCells #[.int .i64 0] n) 3))
      have B1 := Lib.hid (B0.out.alloc B0.out.size (.cells (madeCells #[.int .i64 0] n) 3))
      obtain ⟨gx, hgx⟩ : ∃ g, Wd.heap.size = g := ⟨_, rfl⟩
      rw [hgx] at GX lb ⊢
      generalize Wd.alloc (.cells (madeCells #[.int .i64 0] n) 3) = W1 at GX KA KB B1 lb ⊢
      refine wpAnyT_ready (rs := [4]) (by kernel_rfl) (by simp) ?_
      refine AllReadyT.cons (by simp only [List.getElem?_toArray, List.getElem?_cons_succ, List.getElem?_cons_zero]; rfl) (fun K hK => ?_) (AllReadyT.nil)
      go_simp
      (with_reducible refine (CL.out _ B1.out).mono ?_)
      rintro e w2 ⟨qr, cr, rfl, own, hb2⟩
      try dsimp only
      refine hK.out _ _ (fun _ => trivial) ?_
      clear hK K
      try simp only [Act.put, List.setIfInBounds_toArray, List.set_cons_zero, List.set_cons_succ]
      have lx := GX.out.lt
      have GX := Lib.hid (GX.out.keep hb2 lx)
      have KA := Lib.hid (KA.out.step hb2)
      have KB := Lib.hid (KB.out.step hb2)
      have B2 := Lib.hid (B1.out.trans (hb2.mono B1.out.size))
      obtain ⟨gr, hgr1, hgr2, hgr3⟩ := rest_of own HBL.out GX.out (b0 := w.heap.size + 2) (by omega) (fun g hg _ => ⟨by have := lx; omega, by omega⟩)
      have HG1 := Lib.hid hgr1
      have HG2 := Lib.hid hgr2
      have HG3 := Lib.hid hgr3
      clear hgr1 hgr2 hgr3 own hb2
      refine wpAnyT_take (i := 5) (v := ?_) (by simp only [List.getElem?_toArray, List.getElem?_cons_succ, List.getElem?_cons_zero]; rfl) (by kernel_rfl) (by kernel_rfl) (by kernel_rfl) (by kernel_rfl) (fun _ h => by cases h) (by exact fun _ _ _ h => h) (Or.inl ⟨by rfl, ?_⟩) trivial ?_
      rotate_left
      · (intro wS hS; clear hS; go_simp; try rfl)
      try simp only [Act.put, List.setIfInBounds_toArray, List.set_cons_zero, List.set_cons_succ]
      refine wpAnyT_take (i := 6) (v := ?_) (by simp only [List.getElem?_toArray, List.getElem?_cons_succ, List.getElem?_cons_zero]; rfl) (by kernel_rfl) (by kernel_rfl) (by kernel_rfl) (by kernel_rfl) (fun _ h => by cases h) (by exact fun _ _ _ h => h) (Or.inl ⟨by rfl, ?_⟩) trivial ?_
      rotate_left
      · (intro wS hS; clear hS; go_simp; try rfl)
      try simp only [Act.put, List.setIfInBounds_toArray, List.set_cons_zero, List.set_cons_succ]
      refine wpAnyT_take (i := 7) (v := ?_) (by simp only [List.getElem?_toArray, List.getElem?_cons_succ, List.getElem?_cons_zero]; rfl) (by kernel_rfl) (by kernel_rfl) (by kernel_rfl) (by kernel_rfl) (fun _ h => by cases h) (by exact fun _ _ _ h => h) (Or.inl ⟨by rfl, ?_⟩) trivial ?_
      rotate_left
      · (intro wS hS; clear hS; go_simp; try rfl)
      try simp only [Act.put, List.setIfInBounds_toArray, List.set_cons_zero, List.set_cons_succ]
      refine wpAnyT_done (by kernel_rfl) ?_ _
      go_wp2_with fail
      go_meet
      exact ⟨rfl, gx, gr, qr, cr, rfl, rfl, HG1.out, GX.out, HG2.out, by omega, HG3.out, KA.out, KB.out, B2.out⟩
    ·
      go_simp
      (with_reducible refine (CL.out _ B0.out).mono ?_)
      rintro e w2 ⟨qr, cr, rfl, own, hb2⟩
      try dsimp only
      refine hK.out _ _ (fun _ => trivial) ?_
      clear hK K
      try simp only [Act.put, List.setIfInBounds_toArray, List.set_cons_zero, List.set_cons_succ]
      have lb := KB.out.lt
      have s2 := hb2.size
      have KA := Lib.hid ((KA.out.step hb2).old (.cells (madeCells #[.int .i64 0] n) 3))
      have KB := Lib.hid ((KB.out.step hb2).old (.cells (madeCells #[.int .i64 0] n) 3))
      have B2 := Lib.hid ((B0.out.trans (hb2.mono B0.out.size)).alloc (by omega) (.cells (madeCells #[.int .i64 0] n) 3))
      have GX : Hid (Ints (w2.alloc (.cells (madeCells #[.int .i64 0] n) 3)) w2.heap.size (List.replicate n 0)) := Ints.made n rfl
      have OW := own.keep ((Below.refl _ _).alloc (Nat.le_refl _) (.cells (madeCells #[.int .i64 0] n) 3))
      obtain ⟨gr, hgr1, hgr2, hgr3⟩ := rest_of OW HBL.out GX.out (b0 := w.heap.size + 2) (by omega) (fun g hg e => ⟨by have := own.ltq e; omega, by omega⟩)
      have HG1 := Lib.hid hgr1
      have HG2 := Lib.hid hgr2
      have HG3 := Lib.hid hgr3
      clear hgr1 hgr2 hgr3 own hb2 OW
      refine wpAnyT_ready (rs := [2]) (by kernel_rfl) (by simp) ?_
      refine AllReadyT.cons (by simp only [List.getElem?_toArray, List.getElem?_cons_succ, List.getElem?_cons_zero]; rfl) (fun K hK => ?_) (AllReadyT.nil)
      go_simp
      try dsimp only
      refine hK.out _ _ (fun _ => trivial) ?_
      clear hK K
      try simp only [Act.put, List.setIfInBounds_toArray, List.set_cons_zero, List.set_cons_succ]
      refine wpAnyT_take (i := 5) (v := ?_) (by simp only [List.getElem?_toArray, List.getElem?_cons_succ, List.getElem?_cons_zero]; rfl) (by kernel_rfl) (by kernel_rfl) (by kernel_rfl) (by kernel_rfl) (fun _ h => by cases h) (by exact fun _ _ _ h => h) (Or.inl ⟨by rfl, ?_⟩) trivial ?_
      rotate_left
      · (intro wS hS; clear hS; go_simp; try rfl)
      try simp only [Act.put, List.setIfInBounds_toArray, List.set_cons_zero, List.set_cons_succ]
      refine wpAnyT_take (i := 6) (v := ?_) (by simp only [List.getElem?_toArray, List.getElem?_cons_succ, List.getElem?_cons_zero]; rfl) (by kernel_rfl) (by kernel_rfl) (by kernel_rfl) (by kernel_rfl) (fun _ h => by cases h) (by exact fun _ _ _ h => h) (Or.inl ⟨by rfl, ?_⟩) trivial ?_
      rotate_left
      · (intro wS hS; clear hS; go_simp; try rfl)
      try simp only [Act.put, List.setIfInBounds_toArray, List.set_cons_zero, List.set_cons_succ]
      refine wpAnyT_take (i := 7) (v := ?_) (by simp only [List.getElem?_toArray, List.getElem?_cons_succ, List.getElem?_cons_zero]; rfl) (by kernel_rfl) (by kernel_rfl) (by kernel_rfl) (by kernel_rfl) (fun _ h => by cases h) (by exact fun _ _ _ h => h) (Or.inl ⟨by rfl, ?_⟩) trivial ?_
      rotate_left
      · (intro wS hS; clear hS; go_simp; try rfl)
      try simp only [Act.put, List.setIfInBounds_toArray, List.set_cons_zero, List.set_cons_succ]
      refine wpAnyT_done (by kernel_rfl) ?_ _
      go_wp2_with fail
      go_meet
      exact ⟨rfl, w2.heap.size, gr, qr, cr, rfl, rfl, HG1.out, GX.out, HG2.out, by omega, HG3.out, KA.out, KB.out, B2.out⟩
  case rest =>
    clear KA KB B0 MKI CL
    obtain ⟨rfl, gx, gr, qr, cr, rfl, rfl, hg1, hx, hr, lx, lr, hKA, hKB, hB⟩ := hcut
    rename World => W
    have HG1 := Lib.hid hg1
    have GX : Hid (Ints W gx (lfS p n xs vs bs 0).1) := hx
    have GR : Hid (Ints W gr (lfS p n xs vs bs 0).2) := hr
    have KA := Lib.hid hKA
    have KB := Lib.hid hKB
    have B := Lib.hid hB
    clear hg1 hx hr hKA hKB hB
    have n0 : ((p : Int) == 0) = false := by simp; omega
    have np : ¬ p = 0 := by omega
    obtain ⟨K, hK⟩ : ∃ K, lfK p = K := ⟨_, rfl⟩
    have EK := Lib.hid hK
    clear hK
    go_wp2_with fail
    go_loopg [12, 13, 14, 15, 16, 17, 18] K (fun gk v12 _ _ _ _ _ _ wi => ∃ k : Nat, gk = K - k ∧ k ≤ K ∧ v12 = .int .i64 ((p : Int) ^ k) ∧ Ints wi gx (lfS p n xs vs bs k).1 ∧ Ints wi gr (lfS p n xs vs bs k).2 ∧ Blk3 wi w.heap.size 26 (.int .i64 n) (.int .i64 n) (.slice a N m) ∧ Blk3 wi (w.heap.size + 1) 26 (.int .i64 n) (.int .i64 n) (.slice q N cap) ∧ Below w.heap.size w wi)
    case atStart => exact ⟨0, rfl, Nat.zero_le _, by rw [Int.pow_zero], GX.out, GR.out, KA.out, KB.out, B.out⟩
    case round =>
      clear GX GR KA KB B
      obtain ⟨k, hgk, hk, rfl, hx, hr, hKA, hKB, hB⟩ := hrel
      have HG := Lib.hid hgk
      have GX := Lib.hid hx
      have GR := Lib.hid hr
      have KA := Lib.hid hKA
      have KB := Lib.hid hKB
      have B := Lib.hid hB
      clear hgk hx hr hKA hKB hB
      have PN := lfK_num (k := k) HH.out.lo HH.out.hi (by rw [EK.out]; exact hk)
      obtain ⟨P, hP⟩ : ∃ P : Int, (p : Int) ^ k = P := ⟨_, rfl⟩
      obtain ⟨D, hD⟩ : ∃ D : Int, Int.tdiv 400000000 p = D := ⟨_, rfl⟩
      have GOP := lf_goP (P := P) HH.out.lo HH.out.hi
      rw [hD] at GOP
      have EP := Lib.hid hP
      rw [hP] at PN ⊢
      obtain ⟨P1, P2⟩ := PN
      have d9 : Int.tdiv 400000000 p = D := hD
      have D1 : 0 ≤ D ∧ D ≤ 400000000 := by
        rw [← hD, Int.tdiv_eq_ediv_of_nonneg (by decide)]
        exact ⟨Int.ediv_nonneg (by decide) (by omega), Int.ediv_le_self _ (by decide)⟩
      obtain ⟨D1, D2⟩ := D1
      have wD : IntKind.i64.wrap D = D := IntWalk.i64_in _ (by omega)
      clear hP hD
      by_cases c2 : P ≤ D
      rotate_left
      · have hkK : Hid (k = K) := by
          refine Lib.hid ?_
          rw [← EK.out]
          refine lfK_end HH.out.lo HH.out.hi (by rw [EK.out]; exact hk) fun hg => c2 (GOP.2 ?_)
          rw [← EP.out]
          exact hg
        clear GOP
        go_wp2_with fail
        go_ret2
        refine ⟨_, by rw [EK.out, ← hkK.out, EP.out]; rfl, ?_, B.out⟩
        rw [EK.out, ← hkK.out]
        exact .inr ⟨gx, n, by rw [lfS_xl]; rfl, by omega, GX.out, by rw [lfS_xl]; exact Nat.le_refl _, by rw [lfS_xl]; omega⟩
      have hkl : k < lfK p := lfK_more HH.out.lo HH.out.hi (by rw [EK.out]; exact hk) (by rw [EP.out]; exact GOP.1 c2)
      have EX : Hid (∀ i, i < n → (lfS p n xs vs bs (k + 1)).1.getD i 0 = (lfS p n xs vs bs k).1.getD i 0 + P * (solL p n vs (lfS p n xs vs bs k).2).getD i 0 ∧ (0 ≤ (lfS p n xs vs bs k).1.getD i 0 ∧ (lfS p n xs vs bs k).1.getD i 0 ≤ 400000000) ∧ (0 ≤ P * (solL p n vs (lfS p n xs vs bs k).2).getD i 0 ∧ P * (solL p n vs (lfS p n xs vs bs k).2).getD i 0 ≤ 400000000) ∧ (lfS p n xs vs bs (k + 1)).1.getD i 0 ≤ 400000000) := fun i hi => by
        have := HH.out.next hkl hi
        rw [EP.out] at this
        exact this
      have EQ : Hid (∀ i, i < n → (sF n xs (solL p n vs (lfS p n xs vs bs k).2) (lfS p n xs vs bs k).2 i n).tdiv p = (lfS p n xs vs bs (k + 1)).2.getD i 0) := fun i hi => HH.out.quo k hi
      have ES : Hid (∀ i j, i < n → j ≤ n → -1000000000000 ≤ sF n xs (solL p n vs (lfS p n xs vs bs k).2) (lfS p n xs vs bs k).2 i j ∧ sF n xs (solL p n vs (lfS p n xs vs bs k).2) (lfS p n xs vs bs k).2 i j ≤ 1000000000000) := fun i j hi hj => HH.out.sums k hi hj
      have EM : Hid (∀ i j, i < n → j < n → -80000000000 ≤ xs.getD (i * n + j) 0 * (solL p n vs (lfS p n xs vs bs k).2).getD j 0 ∧ xs.getD (i * n + j) 0 * (solL p n vs (lfS p n xs vs bs k).2).getD j 0 ≤ 80000000000) := fun i j hi hj => HH.out.prod k hi hj
      have PW := Lib.hid (HH.out.pow hkl)
      have XL0 : Hid ((lfS p n xs vs bs k).1.length = n) := lfS_xl k
      have XL1 : Hid ((lfS p n xs vs bs (k + 1)).1.length = n) := lfS_xl (k + 1)
      have RL0 : Hid ((lfS p n xs vs bs k).2.length = n) := (HH.out.rest k).1
      have RL1 : Hid ((lfS p n xs vs bs (k + 1)).2.length = n) := (HH.out.rest (k + 1)).1
      have EB : Hid (∀ i, i < n → -2400000000 ≤ (lfS p n xs vs bs (k + 1)).2.getD i 0 ∧ (lfS p n xs vs bs (k + 1)).2.getD i 0 ≤ 2400000000) := (HH.out.rest (k + 1)).2
      have DL : Hid ((solL p n vs (lfS p n xs vs bs k).2).length = n) := solL_length p n vs _
      have RR : Hid (Rd wr qr (lfS p n xs vs bs k).2) := by
        refine Lib.hid ?_
        rcases Nat.eq_zero_or_pos n with e | e
        · rw [List.eq_nil_of_length_eq_zero (show (lfS p n xs vs bs k).2.length = 0 by rw [RL0.out, e])]
          exact Rd.nil _ _
        · rw [(HG1.out e).1]; exact GR.out.rd
      have TMk := Lib.hid (TM.out qr cr k wr B.out RR.out)
      obtain ⟨us, hus⟩ : ∃ us, (lfS p n xs vs bs k).1 = us := ⟨_, rfl⟩
      obtain ⟨rs, hrs⟩ : ∃ rs, (lfS p n xs vs bs k).2 = rs := ⟨_, rfl⟩
      obtain ⟨us', hus'⟩ : ∃ us', (lfS p n xs vs bs (k + 1)).1 = us' := ⟨_, rfl⟩
      obtain ⟨rs', hrs'⟩ : ∃ rs', (lfS p n xs vs bs (k + 1)).2 = rs' := ⟨_, rfl⟩
      obtain ⟨dg, hdg⟩ : ∃ dg, solL p n vs (lfS p n xs vs bs k).2 = dg := ⟨_, rfl⟩
      rw [hdg] at EX EQ ES EM DL TMk
      rw [hus] at EX XL0 GX
      rw [hrs] at EQ ES RL0 GR
      rw [hus'] at EX XL1
      rw [hrs'] at EQ RL1 EB
      have EU' := Lib.hid hus'
      have ER' := Lib.hid hrs'
      obtain ⟨z0, z1, z2, -, -, -⟩ := KB.out.all
      clear hus hrs hus' hrs' hdg GOP RR
      go_wp2_with fail
      refine TMk.out.mono ?_
      rintro e w7 ⟨vd, rfl, own, hb7⟩
      obtain ⟨qd, cd, rfl, hd, -⟩ := own.form
      rw [DL.out] at own ⊢
      have gxl := GX.out.lt
      have grl := GR.out.lt
      have DG : Hid (∀ wx, FrS (fun k => k = gx ∨ k = gr) w7 wx → Rd wx qd dg) := fun wx hf => by
        rcases own.cases with ⟨-, e⟩ | ⟨g, c, e, hB, -, -⟩
        · rw [e]; exact Rd.nil _ _
        · injection e with e1 e2 e3
          subst e1
          exact hd.frs hf (fun b o e => by injection e with e; injection e with e _; subst e; omega)
      have GX := Lib.hid (GX.out.keep hb7 gxl)
      have GR := Lib.hid (GR.out.keep hb7 grl)
      have KA := Lib.hid (KA.out.step hb7)
      have KB := Lib.hid (KB.out.step hb7)
      have B7 := Lib.hid (B.out.trans (hb7.mono B.out.size))
      have BF : Hid (∀ wx, FrS (fun k => k = gx ∨ k = gr) w7 wx → Below w.heap.size w wx) := fun wx hf => B7.out.trans (hf.below (fun k hk => by omega) B7.out.size)
      have SRC : Hid (∀ i q7, i < n → (∀ g0 o : Nat, a = some ⟨g0, o, none⟩ → 0 < n → q7 = some ⟨g0, o + i * n, none⟩) → ∀ wx, FrS (fun k => k = gx ∨ k = gr) w7 wx → Rd wx q7 (rwL n (mxC n xs i))) := fun i q7 hlt hq7 wx hf => (RA.out.below (BF.out wx hf)).row HXL.out hlt hq7
      clear z0 z1 z2 own hd hb7 gxl grl B TMk
      go_wp2_with fail
      go_loopw [14, 15, 34] (fun _ _ v34 wr => ∃ i : Nat, v34 = .int .i64 i ∧ i ≤ n ∧ Ints wr gx (twL n us' us i) ∧ Ints wr gr rs ∧ FrS (fun k => k = gx ∨ k = gr) w7 wr) (fun _ _ v34 _ => n - (intOf v34).toNat)
      case atStart => exact ⟨0, rfl, Nat.zero_le _, by rw [twL_zero XL0.out]; exact GX.out, GR.out, FrS.refl _ _⟩
      case round =>
        clear GX GR
        obtain ⟨i, rfl, hi, hx, hr, hf⟩ := hrel
        have GX := Lib.hid hx
        have GR := Lib.hid hr
        have FR := Lib.hid hf
        clear hx hr hf
        by_cases hlt : i < n
        · obtain ⟨rfl, xr⟩ := HG1.out (by omega)
          have hc1 := GX.out.cell (i := i) (by rw [twL_length]; exact hlt)
          have hf1 := GX.out.free i
          rw [twL_at hlt, if_neg (Nat.lt_irrefl _)] at hc1
          obtain ⟨b2, o2, rfl, hc2⟩ := DG.out _ FR.out i (by rw [DL.out]; exact hlt)
          obtain ⟨q1, ⟨q2, q3⟩, ⟨q4, q5⟩, q6⟩ := EX.out i hlt
          have TS := Lib.hid (twL_set (n := n) (f := us') (g := us) (i := i))
          rw [q1] at TS q6
          clear q1
          obtain ⟨x, hx⟩ : ∃ x, us.getD i 0 = x := ⟨_, rfl⟩
          obtain ⟨y, hy⟩ : ∃ y, dg.getD i 0 = y := ⟨_, rfl⟩
          rw [hx] at TS hc1 q2 q3 q6
          rw [hy] at TS hc2 q4 q5 q6
          obtain ⟨o, ho⟩ : ∃ o, P * y = o := ⟨_, rfl⟩
          rw [ho] at TS q4 q5 q6
          have v2 : IntKind.i64.wrap (y * P) = o := by rw [Int.mul_comm, ho]; exact IntWalk.i64_in _ (by omega)
          obtain ⟨f, hf⟩ : ∃ f, x + o = f := ⟨_, rfl⟩
          rw [hf] at TS q6
          have v3 : IntKind.i64.wrap (x + o) = f := by rw [hf]; exact IntWalk.i64_in _ (by omega)
          clear hx hy ho hf q6
          go_wp2_with fail
          go_roundw
          case rel =>
            refine ⟨i + 1, by go_num, by omega, ?_, GR.out.far (Ne.symm xr) _, FR.out.set (.inl (.inl rfl)) _⟩
            rw [← TS.out]
            exact GX.out.set i f
          case measure => simp [intOf]; omega
        · obtain rfl : i = n := by omega
          have GXn : Hid (Ints wr gx us') := by have := GX.out; rw [twL_all XL1.out] at this; exact this
          clear hlt GX
          have GX := GXn
          clear GXn
          go_wp2_with fail
          go_loopw [16, 17, 18, 51] (fun _ _ _ v51 wr => ∃ r : Nat, v51 = .int .i64 r ∧ r ≤ i ∧ Ints wr gx us' ∧ Ints wr gr (twL i rs' rs r) ∧ FrS (fun k => k = gx ∨ k = gr) w7 wr) (fun _ _ _ v51 _ => i - (intOf v51).toNat)
          case atStart => exact ⟨0, rfl, Nat.zero_le _, GX.out, by rw [twL_zero RL0.out]; exact GR.out, FR.out⟩
          case round =>
            clear GX GR FR
            obtain ⟨r, rfl, hr9, hx, hr, hf⟩ := hrel
            have GX := Lib.hid hx
            have GR := Lib.hid hr
            have FR := Lib.hid hf
            clear hx hr hf
            by_cases hlt : r < i
            · obtain ⟨rfl, xr⟩ := HG1.out (by omega)
              obtain ⟨z0, z1, z2, -, -, -⟩ := (KA.out.frs FR.out (by omega)).all
              go_wp2_with fail
              refine (RW.out r hlt _).mono ?_
              rintro e w8 ⟨q7, m7, rfl, hm7, hq7, -, hb8⟩
              have GX := Lib.hid (GX.out.keep hb8 GX.out.lt)
              have GR : Hid (Ints w8 gr (rtL i xs dg rs rs' r 0)) := by refine Lib.hid ?_; rw [rtL_zero]; exact GR.out.keep hb8 GR.out.lt
              have FR := Lib.hid (FR.out.trans (FrS.of_below hb8))
              have SRr := Lib.hid (SRC.out r q7 hlt hq7)
              clear z0 z1 z2 hb8 hq7
              go_wp2_with fail
              go_loopw [17, 18, 58] (fun _ _ v58 wr => ∃ j : Nat, v58 = .int .i64 j ∧ j ≤ i ∧ Ints wr gx us' ∧ Ints wr gr (rtL i xs dg rs rs' r j) ∧ FrS (fun k => k = gx ∨ k = gr) w7 wr) (fun _ _ v58 _ => i - (intOf v58).toNat)
              case atStart => exact ⟨0, rfl, Nat.zero_le _, GX.out, GR.out, FR.out⟩
              case round =>
                clear GX GR FR
                obtain ⟨j, rfl, hj, hx, hr, hf⟩ := hrel
                have GX := Lib.hid hx
                have GR := Lib.hid hr
                have FR := Lib.hid hf
                clear hx hr hf
                have hc3 := GR.out.cell (i := r) (by rw [rtL_length]; exact hlt)
                have hf3 := GR.out.free r
                rw [rtL_at hlt] at hc3
                obtain ⟨s1, s2⟩ := ES.out r j hlt hj
                by_cases hjl : j < i
                · obtain ⟨b1, o1, rfl, hc1⟩ := SRr.out _ FR.out j (by rw [rwL_length]; exact hjl)
                  rw [rwL_at hjl] at hc1
                  obtain ⟨b2, o2, rfl, hc2⟩ := DG.out _ FR.out j (by rw [DL.out]; exact hjl)
                  have SU := sF_succ i xs dg rs r j
                  have RS := Lib.hid (rtL_set (n := i) (xs := xs) (ds := dg) (rs := rs) (new := rs') (i := r) (j := j))
                  obtain ⟨m1, m2⟩ := EM.out r j hlt hjl
                  obtain ⟨s3, s4⟩ := ES.out r (j + 1) hlt (by omega)
                  obtain ⟨s, hs⟩ : ∃ s, sF i xs dg rs r j = s := ⟨_, rfl⟩
                  rw [show mxC i xs r j = xs.getD (r * i + j) 0 from rfl] at hc1
                  obtain ⟨x, hx⟩ : ∃ x, xs.getD (r * i + j) 0 = x := ⟨_, rfl⟩
                  obtain ⟨y, hy⟩ : ∃ y, dg.getD j 0 = y := ⟨_, rfl⟩
                  rw [hx, hy] at m1 m2 SU
                  rw [hs] at SU s1 s2 hc3
                  rw [SU] at s3 s4 RS
                  rw [hx] at hc1
                  rw [hy] at hc2
                  obtain ⟨o, ho⟩ : ∃ o, x * y = o := ⟨_, rfl⟩
                  rw [ho] at m1 m2 s3 s4 RS
                  have v2 : IntKind.i64.wrap (x * y) = o := by rw [ho]; exact IntWalk.i64_in _ (by omega)
                  obtain ⟨f, hf⟩ : ∃ f, s - o = f := ⟨_, rfl⟩
                  rw [hf] at s3 s4 RS
                  have v3 : IntKind.i64.wrap (s - o) = f := by rw [hf]; exact IntWalk.i64_in _ (by omega)
                  have IS : Hid (Ints (wr.drew.setCell ⟨gr, r, none⟩ (.int .i64 f)) gr (rtL i xs dg rs rs' r (j + 1))) := by
                    refine Lib.hid ?_
                    rw [← RS.out]
                    exact GR.out.drew.set r f
                  have IX : Hid (Ints (wr.drew.setCell ⟨gr, r, none⟩ (.int .i64 f)) gx us') := GX.out.drew.far (a := ⟨gr, r, none⟩) xr _
                  have IF : Hid (FrS (fun k => k = gx ∨ k = gr) w7 (wr.drew.setCell ⟨gr, r, none⟩ (.int .i64 f))) := FR.out.drew.set (.inl (.inr rfl)) _
                  clear hs hx hy ho hf SU m1 m2 s1 s2
                  go_wp2_with fail
                  go_still_tail 12, (by kernel_rfl)
                  go_wp2_with fail
                  go_roundw
                  case rel => exact ⟨j + 1, by go_num, by omega, IX.out, IS.out, IF.out⟩
                  case measure => simp [intOf]; omega
                · obtain rfl : j = i := by omega
                  have e9 := EQ.out r hlt
                  have eb := EB.out r hlt
                  have RE := Lib.hid (rtL_end (n := j) (xs := xs) (ds := dg) (rs := rs) (new := rs') (i := r) (j := j))
                  obtain ⟨s, hs⟩ : ∃ s, sF j xs dg rs r j = s := ⟨_, rfl⟩
                  obtain ⟨r1, hr1⟩ : ∃ r1, rs'.getD r 0 = r1 := ⟨_, rfl⟩
                  rw [hs] at e9 s1 s2 hc3
                  rw [hr1] at e9 eb RE
                  obtain ⟨eb1, eb2⟩ := eb
                  have v0 : IntKind.i64.wrap r1 = r1 := IntWalk.i64_in _ (by omega)
                  have GR9 : Hid (Ints (wr.setCell ⟨gr, r, none⟩ (.int .i64 r1)) gr (twL j rs' rs (r + 1))) := by
                    refine Lib.hid ?_
                    rw [← RE.out]
                    exact GR.out.set r r1
                  have GX9 : Hid (Ints (wr.setCell ⟨gr, r, none⟩ (.int .i64 r1)) gx us') := GX.out.far (a := ⟨gr, r, none⟩) xr _
                  have FR9 : Hid (FrS (fun k => k = gx ∨ k = gr) w7 (wr.setCell ⟨gr, r, none⟩ (.int .i64 r1))) := FR.out.set (.inl (.inr rfl)) _
                  clear hs hr1 hjl
                  go_wp2_with fail
                  go_roundw
                  case rel => exact ⟨r + 1, by go_num, by omega, GX9.out, GR9.out, FR9.out⟩
                  case measure => simp [intOf]; omega
            · obtain rfl : r = i := by omega
              have GRn : Hid (Ints wr gr rs') := by have := GR.out; rw [twL_all RL1.out] at this; exact this
              clear GR
              obtain ⟨w1', w2', w3'⟩ := PW.out
              obtain ⟨PP, hPP⟩ : ∃ PP : Int, (p : Int) ^ (k + 1) = PP := ⟨_, rfl⟩
              have EPP := Lib.hid hPP
              rw [hPP, EP.out] at w1'
              rw [hPP] at w2' w3'
              have v4 : IntKind.i64.wrap (P * p) = PP := by rw [w1']; exact IntWalk.i64_in _ (by omega)
              have KA := Lib.hid (KA.out.frs FR.out (by omega))
              have KB := Lib.hid (KB.out.frs FR.out (by omega))
              have B9 := Lib.hid (BF.out _ FR.out)
              clear hPP w1'
              go_wp2_with fail
              go_roundg (K - (k + 1))
              case measure => rw [HG.out]; have := EK.out; omega
              case rel => exact ⟨k + 1, rfl, by have := EK.out; omega, by rw [EPP.out], by rw [EU'.out]; exact GX.out, by rw [ER'.out]; exact GRn.out, KA.out, KB.out, B9.out⟩
end Go.Proofs.YtcapddcmnjeloaaGreatDoor
end

section
/-
  Chapter 11, in the program: partBound.
-/
namespace Go.Proofs.YtcapddcmnjeloaaGreatDoor
set_option maxRecDepth 100000
open Go.RowKit
set_option maxHeartbeats 1000000 in
theorem iBound (P : Int) (w : World) (h1 : 2 < P) (h2 : P ≤ 400000000) : Calls Tryz.prog 136 #[.int .i64 P] w fun e w' => e = .returned (.int .i64 (lfB P)) ∧ w = w' := by
  have EQ : Hid (∀ B : Int, 0 ≤ B → 2 * B * B < P → B ≤ 10000 → (B = 10000 ∨ P ≤ 2 * (B + 1) * (B + 1)) → lfB P = B) := fun B a b c d => lfB_eq a b c d
  generalize lfB P = R at EQ ⊢
  go_enter Tryz.func136, Tryz.ntmps136
  go_wp2_with fail
  go_loopw [3] (fun v3 wr => ∃ b : Int, v3 = .int .i64 b ∧ 1 ≤ b ∧ b ≤ 10000 ∧ (b = 10000 ∨ P ≤ 2 * (b + 1) * (b + 1)) ∧ w = wr) (fun v3 _ => (intOf v3).toNat)
  case atStart => exact ⟨10000, rfl, by omega, by omega, .inl rfl, rfl⟩
  case round =>
    obtain ⟨b, rfl, b1, b2, hb, rfl⟩ := hrel
    have HB := Lib.hid hb
    have w1 : IntKind.i64.wrap (2 * b) = 2 * b := IntWalk.i64_in _ (by omega)
    obtain ⟨s1, s2⟩ := mul_abs (A := 20000) (B := 10000) (show -20000 ≤ 2 * b ∧ 2 * b ≤ 20000 by omega) (show -10000 ≤ b ∧ b ≤ 10000 by omega)
    obtain ⟨y, hy⟩ : ∃ y, 2 * b * b = y := ⟨_, rfl⟩
    have w2 : IntKind.i64.wrap (2 * b * b) = y := by rw [hy]; exact IntWalk.i64_in _ (by omega)
    have HY := Lib.hid hy
    rw [hy] at s1 s2
    clear hb hy
    by_cases c : P ≤ y
    · have b3 : 2 ≤ b := by
        rcases Int.lt_or_le 1 b with h | h
        · omega
        · obtain rfl : b = 1 := by omega
          have := HY.out
          omega
      have NX : Hid (P ≤ 2 * (b - 1 + 1) * (b - 1 + 1)) := by
        show _ ≤ _
        rw [Int.sub_add_cancel, HY.out]; exact c
      clear s1 s2
      go_wp2_with fail
      go_roundw
      case rel => exact ⟨b - 1, by first | rfl | trivial, by omega, by omega, .inr NX.out, by first | rfl | trivial⟩
      case measure => simp [intOf]; omega
    · have V : Hid (R = b) := EQ.out b (by omega) (by rw [HY.out]; omega) b2 HB.out
      clear s1 s2
      go_wp2_with fail
      go_ret
      exact ⟨by rw [V.out]; rfl, rfl⟩
end Go.Proofs.YtcapddcmnjeloaaGreatDoor
end

section
/-
  Chapter 10, in the program: IsImage and ResidueOf.
-/
namespace Go.Proofs.YtcapddcmnjeloaaGreatDoor
set_option maxRecDepth 100000
open Go.RowKit
theorem tmod_zero {y m : Int} : (Int.tmod y m == 0) = decide (y % m = 0) := by
  rw [Bool.eq_iff_iff]
  simp only [beq_iff_eq, decide_eq_true_eq]
  exact ⟨fun h => Int.emod_eq_zero_of_dvd (Int.dvd_of_tmod_eq_zero h), fun h => Int.tmod_eq_zero_of_dvd (Int.dvd_of_emod_eq_zero h)⟩
theorem iIsMod_t (m : Int) (w : World) (h1 : 1 ≤ m) (h2 : m ≤ 400000000) : Calls Tryz.prog 165 #[.int .i64 m] w fun e w' => e = .returned (.bool true) ∧ w = w' := by
  go_enter Tryz.func165, Tryz.ntmps165
  go_wp2
  go_ret
  exact ⟨rfl, rfl⟩
theorem iIsMod_f (m : Int) (w : World) (h : m < 1 ∨ 400000000 < m) : Calls Tryz.prog 165 #[.int .i64 m] w fun e w' => e = .returned (.bool false) ∧ w = w' := by
  rcases h with h | h
  · go_enter Tryz.func165, Tryz.ntmps165
    go_wp2
    go_ret
    exact ⟨rfl, rfl⟩
  · have h1 : 1 ≤ m := by omega
    have h2 : decide (m ≤ 400000000) = false := by simp; omega
    go_enter Tryz.func165, Tryz.ntmps165
    go_wp2
    go_ret
    exact ⟨rfl, rfl⟩
set_option maxHeartbeats 1000000 in
theorem iImage (n d a m : Int) (w : World) : Calls Tryz.prog 167 #[.agg #[.int .i64 n, .int .i64 d], .int .i64 a, .int .i64 m] w (Gives (.bool (imB n d a m)) w) := by
  rcases Bool.eq_false_or_eq_true (isRat n d) with hr | hr
  rotate_left
  · have E : Hid (imB n d a m = false) := imB_no (.inl (imA_rat hr))
    go_enter Tryz.func167, Tryz.ntmps167
    go_wp2_with fail
    refine (iIsRat n d _).mono ?_
    rintro e w1 ⟨rfl, hb⟩
    have B : Hid (Below w.heap.size w w1) := Below.trans (by repeat (first | exact Below.refl _ _ | refine Below.alloc ?_ (by simp <;> omega) _)) (hb.mono (by simp <;> omega))
    clear hb
    rw [hr]
    go_wp2_with fail
    go_ret
    exact ⟨by rw [E.out]; rfl, B.out⟩
  have pr : IsRatP n d := of_decide_eq_true hr
  obtain ⟨r1, r2, r3, r4, -⟩ := pr
  by_cases ha : NumP a
  rotate_left
  · have E : Hid (imB n d a m = false) := imB_no (.inr ha)
    have ha' : a < -400000000 ∨ 400000000 < a := by unfold NumP at ha; omega
    clear ha
    go_enter Tryz.func167, Tryz.ntmps167
    go_wp2_with fail
    refine (iIsRat n d _).mono ?_
    rintro e w1 ⟨rfl, hb⟩
    have B : Hid (Below w.heap.size w w1) := Below.trans (by repeat (first | exact Below.refl _ _ | refine Below.alloc ?_ (by simp <;> omega) _)) (hb.mono (by simp <;> omega))
    clear hb
    rw [hr]
    go_wp2_with fail
    refine (iIsNum_f a _ ha').mono ?_
    rintro e w' ⟨rfl, rfl⟩
    go_wp2_with fail
    go_ret
    exact ⟨by rw [E.out]; rfl, B.out⟩
  by_cases hm : 1 ≤ m ∧ m ≤ 400000000
  rotate_left
  · have E : Hid (imB n d a m = false) := imB_no (.inl (imA_mod hm))
    have hm' : m < 1 ∨ 400000000 < m := by omega
    clear hm
    go_enter Tryz.func167, Tryz.ntmps167
    go_wp2_with fail
    refine (iIsRat n d _).mono ?_
    rintro e w1 ⟨rfl, hb⟩
    have B : Hid (Below w.heap.size w w1) := Below.trans (by repeat (first | exact Below.refl _ _ | refine Below.alloc ?_ (by simp <;> omega) _)) (hb.mono (by simp <;> omega))
    clear hb
    rw [hr]
    go_wp2_with fail
    refine (iIsNum_t a _ ha.1 ha.2).mono ?_
    rintro e w' ⟨rfl, rfl⟩
    go_wp2_with fail
    refine (iIsMod_f m _ hm').mono ?_
    rintro e w' ⟨rfl, rfl⟩
    go_wp2_with fail
    go_ret
    exact ⟨by rw [E.out]; rfl, B.out⟩
  by_cases hg : d.gcd m = 1
  rotate_left
  · have E : Hid (imB n d a m = false) := imB_no (.inl (imA_gcd hg))
    have n0 : (((d.gcd m : Nat) : Int) != 1) = true := by simp; omega
    go_enter Tryz.func167, Tryz.ntmps167
    go_wp2_with fail
    refine (iIsRat n d _).mono ?_
    rintro e w1 ⟨rfl, hb⟩
    have K0 : Hid (Blk2 w1 w.heap.size 40 (.int .i64 n) (.int .i64 d)) := (Blk2.at_ _ _ _ rfl).keep hb (by simp <;> omega)
    have B : Hid (Below w.heap.size w w1) := Below.trans (by repeat (first | exact Below.refl _ _ | refine Below.alloc ?_ (by simp <;> omega) _)) (hb.mono (by simp <;> omega))
    obtain ⟨K0a, K0b, K0c, K0d⟩ := K0.out.all
    clear hb
    rw [hr]
    go_wp2_with fail
    refine (iIsNum_t a _ ha.1 ha.2).mono ?_
    rintro e w' ⟨rfl, rfl⟩
    go_wp2_with fail
    refine (iIsMod_t m _ hm.1 hm.2).mono ?_
    rintro e w' ⟨rfl, rfl⟩
    go_wp2_with fail
    refine (iGcd d m _ ⟨by omega, r2⟩ ⟨by omega, hm.2⟩).mono ?_
    rintro e w' ⟨rfl, k, rfl⟩
    generalize ((d.gcd m : Nat) : Int) = gg at n0 ⊢
    go_wp2_with fail
    go_ret
    exact ⟨by rw [E.out]; rfl, below_drewN B.out _⟩
  have g1 : ((d.gcd m : Nat) : Int) = 1 := by rw [hg]; rfl
  have E : Hid (∀ b, b = decide ((a * d - n) % m = 0) → imB n d a m = b) := fun b hb => imB_eq2 (imA_true hr hm hg) ha hb
  have MA := mul_abs (a := a) (b := d) (A := 400000000) (B := 400000000) ⟨ha.1, ha.2⟩ ⟨by omega, r2⟩
  have v0 : IntKind.i64.wrap (a * d) = a * d := IntWalk.i64_in _ (by omega)
  obtain ⟨y, hy⟩ : ∃ y, a * d = y := ⟨_, rfl⟩
  rw [hy] at MA E
  have v1 : IntKind.i64.wrap (a * d) = y := v0.trans hy
  clear v0
  obtain ⟨y1, y2⟩ := MA
  have T : Hid ((Int.tmod (y - n) m == 0) = decide ((y - n) % m = 0)) := tmod_zero
  obtain ⟨t, ht⟩ : ∃ t, y - n = t := ⟨_, rfl⟩
  have v2 : IntKind.i64.wrap (y - n) = t := (IntWalk.i64_in _ (by omega)).trans ht
  rw [ht] at T E
  have t1 : -200000000000000000 ≤ t := by omega
  have t2 : t ≤ 200000000000000000 := by omega
  have n1 : (m == 0) = false := by simp; omega
  clear hy hg ht
  go_enter Tryz.func167, Tryz.ntmps167
  go_wp2_with fail
  refine (iIsRat n d _).mono ?_
  rintro e w1 ⟨rfl, hb⟩
  have K0 : Hid (Blk2 w1 w.heap.size 40 (.int .i64 n) (.int .i64 d)) := (Blk2.at_ _ _ _ rfl).keep hb (by simp <;> omega)
  have B : Hid (Below w.heap.size w w1) := Below.trans (by repeat (first | exact Below.refl _ _ | refine Below.alloc ?_ (by simp <;> omega) _)) (hb.mono (by simp <;> omega))
  obtain ⟨K0a, K0b, K0c, K0d⟩ := K0.out.all
  clear hb
  rw [hr]
  go_wp2_with fail
  refine (iIsNum_t a _ ha.1 ha.2).mono ?_
  rintro e w' ⟨rfl, rfl⟩
  go_wp2_with fail
  refine (iIsMod_t m _ hm.1 hm.2).mono ?_
  rintro e w' ⟨rfl, rfl⟩
  go_wp2_with fail
  refine (iGcd d m _ ⟨by omega, r2⟩ ⟨by omega, hm.2⟩).mono ?_
  rintro e w' ⟨rfl, k, rfl⟩
  rw [g1]
  have K0 : Hid (Blk2 (w1.drewN k) w.heap.size 40 (.int .i64 n) (.int .i64 d)) := K0.out.drewN k
  obtain ⟨K1a, K1b, K1c, K1d⟩ := K0.out.all
  go_wp2_with fail
  go_ret
  exact ⟨by rw [E.out _ T.out]; rfl, below_drewN B.out _⟩
end Go.Proofs.YtcapddcmnjeloaaGreatDoor
end

section
/-
  Chapter 10, in the program: RatioFrom.
-/
namespace Go.Proofs.YtcapddcmnjeloaaGreatDoor
set_option maxRecDepth 100000
open Go.RowKit
theorem RInv.none (k : Nat) : ∀ {m a g x h u B : Int}, h.natAbs = k → RtA a m B → RInv m a g x h u → B < g → B < u ∨ B < -u → rtX a m B = (0, 0, false) := by
  induction k using Nat.strongRecOn with
  | ind k ih =>
    intro m a g x h u B hk A I gB hu
    have l := I.low
    have B1 := A.2.2.1.1
    by_cases hB : h ≤ B
    · refine I.ans_no A hB gB rfl rfl (.inl ?_)
      split <;> omega
    · have hp : 0 < h := by omega
      have J := I.step hp
      have j1 := J.less
      have j0 := J.low
      refine ih _ ?_ rfl A J (by omega) ?_
      · omega
      · have hq : 1 ≤ g / h := by
          have := I.less
          rw [Int.le_ediv_iff_mul_le hp]
          omega
        generalize g / h = q at hq ⊢
        rcases I.sg with ⟨h1, h2, h3⟩ | ⟨h1, h2, h3⟩
        · have := Int.mul_le_mul_of_nonneg_right hq (show 0 ≤ u by omega)
          omega
        · have := Int.mul_le_mul_of_nonneg_right hq (show 0 ≤ -u by omega)
          simp only [Int.mul_neg, Int.one_mul] at this
          omega
theorem two3 {W w' : World} {b g : Nat} {t t2 : TypeId} {p q r s1 s2 s3 : Value} (h0 : Blk3 W b t p q r) (h1 : Blk3 W g t2 s1 s2 s3) (hb : Below W.heap.size W w') :
    w'.cell? ⟨b, 0, none⟩ = some p ∧ w'.cell? ⟨b, 1, none⟩ = some q ∧ w'.cell? ⟨b, 2, none⟩ = some r ∧ w'.cell? ⟨g, 0, none⟩ = some s1 ∧ w'.cell? ⟨g, 1, none⟩ = some s2 ∧ w'.cell? ⟨g, 2, none⟩ = some s3 := by
  obtain ⟨a1, a2, a3, -, -, -⟩ := (h0.keep hb h0.lt).all
  obtain ⟨b1, b2, b3, -, -, -⟩ := (h1.keep hb h1.lt).all
  exact ⟨a1, a2, a3, b1, b2, b3⟩
set_option maxHeartbeats 4000000 in
theorem iRatio (a m b : Int) (w : World) : Calls Tryz.prog 137 #[.int .i64 a, .int .i64 m, .int .i64 b] w (Gives (.tuple #[.agg #[.int .i64 (rtX a m b).1, .int .i64 (rtX a m b).2.1], .bool (rtX a m b).2.2]) w) := by
  by_cases ha : NumP a
  rotate_left
  · have V : Hid (rtX a m b = (0, 0, false)) := rtX_no fun h => ha h.1
    have ha' : a < -400000000 ∨ 400000000 < a := by unfold NumP at ha; omega
    clear ha
    go_enter Tryz.func137, Tryz.ntmps137
    go_wp2_with fail
    have K0 : Hid (Blk2 (w.alloc (.cells #[.int .i64 0, .int .i64 0] 40)) w.heap.size 40 (.int .i64 0) (.int .i64 0)) := Blk2.at_ _ _ _ rfl
    have B0 : Hid (Below w.heap.size w (w.alloc (.cells #[.int .i64 0, .int .i64 0] 40))) := (Below.refl _ _).alloc (Nat.le_refl _) _
    generalize w.alloc (.cells #[.int .i64 0, .int .i64 0] 40) = W at K0 B0 ⊢
    obtain ⟨K0a, K0b, K0c, K0d⟩ := K0.out.all
    go_step3
    go_wp2_with fail
    refine (iIsNum_f a _ ha').mono ?_
    rintro e w' ⟨rfl, rfl⟩
    go_wp2_with fail
    rw [Exit.noGoto_ret]
    obtain ⟨E0, E1, -, -⟩ := ((K0.out.set0 (.int .i64 0)).set1 (.int .i64 0)).all
    refine bodyPost_ret (v := .tuple #[.agg #[.int .i64 0, .int .i64 0], .bool false]) (by simp [results, Tryz.results137, go_sem, E0, E1]) rfl ⟨by rw [V.out], ?_⟩
    exact (B0.out.setCell (Nat.le_refl _) _).setCell (Nat.le_refl _) _
  by_cases hm : 1 ≤ m ∧ m ≤ 400000000
  rotate_left
  · have V : Hid (rtX a m b = (0, 0, false)) := rtX_no fun h => hm h.2.1
    have hm' : m < 1 ∨ 400000000 < m := by omega
    clear hm
    go_enter Tryz.func137, Tryz.ntmps137
    go_wp2_with fail
    have K0 : Hid (Blk2 (w.alloc (.cells #[.int .i64 0, .int .i64 0] 40)) w.heap.size 40 (.int .i64 0) (.int .i64 0)) := Blk2.at_ _ _ _ rfl
    have B0 : Hid (Below w.heap.size w (w.alloc (.cells #[.int .i64 0, .int .i64 0] 40))) := (Below.refl _ _).alloc (Nat.le_refl _) _
    generalize w.alloc (.cells #[.int .i64 0, .int .i64 0] 40) = W at K0 B0 ⊢
    obtain ⟨K0a, K0b, K0c, K0d⟩ := K0.out.all
    go_step3
    go_wp2_with fail
    refine (iIsNum_t a _ ha.1 ha.2).mono ?_
    rintro e w' ⟨rfl, rfl⟩
    go_wp2_with fail
    refine (iIsMod_f m _ hm').mono ?_
    rintro e w' ⟨rfl, rfl⟩
    go_wp2_with fail
    rw [Exit.noGoto_ret]
    obtain ⟨E0, E1, -, -⟩ := ((K0.out.set0 (.int .i64 0)).set1 (.int .i64 0)).all
    refine bodyPost_ret (v := .tuple #[.agg #[.int .i64 0, .int .i64 0], .bool false]) (by simp [results, Tryz.results137, go_sem, E0, E1]) rfl ⟨by rw [V.out], ?_⟩
    exact (B0.out.setCell (Nat.le_refl _) _).setCell (Nat.le_refl _) _
  have sq0 : 1 ≤ b ∧ b ≤ 20000 → 0 ≤ 2 * b * b ∧ 2 * b * b ≤ 800000000 := fun hb => by
    have h1 := Int.mul_nonneg (show 0 ≤ 2 * b by omega) (show 0 ≤ b by omega)
    have h2 : 2 * b * b ≤ 40000 * 20000 := Int.mul_le_mul (by omega) hb.2 (by omega) (by decide)
    omega
  by_cases hb : (1 ≤ b ∧ b ≤ 20000) ∧ 2 * b * b < m
  rotate_left
  · have V : Hid (rtX a m b = (0, 0, false)) := rtX_no fun h => hb h.2.2
    by_cases b1 : b < 1
    · clear hb sq0
      go_enter Tryz.func137, Tryz.ntmps137
      go_wp2_with fail
      have K0 : Hid (Blk2 (w.alloc (.cells #[.int .i64 0, .int .i64 0] 40)) w.heap.size 40 (.int .i64 0) (.int .i64 0)) := Blk2.at_ _ _ _ rfl
      have B0 : Hid (Below w.heap.size w (w.alloc (.cells #[.int .i64 0, .int .i64 0] 40))) := (Below.refl _ _).alloc (Nat.le_refl _) _
      generalize w.alloc (.cells #[.int .i64 0, .int .i64 0] 40) = W at K0 B0 ⊢
      obtain ⟨K0a, K0b, K0c, K0d⟩ := K0.out.all
      go_step3
      go_wp2_with fail
      refine (iIsNum_t a _ ha.1 ha.2).mono ?_
      rintro e w' ⟨rfl, rfl⟩
      go_wp2_with fail
      refine (iIsMod_t m _ hm.1 hm.2).mono ?_
      rintro e w' ⟨rfl, rfl⟩
      go_wp2_with fail
      rw [Exit.noGoto_ret]
      obtain ⟨E0, E1, -, -⟩ := ((K0.out.set0 (.int .i64 0)).set1 (.int .i64 0)).all
      refine bodyPost_ret (v := .tuple #[.agg #[.int .i64 0, .int .i64 0], .bool false]) (by simp [results, Tryz.results137, go_sem, E0, E1]) rfl ⟨by rw [V.out], ?_⟩
      exact (B0.out.setCell (Nat.le_refl _) _).setCell (Nat.le_refl _) _
    by_cases b2 : 20000 < b
    · clear hb sq0
      go_enter Tryz.func137, Tryz.ntmps137
      go_wp2_with fail
      have K0 : Hid (Blk2 (w.alloc (.cells #[.int .i64 0, .int .i64 0] 40)) w.heap.size 40 (.int .i64 0) (.int .i64 0)) := Blk2.at_ _ _ _ rfl
      have B0 : Hid (Below w.heap.size w (w.alloc (.cells #[.int .i64 0, .int .i64 0] 40))) := (Below.refl _ _).alloc (Nat.le_refl _) _
      generalize w.alloc (.cells #[.int .i64 0, .int .i64 0] 40) = W at K0 B0 ⊢
      obtain ⟨K0a, K0b, K0c, K0d⟩ := K0.out.all
      go_step3
      go_wp2_with fail
      refine (iIsNum_t a _ ha.1 ha.2).mono ?_
      rintro e w' ⟨rfl, rfl⟩
      go_wp2_with fail
      refine (iIsMod_t m _ hm.1 hm.2).mono ?_
      rintro e w' ⟨rfl, rfl⟩
      go_wp2_with fail
      rw [Exit.noGoto_ret]
      obtain ⟨E0, E1, -, -⟩ := ((K0.out.set0 (.int .i64 0)).set1 (.int .i64 0)).all
      refine bodyPost_ret (v := .tuple #[.agg #[.int .i64 0, .int .i64 0], .bool false]) (by simp [results, Tryz.results137, go_sem, E0, E1]) rfl ⟨by rw [V.out], ?_⟩
      exact (B0.out.setCell (Nat.le_refl _) _).setCell (Nat.le_refl _) _
    obtain ⟨s1, s2⟩ := sq0 (by omega)
    have hq' : m ≤ 2 * b * b := by
      have : ¬ 2 * b * b < m := fun h => hb ⟨by omega, h⟩
      omega
    clear hb sq0
    go_enter Tryz.func137, Tryz.ntmps137
    go_wp2_with fail
    have K0 : Hid (Blk2 (w.alloc (.cells #[.int .i64 0, .int .i64 0] 40)) w.heap.size 40 (.int .i64 0) (.int .i64 0)) := Blk2.at_ _ _ _ rfl
    have B0 : Hid (Below w.heap.size w (w.alloc (.cells #[.int .i64 0, .int .i64 0] 40))) := (Below.refl _ _).alloc (Nat.le_refl _) _
    generalize w.alloc (.cells #[.int .i64 0, .int .i64 0] 40) = W at K0 B0 ⊢
    obtain ⟨K0a, K0b, K0c, K0d⟩ := K0.out.all
    go_step3
    go_wp2_with fail
    refine (iIsNum_t a _ ha.1 ha.2).mono ?_
    rintro e w' ⟨rfl, rfl⟩
    go_wp2_with fail
    refine (iIsMod_t m _ hm.1 hm.2).mono ?_
    rintro e w' ⟨rfl, rfl⟩
    go_wp2_with fail
    rw [Exit.noGoto_ret]
    obtain ⟨E0, E1, -, -⟩ := ((K0.out.set0 (.int .i64 0)).set1 (.int .i64 0)).all
    refine bodyPost_ret (v := .tuple #[.agg #[.int .i64 0, .int .i64 0], .bool false]) (by simp [results, Tryz.results137, go_sem, E0, E1]) rfl ⟨by rw [V.out], ?_⟩
    exact (B0.out.setCell (Nat.le_refl _) _).setCell (Nat.le_refl _) _
  obtain ⟨hb, hq⟩ := hb
  obtain ⟨s1, s2⟩ := sq0 hb
  clear sq0
  have A : Hid (RtA a m b) := ⟨ha, hm, hb, hq⟩
  obtain ⟨I0, gb0⟩ := A.out.start
  have I0 := Lib.hid I0
  have e1 := Int.emod_nonneg a (show m ≠ 0 by omega)
  have e2 := Int.emod_lt_of_pos a (show 0 < m by omega)
  have J0 := Lib.hid (Inv.start m (a % m) ⟨by omega, hm.2⟩ ⟨by omega, by omega⟩)
  have DA : Hid (∀ w', Calls Tryz.prog 110 #[.int .i64 a, .int .i64 m] w' fun e w2 => e = .returned (.tuple #[.int .i64 (a / m), .int .i64 (a % m), .bool true]) ∧ ∃ k, w2 = w'.drewN k) := fun w' => iDiv a m w' ha.1 ha.2 (by omega) hm.2 (by omega)
  have H1 : Hid (-400000000 ≤ m ∧ m ≤ 400000000) := ⟨by omega, hm.2⟩
  have H2 : Hid (-400000000 ≤ a % m ∧ a % m ≤ 400000000) := ⟨by omega, by omega⟩
  generalize a / m = aq at DA
  obtain ⟨r, hr⟩ : ∃ r, a % m = r := ⟨_, rfl⟩
  rw [hr] at e1 e2 I0 J0 DA H2
  clear hr
  have n1 : (m == 0) = false := by simp; omega
  go_enter Tryz.func137, Tryz.ntmps137
  go_wp2_with fail
  have K0 : Hid (Blk2 (w.alloc (.cells #[.int .i64 0, .int .i64 0] 40)) w.heap.size 40 (.int .i64 0) (.int .i64 0)) := Blk2.at_ _ _ _ rfl
  have B0 : Hid (Below w.heap.size w (w.alloc (.cells #[.int .i64 0, .int .i64 0] 40))) := (Below.refl _ _).alloc (Nat.le_refl _) _
  generalize w.alloc (.cells #[.int .i64 0, .int .i64 0] 40) = W at K0 B0 ⊢
  obtain ⟨K0a, K0b, K0c, K0d⟩ := K0.out.all
  go_step3
  go_wp2_with fail
  refine (iIsNum_t a _ ha.1 ha.2).mono ?_
  rintro e w' ⟨rfl, rfl⟩
  go_wp2_with fail
  refine (iIsMod_t m _ hm.1 hm.2).mono ?_
  rintro e w' ⟨rfl, rfl⟩
  go_wp2_with fail
  refine (DA.out _).mono ?_
  rintro e w' ⟨rfl, k, rfl⟩
  have K0 : Hid (Blk2 (W.drewN k) w.heap.size 40 (.int .i64 0) (.int .i64 0)) := K0.out.drewN k
  have B0 : Hid (Below w.heap.size w (W.drewN k)) := below_drewN B0.out k
  generalize W.drewN k = W at K0 B0 ⊢
  go_wp2_with fail
  have K1 : Hid (Blk3 ((W.alloc (.cells #[.int .i64 m, .int .i64 1, .int .i64 0] 182)).alloc (.cells #[.int .i64 r, .int .i64 0, .int .i64 1] 182)) W.heap.size 182 (.int .i64 m) (.int .i64 1) (.int .i64 0)) := (Blk3.at_ _ _ _ _ rfl).old _
  have K2 : Hid (Blk3 ((W.alloc (.cells #[.int .i64 m, .int .i64 1, .int .i64 0] 182)).alloc (.cells #[.int .i64 r, .int .i64 0, .int .i64 1] 182)) (W.heap.size + 1) 182 (.int .i64 r) (.int .i64 0) (.int .i64 1)) := Blk3.at_ _ _ _ _ (by simp)
  have K3 : Hid (Blk2 ((W.alloc (.cells #[.int .i64 m, .int .i64 1, .int .i64 0] 182)).alloc (.cells #[.int .i64 r, .int .i64 0, .int .i64 1] 182)) w.heap.size 40 (.int .i64 0) (.int .i64 0)) := (K0.out.old _).old _
  have B3 : Hid (Below w.heap.size w ((W.alloc (.cells #[.int .i64 m, .int .i64 1, .int .i64 0] 182)).alloc (.cells #[.int .i64 r, .int .i64 0, .int .i64 1] 182))) := (B0.out.alloc B0.out.size _).alloc (by have := B0.out.size; simp; omega) _
  have hW : Hid (w.heap.size < W.heap.size) := K0.out.lt
  clear K0a K0b K0c K0d
  generalize (W.alloc (.cells #[.int .i64 m, .int .i64 1, .int .i64 0] 182)).alloc (.cells #[.int .i64 r, .int .i64 0, .int .i64 1] 182) = W3 at K1 K2 K3 B3 ⊢
  generalize W.heap.size = sb at K1 K2 hW ⊢
  clear K0 B0
  go_step3
  go_wp2_with fail
  go_loopg [] r.natAbs (fun k wr => ∃ g p x h s u : Int, k = h.natAbs ∧ Inv m r g p x h s u ∧ RInv m a g x h u ∧ b < g ∧ Below w.heap.size w wr ∧
      Blk3 wr sb 182 (.int .i64 g) (.int .i64 p) (.int .i64 x) ∧ Blk3 wr (sb + 1) 182 (.int .i64 h) (.int .i64 s) (.int .i64 u) ∧ Blk2 wr w.heap.size 40 (.int .i64 0) (.int .i64 0))
  case atStart => exact ⟨m, 1, 0, r, 0, 1, rfl, J0.out, I0.out, gb0, B3.out, K1.out, K2.out, K3.out⟩
  case round =>
    obtain ⟨g, p, x, h, s, u, hk, i, j, gb, hbel, k1, k2, k3⟩ := hrel
    have HK := Lib.hid hk
    have I := Lib.hid j
    have J := Lib.hid i
    have K1 := Lib.hid k1
    have K2 := Lib.hid k2
    have K3 := Lib.hid k3
    have B := Lib.hid hbel
    obtain ⟨c0, c1, c2, f0, f1, f2⟩ := k1.all
    obtain ⟨d0, d1, d2, e0, e1, e2⟩ := k2.all
    obtain ⟨z0, z1, z2, z3⟩ := k3.all
    have hz := k2.lt
    have hz1 := k1.lt
    clear k1 k2 k3 hbel hk
    have ⟨g1, g2⟩ := i.g0
    have ⟨h1, h2⟩ := i.h0
    have ⟨p1, p2⟩ := i.x0
    have ⟨x1, x2⟩ := i.y0
    have ⟨s3, s4⟩ := i.u0
    have ⟨u1, u2⟩ := i.v0
    have l1 := j.low
    have l2 := j.less
    clear i j
    obtain ⟨t, ht, t1, t2, t3⟩ : ∃ t, (if u < -u then -u else u) = t ∧ u ≤ t ∧ -u ≤ t ∧ (t = u ∨ t = -u) := ⟨_, rfl, by split <;> omega, by split <;> omega, by split <;> omega⟩
    by_cases htb : b < t
    · have V : Hid (rtX a m b = (0, 0, false)) := RInv.none _ rfl A.out I.out gb (by omega)
      clear t1 t2 t3
      go_wp2_with fail
      obtain ⟨E0, E1, -, -⟩ := ((K3.out.set0 (.int .i64 0)).set1 (.int .i64 0)).all
      refine bodyPost_ret (v := .tuple #[.agg #[.int .i64 0, .int .i64 0], .bool false]) (by simp [results, Tryz.results137, go_sem, E0, E1]) rfl ⟨by rw [V.out], ?_⟩
      exact (B.out.setCell (Nat.le_refl _) _).setCell (Nat.le_refl _) _
    · have hut : ¬ b < t := htb
      by_cases hh : b < h
      · have hh0 : h ≠ 0 := by omega
        have n2 : (h == 0) = false := by simp; omega
        have d9 : Int.tdiv g h = g / h := Int.tdiv_eq_ediv_of_nonneg (by omega)
        obtain ⟨⟨q1, q2⟩, ⟨m3, m4⟩, ⟨m5, m6⟩, m7, m8⟩ := J.out.fits H1.out H2.out hh0
        have J2 := Lib.hid (J.out.step H1.out H2.out hh0)
        have I2 := Lib.hid (I.out.step (by omega))
        have L := Lib.hid (rem_lt g h hh0)
        rw [d9] at q1 q2 m3 m4 m5 m6 m7 m8 J2 L
        obtain ⟨q, hq9⟩ : ∃ q, g / h = q := ⟨_, rfl⟩
        rw [hq9] at d9 q1 q2 m3 m4 m5 m6 m7 m8 J2 L I2
        have vq : IntKind.i64.wrap q = q := IntWalk.i64_in _ (by omega)
        clear hq9 t1 t2 t3
        have LT : Hid (∀ w', Calls Tryz.prog 166 #[.agg #[.int .i64 g, .int .i64 p, .int .i64 x], .agg #[.int .i64 h, .int .i64 s, .int .i64 u], .int .i64 q] w' fun e w2 => e = .returned (.agg #[.int .i64 (g - q * h), .int .i64 (p - q * s), .int .i64 (x - q * u)]) ∧ Below w'.heap.size w' w2) := fun w' => lessT g p x h s u q w' (by omega) (by omega) (by omega) (by omega) (by omega) (by omega) (by omega) (by omega) (by omega) (by omega) (by omega) (by omega)
        go_wp2_with fail
        clear c0 c1 c2 d0 d1 d2 f0 f1 f2 e0 e1 e2
        refine wp_region_T (S := fun w' => Below wr.heap.size wr w') (T := fun j => j == 9 || j == 10) (by kernel_rfl) (Below.refl _ _).drew (fun hH => ?_)
        refine wpAnyT_take (i := 0) (v := ?_) (by simp only [List.getElem?_toArray, List.getElem?_cons_zero]; rfl) (by kernel_rfl) (by kernel_rfl) (by kernel_rfl) (by kernel_rfl) (two_only 9 10 (by kernel_rfl) (by kernel_rfl)) (by exact fun _ _ _ h => h) (Or.inl ⟨by rfl, ?_⟩) hH ?_
        rotate_left
        · (intro wS hS; (try dsimp only at hS); obtain ⟨k1, k2, k3, k4, k5, k6⟩ := two3 K1.out K2.out hS; go_simp; try rfl)
        try simp only [Act.put, List.setIfInBounds_toArray, List.set_cons_zero, List.set_cons_succ]
        refine wpAnyT_take (i := 1) (v := ?_) (by simp only [List.getElem?_toArray, List.getElem?_cons_succ, List.getElem?_cons_zero]; rfl) (by kernel_rfl) (by kernel_rfl) (by kernel_rfl) (by kernel_rfl) (two_only 9 10 (by kernel_rfl) (by kernel_rfl)) (by exact fun _ _ _ h => h) (Or.inl ⟨by rfl, ?_⟩) hH ?_
        rotate_left
        · (intro wS hS; (try dsimp only at hS); obtain ⟨k1, k2, k3, k4, k5, k6⟩ := two3 K1.out K2.out hS; go_simp; try rfl)
        try simp only [Act.put, List.setIfInBounds_toArray, List.set_cons_zero, List.set_cons_succ]
        refine wpAnyT_take (i := 2) (v := ?_) (by simp only [List.getElem?_toArray, List.getElem?_cons_succ, List.getElem?_cons_zero]; rfl) (by kernel_rfl) (by kernel_rfl) (by kernel_rfl) (by kernel_rfl) (two_only 9 10 (by kernel_rfl) (by kernel_rfl)) (by exact fun _ _ _ h => h) (Or.inl ⟨by rfl, ?_⟩) hH ?_
        rotate_left
        · (intro wS hS; (try dsimp only at hS); obtain ⟨k1, k2, k3, k4, k5, k6⟩ := two3 K1.out K2.out hS; go_simp; try rfl)
        try simp only [Act.put, List.setIfInBounds_toArray, List.set_cons_zero, List.set_cons_succ]
        refine wpAnyT_take (i := 3) (v := ?_) (by simp only [List.getElem?_toArray, List.getElem?_cons_succ, List.getElem?_cons_zero]; rfl) (by kernel_rfl) (by kernel_rfl) (by kernel_rfl) (by kernel_rfl) (two_only 9 10 (by kernel_rfl) (by kernel_rfl)) (by exact fun _ _ _ h => h) (Or.inl ⟨by rfl, ?_⟩) hH ?_
        rotate_left
        · (intro wS hS; clear hS; go_simp; try rfl)
        try simp only [Act.put, List.setIfInBounds_toArray, List.set_cons_zero, List.set_cons_succ]
        refine wpAnyT_take (i := 4) (v := ?_) (by simp only [List.getElem?_toArray, List.getElem?_cons_succ, List.getElem?_cons_zero]; rfl) (by kernel_rfl) (by kernel_rfl) (by kernel_rfl) (by kernel_rfl) (two_only 9 10 (by kernel_rfl) (by kernel_rfl)) (by exact fun _ _ _ h => h) (Or.inl ⟨by rfl, ?_⟩) hH ?_
        rotate_left
        · (intro wS hS; (try dsimp only at hS); obtain ⟨k1, k2, k3, k4, k5, k6⟩ := two3 K1.out K2.out hS; go_simp; try rfl)
        try simp only [Act.put, List.setIfInBounds_toArray, List.set_cons_zero, List.set_cons_succ]
        refine wpAnyT_take (i := 5) (v := ?_) (by simp only [List.getElem?_toArray, List.getElem?_cons_succ, List.getElem?_cons_zero]; rfl) (by kernel_rfl) (by kernel_rfl) (by kernel_rfl) (by kernel_rfl) (two_only 9 10 (by kernel_rfl) (by kernel_rfl)) (by exact fun _ _ _ h => h) (Or.inl ⟨by rfl, ?_⟩) hH ?_
        rotate_left
        · (intro wS hS; clear hS; go_simp; try rfl)
        try simp only [Act.put, List.setIfInBounds_toArray, List.set_cons_zero, List.set_cons_succ]
        refine wpAnyT_take (i := 6) (v := ?_) (by simp only [List.getElem?_toArray, List.getElem?_cons_succ, List.getElem?_cons_zero]; rfl) (by kernel_rfl) (by kernel_rfl) (by kernel_rfl) (by kernel_rfl) (two_only 9 10 (by kernel_rfl) (by kernel_rfl)) (by exact fun _ _ _ h => h) (Or.inl ⟨by rfl, ?_⟩) hH ?_
        rotate_left
        · (intro wS hS; (try dsimp only at hS); obtain ⟨k1, k2, k3, k4, k5, k6⟩ := two3 K1.out K2.out hS; go_simp; try rfl)
        try simp only [Act.put, List.setIfInBounds_toArray, List.set_cons_zero, List.set_cons_succ]
        refine wpAnyT_take (i := 7) (v := ?_) (by simp only [List.getElem?_toArray, List.getElem?_cons_succ, List.getElem?_cons_zero]; rfl) (by kernel_rfl) (by kernel_rfl) (by kernel_rfl) (by kernel_rfl) (two_only 9 10 (by kernel_rfl) (by kernel_rfl)) (by exact fun _ _ _ h => h) (Or.inl ⟨by rfl, ?_⟩) hH ?_
        rotate_left
        · (intro wS hS; clear hS; go_simp; try rfl)
        try simp only [Act.put, List.setIfInBounds_toArray, List.set_cons_zero, List.set_cons_succ]
        refine wpAnyT_ready (rs := [8]) (by kernel_rfl) (by simp) ?_
        refine AllReadyT.cons (by simp only [List.getElem?_toArray, List.getElem?_cons_succ, List.getElem?_cons_zero]; rfl) (fun K hK => ?_) AllReadyT.nil
        go_simp
        (with_reducible refine (LT.out _).mono ?_)
        rintro e v1 ⟨rfl, hb1⟩
        try dsimp only
        refine hK.out _ _ (fun _ => hH.trans (hb1.mono hH.size)) ?_
        clear hK K
        have hH := hH.trans (hb1.mono hH.size)
        try simp only [Act.put, List.setIfInBounds_toArray, List.set_cons_zero, List.set_cons_succ]
        refine wpAnyT_ready (rs := [9]) (by kernel_rfl) (by simp) ?_
        refine AllReadyT.cons (by simp only [List.getElem?_toArray, List.getElem?_cons_succ, List.getElem?_cons_zero]; rfl) (fun K hK => ?_) AllReadyT.nil
        obtain ⟨C0, C1, C2, F0, F1, F2⟩ := (K1.out.keep hH hz1).all
        obtain ⟨D0, D1, D2, G0, G1, G2⟩ := (K2.out.keep hH hz).all
        go_simp
        try dsimp only
        refine hK.out _ _ (fun h => by cases h) ?_
        clear hK K
        try simp only [Act.put, List.setIfInBounds_toArray, List.set_cons_zero, List.set_cons_succ]
        refine wpAnyT_ready (rs := [10]) (by kernel_rfl) (by simp) ?_
        refine AllReadyT.cons (by simp only [List.getElem?_toArray, List.getElem?_cons_succ, List.getElem?_cons_zero]; rfl) (fun K hK => ?_) AllReadyT.nil
        go_simp
        try dsimp only
        refine hK.out _ _ (fun h => by cases h) ?_
        clear hK K
        try simp only [Act.put, List.setIfInBounds_toArray, List.set_cons_zero, List.set_cons_succ]
        refine wpAnyT_done (by kernel_rfl) ?_ _
        go_wp2_with fail
        go_roundg (g - q * h).natAbs
        case measure => rw [HK.out]; exact L.out
        case rel =>
          have hw := hW.out
          have KW := K3.out.lt
          refine ⟨h, s, u, _, _, _, rfl, J2.out, I2.out, hh, ?_, ?_, ?_, ?_⟩
          · exact ((((((B.out.trans (hH.mono (by omega))).setCell (by simp; omega) _).setCell (by simp; omega) _).setCell (by simp; omega) _).setCell (by simp; omega) _).setCell (by simp; omega) _).setCell (by simp; omega) _
          · exact ((((((K1.out.keep hH hz1).set0 _).set1 _).set2 _).far (by simp) _).far (by simp) _).far (by simp) _
          · exact ((((((K2.out.keep hH hz).far (by simp) _).far (by simp) _).far (by simp) _).set0 _).set1 _).set2 _
          · exact ((((((K3.out.keep hH KW).far (by simp; omega) _).far (by simp; omega) _).far (by simp; omega) _).far (by simp; omega) _).far (by simp; omega) _).far (by simp; omega) _
      · by_cases hu : u < 0
        · obtain ⟨s', hs'⟩ : ∃ s', -h = s' := ⟨_, rfl⟩
          obtain ⟨t', ht'⟩ : ∃ t', -u = t' := ⟨_, rfl⟩
          have AY : Hid (imB s' t' a m = true → rtX a m b = (s', t', true)) := fun h2 => I.out.ans_yes A.out (by omega) gb ((if_pos hu).trans hs') ((if_pos hu).trans ht') (by omega) h2
          have AN : Hid (imB s' t' a m = false → rtX a m b = (0, 0, false)) := fun h1 => I.out.ans_no A.out (by omega) gb ((if_pos hu).trans hs') ((if_pos hu).trans ht') (.inr h1)
          clear t1 t2 t3
          go_wp2_with fail
          refine (lessT 0 0 0 h s u 1 _ (by omega) (by omega) (by omega) (by omega) (by omega) (by omega) (by omega) (by omega) (by omega) (by omega) (by omega) (by omega)).mono ?_
          rintro e w1 ⟨rfl, hb1⟩
          rw [show (0 : Int) - 1 * h = s' by omega, show (0 : Int) - 1 * u = t' by omega]
          clear c0 c1 c2 d0 d1 d2 f0 f1 f2 e0 e1 e2
          obtain ⟨s9, hs9⟩ : ∃ s9, (0 : Int) - 1 * s = s9 := ⟨_, rfl⟩
          rw [hs9]
          clear hs9
          obtain ⟨C0, C1, C2, F0, F1, F2⟩ := (K2.out.keep hb1 hz).all
          have K6 := Lib.hid ((((K3.out.keep hb1 K3.out.lt).far (a := ⟨sb + 1, 0, none⟩) (by have := hW.out; simp; omega) (.int .i64 s')).far (a := ⟨sb + 1, 1, none⟩) (by have := hW.out; simp; omega) (.int .i64 s9)).far (a := ⟨sb + 1, 2, none⟩) (by have := hW.out; simp; omega) (.int .i64 t'))
          have K7 := Lib.hid ((((K2.out.keep hb1 hz).set0 (.int .i64 s')).set1 (.int .i64 s9)).set2 (.int .i64 t'))
          have BW : Hid (w.heap.size ≤ sb + 1) := by have := hW.out; show _ ≤ _; omega
          have B0 := Lib.hid ((((B.out.trans (hb1.mono (by have := B.out.size; omega))).setCell (p := ⟨sb + 1, 0, none⟩) BW.out (.int .i64 s')).setCell (p := ⟨sb + 1, 1, none⟩) BW.out (.int .i64 s9)).setCell (p := ⟨sb + 1, 2, none⟩) BW.out (.int .i64 t'))
          obtain ⟨K7a, K7b, K7c, K7d, K7e, K7f⟩ := K7.out.all
          have K1 : Hid (Blk2 ((((w1.setCell ⟨sb + 1, 0, none⟩ (.int .i64 s')).setCell ⟨sb + 1, 1, none⟩ (.int .i64 s9)).setCell ⟨sb + 1, 2, none⟩ (.int .i64 t')).alloc (.cells #[.int .i64 s', .int .i64 t'] 40)) w.heap.size 40 (.int .i64 0) (.int .i64 0)) := K6.out.old _
          have K5 : Hid (Blk2 ((((w1.setCell ⟨sb + 1, 0, none⟩ (.int .i64 s')).setCell ⟨sb + 1, 1, none⟩ (.int .i64 s9)).setCell ⟨sb + 1, 2, none⟩ (.int .i64 t')).alloc (.cells #[.int .i64 s', .int .i64 t'] 40)) w1.heap.size 40 (.int .i64 s') (.int .i64 t')) := Blk2.at_ _ _ _ (by simp [World.setCell])
          have B1 : Hid (Below w.heap.size w ((((w1.setCell ⟨sb + 1, 0, none⟩ (.int .i64 s')).setCell ⟨sb + 1, 1, none⟩ (.int .i64 s9)).setCell ⟨sb + 1, 2, none⟩ (.int .i64 t')).alloc (.cells #[.int .i64 s', .int .i64 t'] 40))) := B0.out.alloc B0.out.size _
          go_wp2_with fail
          refine (iImage s' t' a m _).mono ?_
          rintro e w2 ⟨rfl, hb2⟩
          have K2 := Lib.hid (K1.out.keep hb2 K1.out.lt)
          have K4 := Lib.hid (K5.out.keep hb2 K5.out.lt)
          have B2 := Lib.hid (B1.out.trans (hb2.mono B1.out.size))
          obtain ⟨K2a, K2b, K2c, K2d⟩ := K2.out.all
          obtain ⟨K4a, K4b, K4c, K4d⟩ := K4.out.all
          clear hb2
          generalize imB s' t' a m = ib at AY AN ⊢
          cases ib with
          | false =>
            have V := Lib.hid (AN.out rfl)
            go_wp2_with fail
            obtain ⟨E0, E1, -, -⟩ := ((K2.out.set0 (.int .i64 0)).set1 (.int .i64 0)).all
            refine bodyPost_ret (v := .tuple #[.agg #[.int .i64 0, .int .i64 0], .bool false]) (by simp [results, Tryz.results137, go_sem, E0, E1]) rfl ⟨by rw [V.out], ?_⟩
            exact (B2.out.setCell (Nat.le_refl _) _).setCell (Nat.le_refl _) _
          | true =>
            have V := Lib.hid (AY.out rfl)
            go_wp2_with fail
            obtain ⟨E0, E1, -, -⟩ := ((K2.out.set0 (.int .i64 s')).set1 (.int .i64 t')).all
            refine bodyPost_ret (v := .tuple #[.agg #[.int .i64 s', .int .i64 t'], .bool true]) (by simp [results, Tryz.results137, go_sem, E0, E1]) rfl ⟨by rw [V.out], ?_⟩
            exact (B2.out.setCell (Nat.le_refl _) _).setCell (Nat.le_refl _) _
        · have AY : Hid (imB h u a m = true → rtX a m b = (h, u, true)) := fun h2 => I.out.ans_yes A.out (by omega) gb (if_neg hu) (if_neg hu) (by omega) h2
          have AN : Hid (imB h u a m = false → rtX a m b = (0, 0, false)) := fun h1 => I.out.ans_no A.out (by omega) gb (if_neg hu) (if_neg hu) (.inr h1)
          clear t1 t2 t3
          have K1 : Hid (Blk2 (wr.alloc (.cells #[.int .i64 h, .int .i64 u] 40)) w.heap.size 40 (.int .i64 0) (.int .i64 0)) := K3.out.old _
          have K5 : Hid (Blk2 (wr.alloc (.cells #[.int .i64 h, .int .i64 u] 40)) wr.heap.size 40 (.int .i64 h) (.int .i64 u)) := Blk2.at_ _ _ _ rfl
          have B1 : Hid (Below w.heap.size w (wr.alloc (.cells #[.int .i64 h, .int .i64 u] 40))) := B.out.alloc B.out.size _
          go_wp2_with fail
          refine (iImage h u a m _).mono ?_
          rintro e w2 ⟨rfl, hb2⟩
          have K2 := Lib.hid (K1.out.keep hb2 K1.out.lt)
          have K4 := Lib.hid (K5.out.keep hb2 K5.out.lt)
          have B2 := Lib.hid (B1.out.trans (hb2.mono B1.out.size))
          obtain ⟨K2a, K2b, K2c, K2d⟩ := K2.out.all
          obtain ⟨K4a, K4b, K4c, K4d⟩ := K4.out.all
          clear hb2
          generalize imB h u a m = ib at AY AN ⊢
          cases ib with
          | false =>
            have V := Lib.hid (AN.out rfl)
            go_wp2_with fail
            obtain ⟨E0, E1, -, -⟩ := ((K2.out.set0 (.int .i64 0)).set1 (.int .i64 0)).all
            refine bodyPost_ret (v := .tuple #[.agg #[.int .i64 0, .int .i64 0], .bool false]) (by simp [results, Tryz.results137, go_sem, E0, E1]) rfl ⟨by rw [V.out], ?_⟩
            exact (B2.out.setCell (Nat.le_refl _) _).setCell (Nat.le_refl _) _
          | true =>
            have V := Lib.hid (AY.out rfl)
            go_wp2_with fail
            obtain ⟨E0, E1, -, -⟩ := ((K2.out.set0 (.int .i64 h)).set1 (.int .i64 u)).all
            refine bodyPost_ret (v := .tuple #[.agg #[.int .i64 h, .int .i64 u], .bool true]) (by simp [results, Tryz.results137, go_sem, E0, E1]) rfl ⟨by rw [V.out], ?_⟩
            exact (B2.out.setCell (Nat.le_refl _) _).setCell (Nat.le_refl _) _
end Go.Proofs.YtcapddcmnjeloaaGreatDoor
end

section
/-
  Chapter 11, in the program: liftedFrom.
-/
namespace Go.Proofs.YtcapddcmnjeloaaGreatDoor
set_option maxRecDepth 100000
open Go.RowKit
theorem LfH.at_ {p : Int} {n : Nat} {xs bs : List Int} (lo : 101 ≤ p) (hi : p ≤ 199) (inv : (ivX n n p xs).ok = true) (hs : sysB n n xs bs = true) : LfH p n xs (ivL p n xs) bs ∧ ivX n n p xs = ⟨true, n, n, ivL p n xs⟩ := by
  obtain ⟨n', e0, -, h6, hx, nx, hb, nb⟩ := sysB_says hs
  obtain rfl : n = n' := by omega
  obtain ⟨n', e1, e2, -, hp2, hx2, -, hge, e3, hv, hc⟩ := ivX_says inv
  have : n' = n := by omega
  subst this
  exact ⟨⟨lo, hi, h6, hx, nx, hb, nb, hv, hc, (elW_inv (prmB_says hp2).1 hx2).2.1 (by omega)⟩, e3⟩
def LiftRes (p : Int) (inv : Bool) (zs : List (Int × Int)) (ok : Bool) (w : World) (e : Ending) (w' : World) : Prop := ∃ v ev : Value, e = .returned (.tuple #[v, ev]) ∧ Below w.heap.size w w' ∧
  ((inv = false ∧ v = .slice none 0 0 ∧ ev = .iface 104 (.agg #[.int .i64 p])) ∨ (inv = true ∧ OwnR w.heap.size w' v zs ∧ ((ok = true ∧ ev = .nilIface) ∨ (ok = false ∧ ∃ s, ev = .iface 95 (.string s)))))
set_option maxHeartbeats 8000000 in
theorem iLifted (p : Int) (n : Nat) (a : Option Addr) (m : Nat) (xs : List Int) (ab : Option Addr) (mb : Nat) (bs : List Int) (w : World) (lo : 101 ≤ p) (hi : p ≤ 199) (h : Rd w a xs) (hc : CelA a xs.length m) (hs : sysB n n xs bs = true) (hb : Rd w ab bs) :
    Calls Tryz.prog 85 #[.agg #[.int .i64 n, .int .i64 n, .slice a xs.length m], .slice ab bs.length mb, .int .i64 p] w (LiftRes p (ivX n n p xs).ok (slQ p n xs bs).1 (slQ p n xs bs).2 w) := by
  obtain ⟨n', hn', -, h6, hx, hnx, hbl, hnb⟩ := sysB_says hs
  obtain rfl : n = n' := by omega
  have N36 : n * n ≤ 36 := Nat.mul_le_mul h6 h6
  have IV : Hid (∀ w', Below w.heap.size w w' → Calls Tryz.prog 134 #[.agg #[.int .i64 n, .int .i64 n, .slice a xs.length m], .int .i64 p] w' (MatRes (ivX n n p xs) w')) := fun w' hb => iIvx n n p a m xs w' (h.below hb) (by omega)
  have LF : Hid ((ivX n n p xs).ok = true → ∀ (q : Option Addr) (cap : Nat) (w' : World), Below w.heap.size w w' → Rd w' q (ivX n n p xs).zs → CelA q (ivX n n p xs).zs.length cap → (ivX n n p xs).r = n ∧ (ivX n n p xs).c = n ∧ Calls Tryz.prog 135 #[.agg #[.int .i64 n, .int .i64 n, .slice a xs.length m], .agg #[.int .i64 n, .int .i64 n, .slice q (ivX n n p xs).zs.length cap], .slice ab bs.length mb, .int .i64 p] w' (fun e w2 => ∃ v, e = .returned (.tuple #[v, .int .i64 (p ^ lfK p)]) ∧ Own w'.heap.size w2 v (lfS p n xs (ivX n n p xs).zs bs (lfK p)).1 ∧ Below w'.heap.size w' w2)) := fun inv q cap w' hb' hr hq => by
    obtain ⟨H, e⟩ := LfH.at_ lo hi inv hs
    rw [e] at hr hq ⊢
    dsimp only at hr hq ⊢
    rw [H.hv] at hq ⊢
    have := iLift p n (n * n) a m xs q cap (ivL p n xs) ab mb bs w' H rfl (h.below hb') (by rw [← hx]; exact hc) hr hq (hb.below hb')
    rw [hx, hbl]
    exact ⟨rfl, rfl, this⟩
  have LL : Hid ((lfS p n xs (ivX n n p xs).zs bs (lfK p)).1.length = n) := lfS_xl _
  have PK := lfK_go lo hi
  have PB : Hid (∀ w', Calls Tryz.prog 136 #[.int .i64 (p ^ lfK p)] w' (fun e w2 => e = .returned (.int .i64 (lfB (p ^ lfK p))) ∧ w' = w2)) := fun w' => iBound _ w' (by have := PK.2.2.1; omega) PK.2.2.2
  have RF : Hid (∀ x y z w', Calls Tryz.prog 137 #[.int .i64 x, .int .i64 y, .int .i64 z] w' (Gives (.tuple #[.agg #[.int .i64 (rtX x y z).1, .int .i64 (rtX x y z).2.1], .bool (rtX x y z).2.2]) w')) := fun x y z w' => iRatio x y z w'
  have IR : Hid (∀ (az : Option Addr) (mz : Nat) (w' : World), Below w.heap.size w w' → RdQ w' az (slZ p n xs bs n) → Calls Tryz.prog 13 #[.agg #[.int .i64 n, .int .i64 n, .slice a xs.length m], .slice ab bs.length mb, .slice az n mz] w' (Gives (.bool (irB n n xs bs (slZ p n xs bs n))) w')) := fun az mz w' hb' hz => by
    have := iRational n n a m xs ab mb bs az mz (slZ p n xs bs n) w' (h.below hb') hc (by omega) (hb.below hb') (by omega) hz (by rw [slZ_length]; omega)
    rw [slZ_length] at this
    exact this
  have QB : Hid (∀ i, i < n → (slR p n xs bs i).2.2 = false → slQ p n xs bs = ([], false)) := fun i hi h => slQ_bad hi h
  have QI : Hid (irB n n xs bs (slZ p n xs bs n) = false → slQ p n xs bs = ([], false)) := fun h => slQ_ir h
  have QY : Hid ((∀ i, i < n → (slR p n xs bs i).2.2 = true) → irB n n xs bs (slZ p n xs bs n) = true → slQ p n xs bs = (slZ p n xs bs n, true)) := fun h1 h2 => slQ_yes h1 h2
  have ZS : Hid (∀ i, slZ p n xs bs (i + 1) = slZ p n xs bs i ++ [((slR p n xs bs i).1, (slR p n xs bs i).2.1)]) := fun i => slZ_succ p n xs bs i
  have ZL : Hid (∀ i, (slZ p n xs bs i).length = i) := fun i => slZ_length p n xs bs i
  have RE : Hid (∀ i, rtX ((lfS p n xs (ivX n n p xs).zs bs (lfK p)).1.getD i 0) (p ^ lfK p) (lfB (p ^ lfK p)) = slR p n xs bs i) := fun _ => rfl
  have US : Hid (∀ j, j < n → ∀ u, (slZ p n xs bs j ++ List.replicate (n - j) ((0, 0) : Int × Int)).set j u = (slZ p n xs bs j ++ [u]) ++ List.replicate (n - (j + 1)) ((0, 0) : Int × Int)) := fun j hj u => up_set (slZ_length _ _ _ _ _) hj u
  have UL : Hid (∀ j, j ≤ n → (slZ p n xs bs j ++ List.replicate (n - j) ((0, 0) : Int × Int)).length = n) := fun j hj => by
    show _ = _; rw [List.length_append, slZ_length, List.length_replicate]; omega
  have B0 : Hid (Below w.heap.size w (w.alloc (.cells #[.int .i64 n, .int .i64 n, .slice a xs.length m] 26))) := (Below.refl _ _).alloc (Nat.le_refl _) _
  have K0 : Hid (Blk3 (w.alloc (.cells #[.int .i64 n, .int .i64 n, .slice a xs.length m] 26)) w.heap.size 26 (.int .i64 n) (.int .i64 n) (.slice a xs.length m)) := Blk3.at_ _ _ _ _ rfl
  have hmk := makeQx n (by omega)
  generalize irB n n xs bs (slZ p n xs bs n) = ir at IR QI QY
  generalize slQ p n xs bs = RES at QB QI QY ⊢
  generalize (lfS p n xs (ivX n n p xs).zs bs (lfK p)).1 = us at LF LL RE
  generalize slR p n xs bs = sr at QB QY ZS RE
  generalize slZ p n xs bs = sz at IR QY ZS ZL US UL
  generalize lfB (p ^ lfK p) = bd at PB RE
  generalize p ^ lfK p = P at LF PB RE
  generalize ivX n n p xs = MX at IV LF ⊢
  generalize xs.length = L at IV LF IR K0 B0 ⊢
  generalize bs.length = Lb at LF IR ⊢
  clear h hc hs hb hx hnx hbl hnb hn' PK N36
  obtain ⟨z0, z1, z2, -, -, -⟩ := K0.out.all
  go_enter Tryz.func85, Tryz.ntmps85
  go_wp2_with fail
  refine (IV.out _ B0.out).mono ?_
  rintro e w1 ⟨v, rfl, own, hb1⟩
  obtain ⟨q, cap, rfl, hq, -⟩ := own.form
  have CQ := Lib.hid own.celA
  have Q2 := Lib.hid (hq.below ((Below.refl _ _).alloc (Nat.le_refl _) (.cells #[.int .i64 MX.r, .int .i64 MX.c, .slice q MX.zs.length cap] 26)))
  have K2 := Lib.hid ((K0.out.step hb1).old (.cells #[.int .i64 MX.r, .int .i64 MX.c, .slice q MX.zs.length cap] 26))
  have A2 : Hid (Blk3 (w1.alloc (.cells #[.int .i64 MX.r, .int .i64 MX.c, .slice q MX.zs.length cap] 26)) w1.heap.size 26 (.int .i64 MX.r) (.int .i64 MX.c) (.slice q MX.zs.length cap)) := Blk3.at_ _ _ _ _ rfl
  have Bx := B0.out.trans (hb1.mono B0.out.size)
  have B2 := Lib.hid (Bx.alloc Bx.size (.cells #[.int .i64 MX.r, .int .i64 MX.c, .slice q MX.zs.length cap] 26))
  clear hb1 Bx hq own K0 B0 IV z0 z1 z2
  go_upto_region 2 with fail
  generalize w1.alloc (.cells #[.int .i64 MX.r, .int .i64 MX.c, .slice q MX.zs.length cap] 26) = W at B2 Q2 A2 K2 ⊢
  obtain ⟨b8, hb8⟩ : ∃ b8, w1.heap.size = b8 := ⟨_, rfl⟩
  rw [hb8] at A2 ⊢
  clear hb8
  rcases Bool.eq_false_or_eq_true MX.ok with hk | hk
  rotate_left
  · rw [hk]
    go_wp2_with fail
    go_ret2
    exact ⟨_, _, rfl, B2.out, .inl ⟨hk, rfl, rfl⟩⟩
  have HKM := Lib.hid hk
  obtain ⟨e1, e2, hlf⟩ := LF.out hk q cap W B2.out Q2.out CQ.out
  have LFi := Lib.hid hlf
  rw [hk]
  rw [e1, e2] at A2
  obtain ⟨z0, z1, z2, -, -, -⟩ := K2.out.all
  obtain ⟨y0, y1, y2, -, -, -⟩ := A2.out.all
  clear hlf LF Q2 CQ hk
  go_wp2_with fail
  refine LFi.out.mono ?_
  rintro e w3 ⟨v, rfl, own, hb3⟩
  obtain ⟨qu, cu, rfl, hu, -⟩ := own.form
  rw [LL.out]
  have K3 := Lib.hid (K2.out.step hb3)
  have B3 := Lib.hid (B2.out.trans (hb3.mono B2.out.size))
  have UR := Lib.hid hu
  clear z0 z1 z2 y0 y1 y2 hb3 own hu K2 A2 B2 LFi
  go_wp2_with fail
  refine (PB.out _).mono ?_
  rintro e w4 ⟨rfl, rfl⟩
  have g0 := B3.out.size
  have g1 := K3.out.lt
  have Q1 : Hid (QsX (w3.alloc (.cells (madeCells #[.int .i64 0, .int .i64 0] (n * 2)) 40)) w3.heap.size (sz 0 ++ List.replicate (n - 0) ((0, 0) : Int × Int))) := by
    have e0 : sz 0 = [] := List.eq_nil_of_length_eq_zero (ZL.out 0)
    refine Lib.hid ?_
    rw [e0]
    exact QsX.made n rfl
  have K4 := Lib.hid (K3.out.old (.cells (madeCells #[.int .i64 0, .int .i64 0] (n * 2)) 40))
  have B4 := Lib.hid (B3.out.alloc B3.out.size (.cells (madeCells #[.int .i64 0, .int .i64 0] (n * 2)) 40))
  have UR4 := Lib.hid (UR.out.below ((Below.refl _ _).alloc (Nat.le_refl _) (.cells (madeCells #[.int .i64 0, .int .i64 0] (n * 2)) 40)))
  go_upto_region 7 with fail
  obtain ⟨g, hg⟩ : ∃ g, w3.heap.size = g := ⟨_, rfl⟩
  have HG := Lib.hid hg
  rw [hg] at Q1 g0 g1 ⊢
  generalize w3.alloc (.cells (madeCells #[.int .i64 0, .int .i64 0] (n * 2)) 40) = W4 at Q1 K4 B4 UR4 ⊢
  clear hg hmk K3 B3 PB
  have SRC : Hid (∀ wx, W4.grownBy wx (some g) → Rd wx qu us) := fun wx hgx => by
    rcases Nat.eq_zero_or_pos us.length with h0 | h0
    · rw [List.eq_nil_of_length_eq_zero h0]; exact Rd.nil _ _
    exact UR4.out.one hgx (fun b o e e2 => by
      subst e2
      obtain ⟨b', o', e', hc'⟩ := UR.out 0 h0
      rw [e] at e'
      injection e' with e'
      injection e' with e' _
      subst e'
      have := World.block_lt_of_cell? w3 _ hc'
      simp at this
      have := HG.out
      omega)
  go_wp2_with fail
  go_loopw [14, 15, 16, 17, 44] (fun _ _ _ _ v44 wr => ∃ i : Nat, v44 = .int .i64 i ∧ i ≤ n ∧ (∀ j, j < i → (sr j).2.2 = true) ∧ QsX wr g (sz i ++ List.replicate (n - i) ((0, 0) : Int × Int)) ∧ Blk3 wr w.heap.size 26 (.int .i64 n) (.int .i64 n) (.slice a L m) ∧ W4.grownBy wr (some g) ∧ Below w.heap.size w wr) (fun _ _ _ _ v44 _ => n - (intOf v44).toNat)
  case atStart => exact ⟨0, rfl, by omega, fun j hj => by omega, Q1.out, K4.out, World.grownBy.refl _ _, B4.out⟩
  case round =>
    clear Q1 K4 B4 UR4
    obtain ⟨i, rfl, hi, hk, hQ, hK, hG, hB⟩ := hrel
    have HK := Lib.hid hk
    have Q := Lib.hid hQ
    have K := Lib.hid hK
    have G := Lib.hid hG
    have B := Lib.hid hB
    clear hk hQ hK hG hB
    by_cases hlt : i < n
    · obtain ⟨b1, o1, rfl, hc1⟩ := SRC.out _ G.out i (by rw [LL.out]; exact hlt)
      have RFi := Lib.hid (RF.out (us.getD i 0) P bd)
      rw [RE.out] at RFi
      have SU := Lib.hid (ZS.out i)
      have NBi := Lib.hid (QB.out i hlt)
      have HK1 : Hid ((sr i).2.2 = true → ∀ j, j < i + 1 → (sr j).2.2 = true) := fun h j hj => by
        rcases Nat.lt_or_ge j i with h3 | h3
        · exact HK.out j h3
        · obtain rfl : j = i := by omega
          exact h
      generalize us.getD i 0 = u at hc1 RFi
      obtain ⟨mn, hmn⟩ : ∃ x, (sr i).1 = x := ⟨_, rfl⟩
      obtain ⟨md, hmd⟩ : ∃ x, (sr i).2.1 = x := ⟨_, rfl⟩
      obtain ⟨fk, hfk⟩ : ∃ x, (sr i).2.2 = x := ⟨_, rfl⟩
      rw [hmn, hmd] at SU RFi
      rw [hfk] at RFi NBi HK1
      clear hmn hmd hfk
      go_wp2_with fail
      refine (RFi.out _).mono ?_
      rintro e w5 ⟨rfl, hb5⟩
      have Q := Lib.hid ((Q.out.keep hb5 Q.out.lt).old (.cells #[.int .i64 mn, .int .i64 md] 40))
      have K := Lib.hid ((K.out.step hb5).old (.cells #[.int .i64 mn, .int .i64 md] 40))
      have G := Lib.hid ((G.out.trans (grown_of_below hb5 (some g))).trans (grown_of_below ((Below.refl _ _).alloc (Nat.le_refl _) (.cells #[.int .i64 mn, .int .i64 md] 40)) (some g)))
      have Bx := B.out.trans (hb5.mono B.out.size)
      have B := Lib.hid (Bx.alloc Bx.size (.cells #[.int .i64 mn, .int .i64 md] 40))
      have R5 : Hid (Blk2 (w5.alloc (.cells #[.int .i64 mn, .int .i64 md] 40)) w5.heap.size 40 (.int .i64 mn) (.int .i64 md)) := Blk2.at_ _ _ _ rfl
      clear hb5 Bx hc1
      go_upto_region 11 with fail
      obtain ⟨b9, hb9⟩ : ∃ b, w5.heap.size = b := ⟨_, rfl⟩
      rw [hb9] at R5 ⊢
      generalize w5.alloc (.cells #[.int .i64 mn, .int .i64 md] 40) = W5 at Q K G B R5 ⊢
      clear hb9
      cases fk with
      | false =>
        have V : Hid (RES = ([], false)) := NBi.out (by first | rfl | trivial)
        go_wp2_with fail
        rw [V.out]
        go_ret2
        exact ⟨_, _, rfl, B.out, .inr ⟨HKM.out, OwnR.nil _ _, .inr ⟨rfl, _, rfl⟩⟩⟩
      | true =>
        have HK2 : Hid (∀ j, j < i + 1 → (sr j).2.2 = true) := HK1.out (by first | rfl | trivial)
        have QL := UL.out i (by omega)
        obtain ⟨c0, c1⟩ := Q.out.qs.cells (q := i) (by rw [QL]; exact hlt)
        have f0 := Q.out.qs.free (i * 2)
        have f1 := Q.out.qs.free (i * 2 + 1)
        have HL := Lib.hid QL
        obtain ⟨r0, r1, -, -⟩ := R5.out.all
        clear QL HK1 NBi
        go_wp2_with fail
        go_roundw
        case rel =>
          refine ⟨i + 1, by go_num, by omega, HK2.out, ?_, (K.out.far (by show w.heap.size ≠ g; omega) _).far (by show w.heap.size ≠ g; omega) _, grown_set_one (a := ⟨g, i * 2 + 1, none⟩) (grown_set_one (a := ⟨g, i * 2, none⟩) G.out rfl _) rfl _, (B.out.setCell (by show w.heap.size ≤ g; omega) _).setCell (by show w.heap.size ≤ g; omega) _⟩
          have := Q.out.set (q := i) (by rw [HL.out]; exact hlt) (mn, md)
          rw [US.out i hlt, ← SU.out] at this
          exact this
        case measure => simp [intOf]; omega
    · obtain rfl : i = n := by omega
      have QE : QsX wr g (sz i) := by
        have := Q.out
        rw [Nat.sub_self, List.replicate_zero, List.append_nil] at this
        exact this
      have QE := Lib.hid QE
      have IRi := Lib.hid (IR.out (some ⟨g, 0, none⟩) i wr B.out QE.out.qs.rd)
      have NY : Hid (ir = true → RES = (sz i, true)) := fun h => QY.out HK.out h
      obtain ⟨z0, z1, z2, -, -, -⟩ := K.out.all
      clear Q IR QY hlt
      go_wp2_with fail
      refine IRi.out.mono ?_
      rintro e w6 ⟨rfl, hb6⟩
      have OE := (QE.out.keep hb6 QE.out.lt).own g0 (by rw [ZL.out]; omega)
      rw [ZL.out] at OE
      have OE := Lib.hid OE
      have B6 := Lib.hid (B.out.trans (hb6.mono B.out.size))
      clear hb6 z0 z1 z2
      cases ir with
      | false =>
        have V : Hid (RES = ([], false)) := QI.out (by first | rfl | trivial)
        go_wp2_with fail
        rw [V.out]
        go_ret2
        exact ⟨_, _, rfl, B6.out, .inr ⟨HKM.out, OwnR.nil _ _, .inr ⟨rfl, _, rfl⟩⟩⟩
      | true =>
        have V : Hid (RES = (sz i, true)) := NY.out (by first | rfl | trivial)
        go_wp2_with fail
        rw [V.out]
        go_ret2
        exact ⟨_, _, rfl, B6.out, .inr ⟨HKM.out, OE.out, .inl ⟨rfl, rfl⟩⟩⟩
end Go.Proofs.YtcapddcmnjeloaaGreatDoor
end

section
/-
  A range over an iterator that keeps what it knows in cells of its own, where the loop's body keeps blocks of its own, too: a set of blocks, laid since the loop began, that the iterator leaves alone. No function of the program is named.
-/
namespace Go.Proofs.YtcapddcmnjeloaaGreatDoor
open Go.RowKit
def AbY {β : Type} (B : Nat) (J : β → (Nat → Prop) → World → Prop) : Prop := ∀ s M W W' row, J s M W → W.grownBy W' row → (∀ r, row = some r → B ≤ r ∧ ¬ M r) → J s M W'
structure KpY (B : Nat) (M M' : Nat → Prop) (W W' : World) : Prop where
  size : W.heap.size ≤ W'.heap.size
  block : ∀ k, B ≤ k → k < W.heap.size → ¬ M k → W'.heap[k]? = W.heap[k]?
  own : ∀ k, M' k → (M k ∨ W.heap.size ≤ k) ∧ k < W'.heap.size
theorem KpY.at_ {B k : Nat} {M M' : Nat → Prop} {W W' : World} {o : Obj} (h : KpY B M M' W W') (hk : B ≤ k) (hm : ¬ M k) (e : W.heap[k]? = some o) : W'.heap[k]? = some o := (h.block k hk (Array.getElem?_eq_some_iff.mp e).1 hm).trans e
def SeqY {α : Type} (F : Fence) (n : Nat) (P : Program) (g : Nat) (encs : α → Array Value) (S Sp : List α → Prop) (Nx : List α → α → Prop) : Prop :=
  ∀ (l : Nat) (J Jx : List α → (Nat → Prop) → World → Prop) (W : World), AbY W.heap.size J → (∀ s M W1, J s M W1 → ∀ k, M k → k < W1.heap.size) →
    (∀ pre x M W1, J pre M W1 → Nx pre x → YieldAt F (n - 1) P l (encs x) W1 fun e W' => (e = .returned (.bool true) ∧ ∃ M', J (pre ++ [x]) M' W' ∧ KpY W.heap.size M M' W1 W') ∨ (e = .returned (.bool false) ∧ ∃ M', Jx (pre ++ [x]) M' W')) →
    J [] (fun _ => False) W → CallsIn F n P g #[.func (.yield l) #[] #[]] W fun e W' => (∃ v, e = .returned v) ∧ ((∃ xs M, S xs ∧ J xs M W') ∨ (∃ pre M, Sp pre ∧ Jx pre M W'))
def bodyY {α : Type} (B : Nat) (M : Nat → Prop) (I : List α → (Nat → Prop) → World → Prop) (Ix : Code → List α → (Nat → Prop) → World → Prop) (xs : List α) (W : World) : Exit → Act → World → Prop
  | .normal, _, W' => ∃ M', KpY B M M' W W' ∧ I xs M' W'
  | .ret, _, W' => ∃ M', KpY B M M' W W' ∧ Ix .ret xs M' W'
  | .exit id, _, W' => ∃ M', KpY B M M' W W' ∧ Ix (.exit id) xs M' W'
  | .goto t, _, W' => ∃ M', KpY B M M' W W' ∧ Ix (.goto t) xs M' W'
  | _, _, _ => False
theorem AbY.put {β : Type} {B l : Nat} {J : β → (Nat → Prop) → World → Prop} (h : AbY B J) {s : β} {M : Nat → Prop} {W : World} (hs : J s M W) (hl : B ≤ l) (hm : ¬ M l) (o : Obj) : J s M (W.putObj l o) :=
  h s M W _ (some l) hs (grownBy_putObj' W l o) (fun r e => by cases e; exact ⟨hl, hm⟩)
theorem AbY.old {β : Type} {B : Nat} {J : β → (Nat → Prop) → World → Prop} (h : AbY B J) {s : β} {M : Nat → Prop} {W : World} (hs : J s M W) (o : Obj) : J s M (W.alloc o) :=
  h s M W _ none hs (World.grownBy_alloc W o none) (fun r e => by cases e)
def recY (fn : Nat) (a : Act) (ps : Array Tmp) (assign body : Code) (D : Nat) (st : LoopState) (pe : Option Code) : Loop := { state := st, pending := pe, fn, tmps := a.tmps, params := ps, assign, body, defers := D }
structure betY {α : Type} (D : Nat) (R : Loop) (I : List α → (Nat → Prop) → World → Prop) (pre : List α) (M : Nat → Prop) (W : World) : Prop where
  inv : I pre M W
  rec_ : W.heap[D + 1]? = some (.loop R)
  defd : W.heap[D]? = some (.deferred (some []))
  far : ∀ k, M k → D + 2 ≤ k ∧ k < W.heap.size
theorem betY.ab {α : Type} {D : Nat} {R : Loop} {I : List α → (Nat → Prop) → World → Prop} (h : AbY D I) : AbY (D + 2) (betY D R I) := fun s M A B row hs hg hr =>
  ⟨h s M A B row hs.inv hg (fun r e => by have := hr r e; exact ⟨by omega, this.2⟩), (hg.block _ (Array.getElem?_eq_some_iff.mp hs.rec_).1 (fun e => by have := hr _ e.symm; omega)).trans hs.rec_, (hg.block _ (Array.getElem?_eq_some_iff.mp hs.defd).1 (fun e => by have := hr _ e.symm; omega)).trans hs.defd, fun k hk => ⟨(hs.far k hk).1, Nat.lt_of_lt_of_le (hs.far k hk).2 hg.size⟩⟩
theorem betY.put {α : Type} {D : Nat} {R R' : Loop} {I' : List α → (Nat → Prop) → World → Prop} {xs : List α} {M' : Nat → Prop} {W : World} (hI : AbY D I') (h1 : W.heap[D + 1]? = some (.loop R)) (h2 : W.heap[D]? = some (.deferred (some []))) (h3 : ∀ k, M' k → D + 2 ≤ k ∧ k < W.heap.size) (h' : I' xs M' W) : betY D R' I' xs M' (W.putObj (D + 1) (.loop R')) :=
  ⟨hI.put h' (by omega) (fun hm => by have := h3 _ hm; omega) _, World.putObj_heap_same (Array.getElem?_eq_some_iff.mp h1).1, (World.putObj_heap_other (by omega)).trans h2, fun k hk => by have := h3 k hk; exact ⟨this.1, by simp [World.putObj]; exact this.2⟩⟩
theorem wpIn_rangeY {F : Fence} {n : Nat} {P : Program} {α : Type} {g : Operand} {ps : Array Tmp} {assign body : Code} {Q : Exit → Act → World → Prop} {a : Act} {w : World}
    (hro : F.round = none) (h1 : 1 ≤ n) {gf : Nat} (hg : a.eval g = .func (.func gf) #[] #[]) (hFg : F.fn gf) (eg : ∀ args w, (callFunc gf args).run P w = .ok (.enter gf args) w)
    {encs : α → Array Value} {S Sp : List α → Prop} {Nx : List α → α → Prop} (hseq : SeqY F (n - 1) P gf encs S Sp Nx) (hps : ∀ x, (encs x).size = ps.size)
    (I : List α → (Nat → Prop) → World → Prop) (Ix : Code → List α → (Nat → Prop) → World → Prop) (hI : AbY w.heap.size I) (hIx : ∀ c, AbY w.heap.size (Ix c)) (h0 : I [] (fun _ => False) w) (a₁ : α → Act)
    (hassign : ∀ (l : Nat) (x : α) (W : World) (K : Act → World → Prop), K (a₁ x) W →
      assign.wpIn (F.inRound l) (n - 1 - 1) P (Exit.then K (fun _ _ _ => False)) { tmps := (ps.zip (encs x)).foldl (fun t (p, v) => t.setIfInBounds p v) a.tmps, defers := [] } W)
    (hbody : ∀ (l : Nat) (pre : List α) (x : α) (M : Nat → Prop) (W : World), I pre M W → (∀ k, M k → w.heap.size + 2 ≤ k ∧ k < W.heap.size) → Nx pre x → w.heap.size + 2 ≤ W.heap.size → body.wpIn (F.inRound l) (n - 1 - 1) P (bodyY w.heap.size M I Ix (pre ++ [x]) W) (a₁ x) W)
    (hdone : ∀ (xs : List α) (M : Nat → Prop) (W : World), S xs → I xs M W → (∀ k, M k → w.heap.size + 2 ≤ k ∧ k < W.heap.size) → W.heap[w.heap.size]? = some (.deferred (some [])) → Q .normal { a with defers := { target := .collected w.heap.size, args := #[] } :: a.defers } W)
    (hstop : ∀ (c : Code) (pre : List α) (M : Nat → Prop) (W : World), Sp pre → Ix c pre M W → (∀ k, M k → w.heap.size + 2 ≤ k ∧ k < W.heap.size) → W.heap[w.heap.size]? = some (.deferred (some [])) → c.wpIn F n P Q { a with defers := { target := .collected w.heap.size, args := #[] } :: a.defers } W) :
    (Code.rangeFunc g ps assign body).wpIn F n P Q a w := by
  refine wpIn_rangeFunc fun fn hfn => ?_
  rw [hro]
  generalize hD : w.heap.size = D at hI hIx hbody hdone hstop
  obtain ⟨R, hR⟩ : ∃ R : LoopState → Option Code → Loop, R = recY fn a ps assign body D := ⟨_, rfl⟩
  have sz : ((w.alloc (.deferred (some []))).alloc (.loop (R .ready none))).heap.size = D + 2 := by simp [hD]
  have st : betY D (R .ready none) I [] (fun _ => False) ((w.alloc (.deferred (some []))).alloc (.loop (R .ready none))) := by
    refine ⟨hI.old (hI.old h0 _) _, ?_, ?_, fun k hk => hk.elim⟩
    · have := World.alloc_heap_new (w.alloc (.deferred (some []))) (.loop (R .ready none))
      rwa [World.size_alloc, hD] at this
    · rw [← hD]
      exact (Below.heap_alloc _ _ _ (by simp)).trans (World.alloc_heap_new w _)
  refine ⟨D + 1, [{ target := .collected D, args := #[] }], (w.alloc (.deferred (some []))).alloc (.loop (R .ready none)), { target := .fn (.func gf) #[], args := #[.func (.yield (D + 1)) #[] #[]] }, (w.alloc (.deferred (some []))).alloc (.loop (R .ready none)), gf, #[.func (.yield (D + 1)) #[] #[]], (w.alloc (.deferred (some []))).alloc (.loop (R .ready none)), ?_, ?_, ?_, ?_, fun _ => h1, ?_⟩
  · rw [hR, ← hD]; exact run_enterLoop_outer _ _ _ _ _
  · simp only [resolve, hg]
    simp [go_sem]
  · intro f' hf'
    simp [Target.leads] at hf'
    subst hf'
    exact hFg
  · simp [invoke, go_sem, eg]
  · have ab2 : ∀ {I' : List α → (Nat → Prop) → World → Prop} {R' : Loop}, AbY D I' → AbY ((w.alloc (.deferred (some []))).alloc (.loop (R .ready none))).heap.size (betY D R' I') := fun h => by rw [sz]; exact betY.ab h
    refine (hseq (D + 1) (betY D (R .ready none) I) (fun pre M W => ∃ c, betY D (R .done (some c)) (Ix c) pre M W) _ (ab2 hI) (fun s M W1 h k hk => (h.far k hk).2) ?_ st).mono ?_
    · intro pre x M W hJ hlen
      have hy := run_yield (P := P) (args := encs x) hJ.rec_ (by rw [hR]; exact hps x)
      rw [hR] at hy
      refine ⟨fn, _, assign, body, hy, roundIn_of_wpIn hfn (hassign _ x W _ ⟨_, run_beginRound hJ.rec_ (by rw [hR]; rfl), ?_⟩)⟩
      have hB : betY D { R .ready none with state := .busy } I pre M (W.putObj (D + 1) (.loop { R .ready none with state := .busy })) := betY.put hI hJ.rec_ hJ.defd hJ.far hJ.inv
      have zW : (W.putObj (D + 1) (.loop { R .ready none with state := .busy })).heap.size = W.heap.size := by simp [World.putObj]
      refine wpIn_mono (hbody _ pre x M _ hB.inv hB.far hlen (by rw [zW]; have := (Array.getElem?_eq_some_iff.mp hJ.rec_).1; omega)) ?_
      have fin : ∀ (jump : Option Code) (I' : List α → (Nat → Prop) → World → Prop) (M' : Nat → Prop) (W3 : World), AbY D I' → KpY D M M' (W.putObj (D + 1) (.loop { R .ready none with state := .busy })) W3 → I' (pre ++ [x]) M' W3 →
          (Instr.endRound (D + 1) jump).run P W3 = .ok (.bool jump.isNone) (W3.putObj (D + 1) (.loop (R (if jump.isNone then .ready else .done) jump))) ∧ betY D (R (if jump.isNone then .ready else .done) jump) I' (pre ++ [x]) M' (W3.putObj (D + 1) (.loop (R (if jump.isNone then .ready else .done) jump))) ∧
          KpY (D + 2) M M' W (W3.putObj (D + 1) (.loop (R (if jump.isNone then .ready else .done) jump))) := fun jump I' M' W3 hab hk hi => by
        have r1 : W3.heap[D + 1]? = some (.loop { R .ready none with state := .busy }) := hk.at_ (by omega) (fun hm => by have := hB.far _ hm; omega) hB.rec_
        have r2 : W3.heap[D]? = some (.deferred (some [])) := hk.at_ (Nat.le_refl _) (fun hm => by have := hB.far _ hm; omega) hB.defd
        have r3 : ∀ k, M' k → D + 2 ≤ k ∧ k < W3.heap.size := fun k hm => by
          obtain ⟨h1, h2⟩ := hk.own k hm
          rcases h1 with h1 | h1
          · exact ⟨(hB.far k h1).1, h2⟩
          · have := (Array.getElem?_eq_some_iff.mp hB.rec_).1
            exact ⟨by omega, h2⟩
        have hr := run_endRound (P := P) jump r1
        rw [hR] at hr
        have z3 : (W3.putObj (D + 1) (.loop (R (if jump.isNone then .ready else .done) jump))).heap.size = W3.heap.size := by simp [World.putObj]
        refine ⟨by rw [hR]; exact hr, betY.put hab r1 r2 r3 hi, ⟨?_, fun k h1 h2 h3 => ?_, fun k hm => ?_⟩⟩
        · rw [z3, ← zW]; exact hk.size
        · exact (World.putObj_heap_other (by omega)).trans ((hk.block k (by omega) (by rw [zW]; exact h2) h3).trans (World.putObj_heap_other (by omega)))
        · rw [z3, ← zW]; exact hk.own k hm
      rintro e a3 W3 hp
      have jumped : ∀ c : Code, (∃ M', KpY D M M' (W.putObj (D + 1) (.loop { R .ready none with state := .busy })) W3 ∧ Ix c (pre ++ [x]) M' W3) → ∃ v W4, (Instr.endRound (D + 1) (some c)).run P W3 = .ok v W4 ∧ ((Ending.returned v = .returned (.bool true) ∧ ∃ M', betY D (R .ready none) I (pre ++ [x]) M' W4 ∧ KpY ((w.alloc (.deferred (some []))).alloc (.loop (R .ready none))).heap.size M M' W W4) ∨ (Ending.returned v = .returned (.bool false) ∧ ∃ M' c, betY D (R .done (some c)) (Ix c) (pre ++ [x]) M' W4)) := fun c ⟨M', hk, hi⟩ => by
        obtain ⟨e1, e2, -⟩ := fin (some c) (Ix c) M' W3 (hIx c) hk hi
        exact ⟨_, _, e1, .inr ⟨rfl, M', c, e2⟩⟩
      cases e with
      | normal =>
        obtain ⟨M', h1, h2⟩ := hp
        obtain ⟨e1, e2, e3⟩ := fin none I M' W3 hI h1 h2
        exact ⟨_, _, e1, .inl ⟨rfl, M', e2, by rw [sz]; exact e3⟩⟩
      | ret => exact jumped _ hp
      | exit id => exact jumped _ hp
      | goto t => exact jumped _ hp
      | panic ch => exact hp.elim
      | outgrown => exact hp.elim
    · rintro e W2 ⟨⟨v, rfl⟩, ⟨xs, M, hS, hJ⟩ | ⟨pre, M, hSp, c, hJ⟩⟩
      · have hr := run_endLoop (P := P) hJ.rec_ (by rw [hR]; simp [recY])
        rw [hR] at hr
        have hn : ¬ M (D + 1) := fun hm => by have := hJ.far _ hm; omega
        exact ⟨none, _, hr, hdone xs M _ hS (hI.put hJ.inv (by omega) hn _) (fun k hk => by have := hJ.far k hk; exact ⟨this.1, by simp [World.putObj]; exact this.2⟩) ((World.putObj_heap_other (by omega)).trans hJ.defd)⟩
      · have hr := run_endLoop (P := P) hJ.rec_ (by rw [hR]; simp [recY])
        rw [hR] at hr
        have hn : ¬ M (D + 1) := fun hm => by have := hJ.far _ hm; omega
        exact ⟨some c, _, hr, hstop c pre M _ hSp ((hIx c).put hJ.inv (by omega) hn _) (fun k hk => by have := hJ.far k hk; exact ⟨this.1, by simp [World.putObj]; exact this.2⟩) ((World.putObj_heap_other (by omega)).trans hJ.defd)⟩
end Go.Proofs.YtcapddcmnjeloaaGreatDoor
end

section
/-
  Chapter 8, in the program: the iterator over primes, for loops whose bodies keep blocks of their own.
-/
namespace Go.Proofs.YtcapddcmnjeloaaGreatDoor
set_option maxRecDepth 100000
open Go.RowKit Go.Shelf
attribute [local go_sem] Oper.semAt_some
structure ItSY (J : List PrmQ → (Nat → Prop) → World → Prop) (B m b : Nat) (q : Option Addr) (qc : Nat) (pre : List PrmQ) (M : Nat → Prop) (wr : World) : Prop where
  own : OwnQ B wr (.slice q (prmTo m).length qc) (prmTo m)
  box : Blk1 wr b 3 (.int .i64 m)
  ge : B ≤ b
  ne : (Value.slice q (prmTo m).length qc).ownBlock ≠ some b
  pre_ : prmV pre = prmTo m
  j : J pre M wr
  sz : B ≤ wr.heap.size
  far : ¬ M b ∧ ∀ k, (Value.slice q (prmTo m).length qc).ownBlock = some k → ¬ M k
theorem ItSY.kept {J : List PrmQ → (Nat → Prop) → World → Prop} {B m b : Nat} {q : Option Addr} {qc : Nat} {pre : List PrmQ} {M M' : Nat → Prop} {wr w' : World} (h : ItSY J B m b q qc pre M wr) (hk : KpY B M M' wr w') :
    OwnQ B w' (.slice q (prmTo m).length qc) (prmTo m) ∧ Blk1 w' b 3 (.int .i64 m) ∧ B ≤ w'.heap.size ∧ ¬ M' b ∧ ∀ k, (Value.slice q (prmTo m).length qc).ownBlock = some k → ¬ M' k :=
  ⟨h.own.move fun k e => hk.block k (h.own.le e) (h.own.lt e) (h.far.2 k e), hk.at_ h.ge h.far.1 h.box, Nat.le_trans h.sz hk.size, fun hm => (hk.own b hm).1.elim h.far.1 (fun h1 => by have := h.box.lt; omega), fun k e hm => (hk.own k hm).1.elim (h.far.2 k e) (fun h1 => by have := h.own.lt e; omega)⟩
theorem ItSY.next {J : List PrmQ → (Nat → Prop) → World → Prop} {B m : Nat} {v : Value} {q : Option Addr} {qc : Nat} {pre : List PrmQ} {M : Nat → Prop} {wr : World} (hab : AbY B J) (hbd : ∀ s M W1, J s M W1 → ∀ k, M k → k < W1.heap.size) (hv : v = .slice q (prmTo (m + 1)).length qc) (ho : OwnQ B wr v (prmTo (m + 1))) (hp : prmV pre = prmTo (m + 1)) (hj : J pre M wr) (hs : B ≤ wr.heap.size) (hf : ∀ k, v.ownBlock = some k → ¬ M k) (z : Int) (hz : z = ((m + 1 : Nat) : Int)) :
    ItSY J B (m + 1) wr.heap.size q qc pre M (wr.alloc (.cells #[.int .i64 z] 3)) := by
  subst hv hz
  exact ⟨ho.move fun k e => Below.heap_alloc wr _ k (ho.lt e), Blk1.at_ _ _ rfl, hs, fun e => by have := ho.lt e; omega, hp, hab.old hj _, by simp; omega, fun hm => by have := hbd _ _ _ hj _ hm; omega, hf⟩
set_option maxHeartbeats 4000000 in
theorem seqPrimesY (n : Nat) (hn : 1 ≤ n) : SeqY Fence.wide n Tryz.prog 103 (fun x : PrmQ => #[Value.int .i64 (x.1 : Int)]) (fun ys => prmV ys = prmTo 10001) (fun pre => ∃ (ini : List PrmQ) (x : PrmQ), pre = ini ++ [x] ∧ prmV ini = prmTo x.1) (fun pre x => prmV pre = prmTo x.1) := by
  intro l J Jx W hJ hBd hY h0
  have AJ := Lib.hid hJ
  have BJ := Lib.hid hBd
  have YY := Lib.hid hY
  clear hJ hBd hY
  have o0 : OwnQ W.heap.size (W.alloc (.cells #[] 3)) (.slice (some ⟨W.heap.size, 0, none⟩) 0 0) [] := OwnQ.none_ (Nat.le_refl _) ⟨Nat.zero_le _, [], rfl, heap_alloc_new W _⟩
  have S0 : Hid (ItSY J W.heap.size 2 (W.heap.size + 1) (some ⟨W.heap.size, 0, none⟩) 0 [] (fun _ => False) ((W.alloc (.cells #[] 3)).alloc (.cells #[.int .i64 2] 3))) := by
    refine ⟨?_, Blk1.at_ _ _ (by simp), by omega, by rw [prmTo_two]; simp [Value.ownBlock], by rw [prmTo_two]; rfl, AJ.out.old (AJ.out.old h0 _) _, by simp; omega, fun h => h, fun _ _ h => h⟩
    rw [prmTo_two]
    exact o0.move fun k e => Below.heap_alloc _ _ k (o0.lt e)
  clear o0
  refine callsIn_of_wp Tryz.func103 rfl trivial ?_ rfl
  simp only [Tryz.ntmps103, List.size_toArray, List.length_cons, List.length_nil, Nat.reduceAdd, Nat.reduceSub, Array.replicate_succ, Array.replicate_zero, List.push_toArray, List.append_toArray, List.nil_append, List.cons_append]
  gi_wp2
  gi_loopw [2, 3] (fun v2 v3 wr => ∃ (m b : Nat) (q : Option Addr) (qc : Nat) (pre : List PrmQ) (M : Nat → Prop), v2 = .slice q (prmTo m).length qc ∧ v3 = .pointer (some ⟨b, 0, none⟩) ∧ 2 ≤ m ∧ m ≤ 10001 ∧ ItSY J W.heap.size m b q qc pre M wr) (fun _ v3 wr => leftX wr v3)
  case atStart => exact ⟨2, _, _, _, [], fun _ => False, by rw [prmTo_two]; rfl, rfl, by omega, by omega, S0.out⟩
  case round =>
    clear S0 h0
    obtain ⟨m, b, q, qc, pre, M, rfl, rfl, hm1, hm2, hS⟩ := hrel
    have S := Lib.hid hS
    have hc := hS.box.cell0
    have hLX := Lib.hid (leftX_at hc)
    have hL := prmTo_length m
    clear hS
    by_cases hlt : m ≤ 10000
    · have hcon := Lib.hid (iContains m b qc (prmTo m).length q (prmTo m) wr (S.out.own.own (by omega)).rdq rfl hc (by omega) (fun k hk => prmTo_two_le hk) (by omega) (!prmB (m : Int)) (prm_test hm1 hlt))
      have NX : Hid (∀ (v : Value) (q' : Option Addr) (qc' : Nat) (pre' : List PrmQ) (M' : Nat → Prop) (w' : World), v = .slice q' (prmTo (m + 1)).length qc' → OwnQ W.heap.size w' v (prmTo (m + 1)) → prmV pre' = prmTo (m + 1) → J pre' M' w' → W.heap.size ≤ w'.heap.size → (∀ k, v.ownBlock = some k → ¬ M' k) → ∀ z : Int, z = ((m + 1 : Nat) : Int) → ItSY J W.heap.size (m + 1) w'.heap.size q' qc' pre' M' (w'.alloc (.cells #[.int .i64 z] 3))) := fun v q' qc' pre' M' w' hv ho hp hj hs hf z hz => ItSY.next AJ.out BJ.out hv ho hp hj hs hf z hz
      have LM : Hid (10001 - (m + 1) < 10001 - m) := by show _ < _; omega
      rcases Bool.eq_false_or_eq_true (prmB (m : Int)) with hp | hp
      · have PS : Hid (prmTo (m + 1) = prmTo m ++ [(m : Int)]) := by show _ = _; rw [prmTo_succ, if_pos hp]
        have PP : Hid (m < 10001 ∧ prmB (m : Int) = true) := ⟨by omega, hp⟩
        rw [hp] at hcon
        clear hp
        obtain ⟨fn, tmps, assign, body, hy, hR⟩ := YY.out pre ⟨m, PP.out⟩ M wr S.out.j S.out.pre_
        dsimp only at hy
        gi_wp2_with (refine ⟨trivial, ?_⟩; gi_at_call 104; refine (callsIn_wide.2 hcon.out).mono ?_; rintro e w' ⟨rfl, rfl⟩)
        refine hR.mono ?_
        rintro e W3 (⟨rfl, M3, hJ3, hk3⟩ | ⟨rfl, M3, hJx3⟩)
        · obtain ⟨o3, b3, s3, f3⟩ := S.out.kept hk3
          have F3 := Lib.hid f3
          have D3 := Lib.hid (fun k => BJ.out _ _ _ hJ3 k)
          have O3 := Lib.hid o3
          have N3 := Lib.hid S.out.ne
          have B3 := Lib.hid b3
          have J3 := Lib.hid hJ3
          have hc3 := b3.cell0
          have PV : Hid (prmV (pre ++ [⟨m, PP.out⟩]) = prmTo (m + 1)) := by
            show _ = _
            rw [prmV_snoc, S.out.pre_, PS.out]
          clear hk3 o3 b3 f3 hJ3 hR hy
          obtain ⟨fi, hfi, hz0, hz1, hz2⟩ := facts_int
          have HO : Hid ((W3.alloc (.cells #[.int .i64 m] 3)).ownsRow W.heap.size 3 1 (.slice q (prmTo m).length qc) (prmTo m).length ((prmTo m).map (Value.int .i64))) := by
            have h1 := O3.out.keep ((Below.refl _ _).alloc (Nat.le_refl _) (.cells #[.int .i64 m] 3))
            unfold OwnQ at h1
            exact h1
          gi_wp2_with (gi_at_builtin; refine wpListIn_append_own_at _ rfl _ _ 24 rfl W.heap.size 3 fi (.int .i64 0) 1 8 underlying_ints hfi hz0 hz1 hz2 rfl (by decide) _ _ _ rfl HO.out ⟨W3.heap.size, 0, none⟩ 1 1 [.int .i64 m] ?hx ?hl ?hnews ?h1 ?h63 ?hbytes ?hbase ?hnext)
          case hx => rfl
          case hl => rfl
          case hnews => exact cell_one_new _ _ _
          case h1 => intro v hv; simp at hv; subst hv; rfl
          case h63 => unfold maxLen; omega
          case hbytes => omega
          case hbase => simp; omega
          case hnext =>
            rintro v' w7 ho hg7 - hor7
            have O7 : OwnQ W.heap.size w7 v' (prmTo (m + 1)) := by
              unfold OwnQ
              rw [PS.out, List.map_append, List.length_append]
              exact ho
            have b7 : Blk1 w7 b 3 (.int .i64 m) := (hg7.block b (by have := B3.out.lt; simp; omega) (fun e => N3.out e.symm)).trans ((Below.heap_alloc _ _ b B3.out.lt).trans B3.out)
            have s7 := hg7.size
            simp at s7
            have j7 : J (pre ++ [⟨m, PP.out⟩]) M3 w7 := AJ.out _ _ _ _ _ (AJ.out.old J3.out _) hg7 (fun r e => ⟨O3.out.le e, F3.out.2 r e⟩)
            have f7 : ∀ k, v'.ownBlock = some k → ¬ M3 k := fun k hk hm => by
              have := D3.out k hm
              rcases hor7 with e | e
              · exact F3.out.2 k (e.symm.trans hk) hm
              · rw [e] at hk
                injection hk with hk
                omega
            obtain ⟨q', qc', hv'⟩ := O7.form
            have hc7 := b7.cell0
            have N7 := Lib.hid (NX.out v' q' qc' _ M3 w7 hv' O7 PV.out j7 (by omega) f7)
            subst hv'
            clear O7 ho hg7 b7 j7 f7 hor7
            have ez : (m : Int) + 1 = ((m + 1 : Nat) : Int) := by omega
            have N8 := Lib.hid (N7.out ((m : Int) + 1) ez)
            clear ez
            gi_wp2
            go_roundw
            case rel => exact ⟨m + 1, _, q', qc', _, _, rfl, rfl, by omega, by omega, N8.out⟩
            case measure =>
              rw [hLX.out, leftX_at N8.out.box.cell0]
              exact LM.out
        · gi_wp2
          refine bodyPost_ret (results_none rfl _ _ _) rfl ?_
          exact ⟨⟨_, rfl⟩, .inr ⟨_, _, ⟨pre, ⟨m, PP.out⟩, rfl, S.out.pre_⟩, hJx3⟩⟩
      · have PS : Hid (prmTo (m + 1) = prmTo m) := by show _ = _; rw [prmTo_succ, if_neg (by rw [hp]; decide)]
        rw [hp] at hcon
        clear hp
        gi_wp2_with (refine ⟨trivial, ?_⟩; gi_at_call 104; refine (callsIn_wide.2 hcon.out).mono ?_; rintro e w' ⟨rfl, rfl⟩)
        have ez : (m : Int) + 1 = ((m + 1 : Nat) : Int) := by omega
        have N8 := Lib.hid (NX.out (.slice q (prmTo m).length qc) q qc pre M wr (by rw [PS.out]) (by rw [PS.out]; exact S.out.own) (by rw [PS.out]; exact S.out.pre_) S.out.j S.out.sz S.out.far.2 ((m : Int) + 1) ez)
        clear ez
        go_roundw
        case rel => exact ⟨m + 1, _, q, qc, pre, M, by rw [PS.out], rfl, by omega, by omega, N8.out⟩
        case measure =>
          rw [hLX.out, leftX_at N8.out.box.cell0]
          exact LM.out
    · obtain rfl : m = 10001 := by omega
      gi_wp2
      go_end0
      exact ⟨⟨_, rfl⟩, .inl ⟨pre, M, S.out.pre_, S.out.j⟩⟩
end Go.Proofs.YtcapddcmnjeloaaGreatDoor
end

section
/- errors.As at a target that is a pointer to a pointer (after the kit's worked example ToyasAs). -/
namespace Go.Proofs.YtcapddcmnjeloaaGreatDoor
open Go.RowKit Go.Extern.Stop Go.Stop Go.Extern
theorem av_nil (t : Value) (w : World) :
    Calls Tryz.prog 86 #[.nilIface, t] w fun e w' => e = .returned (.bool false) ∧ w' = w := by
  go_enter Tryz.func86, Tryz.ntmps86
  go_wp2
  go_ret
  exact ⟨rfl, rfl⟩
theorem Tryz.av_valueOf27 (t : Addr) (w : World) : (ReflectliteValue.unpack (.iface 106 (.pointer (some t)))).run Tryz.prog w
    = .ok (.agg #[.pointer (some ⟨7, 106, none⟩), .pointer (some ⟨w.heap.size, 0, none⟩), .int .u64 150]) (w.alloc (.cells #[.pointer (some t)] 106)) := by kernel_rfl
theorem Tryz.av_type27 (a : Addr) (w : World) : (ReflectliteValue.methodAny (ReflectliteValue.valueError "reflectlite.Value.Type" 0) (fun t _ _ _ => ReflectliteType.toType t) #[.agg #[.pointer (some ⟨7, 106, none⟩), .pointer (some a), .int .u64 150]]).run Tryz.prog w
    = .ok (.iface 185 (.agg #[.pointer (some ⟨7, 106, none⟩)])) w := by kernel_rfl
theorem Tryz.av_methodKind (h : Value) (w : World) : (Go.method 364 185 (.agg #[h]) "Kind").run Tryz.prog w = .ok (228, h) w := by kernel_rfl
theorem Tryz.av_kind27 (w : World) : ((ReflectliteType.abiMethod fun t => (fun a : Nat => Value.int IntKind.u8 (a : Int)) <$> Rtype.kind t) #[.pointer (some ⟨7, 106, none⟩)]).run Tryz.prog w = .ok (.int .u8 22) w := by kernel_rfl
theorem Tryz.av_kind25 (w : World) : ((ReflectliteType.abiMethod fun t => (fun a : Nat => Value.int IntKind.u8 (a : Int)) <$> Rtype.kind t) #[.pointer (some ⟨7, 104, none⟩)]).run Tryz.prog w = .ok (.int .u8 25) w := by kernel_rfl
theorem rlmV (z : Sem Value) (f : TypeId → Addr → Nat → Nat → Sem Value) (v : Value) :
    ReflectliteValue.method z f #[v] = (do match ← ReflectliteValue.parts v with | none => z | some (t, a, fl) => f t a fl (fl % 32)) := rfl
theorem Tryz.av_parts27 (a : Addr) (w : World) : (ReflectliteValue.parts (.agg #[.pointer (some ⟨7, 106, none⟩), .pointer (some a), .int .u64 150])).run Tryz.prog w = .ok (some (106, a, 150)) w := by kernel_rfl
theorem Tryz.av_isNil27 (a p : Addr) (W : World) (ha : W.cell? a = some (.pointer (some p))) :
    (ReflectliteValue.method (ReflectliteValue.valueError "reflectlite.Value.IsNil" 0) ReflectliteValue.isNil #[.agg #[.pointer (some ⟨7, 106, none⟩), .pointer (some a), .int .u64 150]]).run Tryz.prog W = .ok (.bool false) W := by
  rw [rlmV]
  simp only [Sem.run_bind, Tryz.av_parts27, Result.andThen]
  simp [ReflectliteValue.isNil, loadVar, isAgg, underlying, Tryz.underlying106, ha, Result.andThen]
theorem Tryz.av_methodElem (h : Value) (w : World) : (Go.method 364 185 (.agg #[h]) "Elem").run Tryz.prog w = .ok (239, .agg #[h]) w := by kernel_rfl
theorem Tryz.av_methodImplements (h : Value) (w : World) : (Go.method 364 185 (.agg #[h]) "Implements").run Tryz.prog w = .ok (240, .agg #[h]) w := by kernel_rfl
theorem Tryz.av_methodAssignableTo (h : Value) (w : World) : (Go.method 364 185 (.agg #[h]) "AssignableTo").run Tryz.prog w = .ok (237, .agg #[h]) w := by kernel_rfl
theorem Tryz.av_elem27 (w : World) : (ReflectliteType.method ReflectliteType.elem #[.agg #[.pointer (some ⟨7, 106, none⟩)]]).run Tryz.prog w = .ok (.iface 185 (.agg #[.pointer (some ⟨7, 104, none⟩)])) w := by kernel_rfl
theorem Tryz.av_implements25 (w : World) : (ReflectliteType.relation "Implements" ReflectliteType.implements_ #[.agg #[.pointer (some ⟨7, 104, none⟩)], .iface 185 (.agg #[.pointer (some ⟨7, 93, none⟩)])]).run Tryz.prog w = .ok (.bool true) w := by kernel_rfl
theorem Tryz.av_typeOf25 (v : Value) (w : World) : (ReflectliteType.typeOf #[.iface 104 v]).run Tryz.prog w = .ok (.iface 185 (.agg #[.pointer (some ⟨7, 104, none⟩)])) w := by kernel_rfl
theorem Tryz.av_assignable25 (w : World) : (ReflectliteType.relation "AssignableTo" ReflectliteType.assignableTo #[.agg #[.pointer (some ⟨7, 104, none⟩)], .iface 185 (.agg #[.pointer (some ⟨7, 104, none⟩)])]).run Tryz.prog w = .ok (.bool true) w := by kernel_rfl
theorem Tryz.av_valueOf25 (x0 : Value) (w : World) : (ReflectliteValue.unpack (.iface 104 (.agg #[x0]))).run Tryz.prog w
    = .ok (.agg #[.pointer (some ⟨7, 104, none⟩), .pointer (some ⟨w.heap.size, 0, none⟩), .int .u64 153]) (w.alloc (.cells #[x0] 104)) := by kernel_rfl
theorem Tryz.av_elemOf27 (w : World) : (Rtype.elem? 106).run Tryz.prog w = .ok (some 104) w := by kernel_rfl
theorem Tryz.av_mk25 (p : Addr) (w : World) : (ReflectliteValue.mk 104 p ReflectliteValue.flagAddr).run Tryz.prog w = .ok (.agg #[.pointer (some ⟨7, 104, none⟩), .pointer (some p), .int .u64 409]) w := by kernel_rfl
theorem Tryz.av_elemV27 (a p : Addr) (W : World) (ha : W.cell? a = some (.pointer (some p))) :
    (ReflectliteValue.method (ReflectliteValue.valueError "reflectlite.Value.Elem" 0) ReflectliteValue.elem #[.agg #[.pointer (some ⟨7, 106, none⟩), .pointer (some a), .int .u64 150]]).run Tryz.prog W
      = .ok (.agg #[.pointer (some ⟨7, 104, none⟩), .pointer (some p), .int .u64 409]) W := by
  rw [rlmV]
  simp only [Sem.run_bind, Tryz.av_parts27, Result.andThen]
  simp [ReflectliteValue.elem, loadVar, isAgg, underlying, Tryz.underlying106, ha, Result.andThen, Tryz.av_elemOf27, Tryz.av_mk25]
theorem rlsV (v x : Value) : ReflectliteValue.set #[v, x] = (do
    let (some (dst, a, fl), some (src, b, _)) := (← ReflectliteValue.parts v, ← ReflectliteValue.parts x)
      | unsupported (.noEntry "extern/(internal/reflectlite.Value).Set.zeroValue")
    if fl / ReflectliteValue.flagAddr % 2 == 0 then unsupported (.noEntry "extern/(internal/reflectlite.Value).Set.unaddressable")
    let val ← loadVar src b
    if ← Rtype.directlyAssignable dst src then storeVar dst a val
    else if ← Rtype.implements dst src then
      if (← Rtype.kind src) == 20 then
        match val with
        | .nilIface => unsupported (.noEntry "extern/reflectlite: a nil value of one interface type handed on as a value of another")
        | _ => storeVar dst a val
      else storeVar dst a (.iface src val)
    else panicString ("reflectlite.Set: value of type " ++ (← Rtype.spelt src) ++ " is not assignable to type " ++ (← Rtype.spelt dst))
    pure (.tuple #[])) := rfl
theorem Tryz.av_parts25a (a : Addr) (w : World) : (ReflectliteValue.parts (.agg #[.pointer (some ⟨7, 104, none⟩), .pointer (some a), .int .u64 409])).run Tryz.prog w = .ok (some (104, a, 409)) w := by kernel_rfl
theorem Tryz.av_parts25 (a : Addr) (w : World) : (ReflectliteValue.parts (.agg #[.pointer (some ⟨7, 104, none⟩), .pointer (some a), .int .u64 153])).run Tryz.prog w = .ok (some (104, a, 153)) w := by kernel_rfl
theorem Tryz.av_direct25 (w : World) : (Rtype.directlyAssignable 104 104).run Tryz.prog w = .ok true w := by kernel_rfl
theorem Tryz.av_set25 (ta b : Addr) (x0 o0 : Value) (W : World) (ho0 : x0.oneCell' = true) (hb0 : W.cell? b = some x0) (ht0 : W.cell? ta = some o0) (hf0 : W.frozen? ta = false) :
    (ReflectliteValue.set #[.agg #[.pointer (some ⟨7, 104, none⟩), .pointer (some ta), .int .u64 409], .agg #[.pointer (some ⟨7, 104, none⟩), .pointer (some b), .int .u64 153]]).run Tryz.prog W
      = .ok (.tuple #[]) (W.setCell ta x0) := by
  rw [rlsV]
  simp only [Sem.run_bind, Tryz.av_parts25a, Tryz.av_parts25, Result.andThen]
  simp [ReflectliteValue.flagAddr, loadVar, isAgg, underlying, Tryz.underlying104, loadCells, loadCellsFrom, hb0, Result.andThen, Tryz.av_direct25, storeVar, Value.cells, storeCells, Addr.add]
  rw [run_store Tryz.prog W _ _ _ ho0]
  simp [ht0, hf0]
set_option maxHeartbeats 4000000 in
theorem av_hit (t : Addr) (x0 o0 : Value) (w : World) (ho0 : x0.oneCell' = true) (hg : w.cell? ⟨0, 0, none⟩ = some (.iface 185 (.agg #[.pointer (some ⟨7, 93, none⟩)]))) (ht0 : w.cell? t = some o0) (hf0 : w.frozen? t = false) :
    Calls Tryz.prog 86 #[.iface 104 (.agg #[x0]), .iface 106 (.pointer (some t))] w fun ev w' => ev = .returned (.bool true) ∧ w' = (((((w.alloc (.cells #[.pointer (some t)] 106)).alloc (.cells #[.pointer (some ⟨7, 106, none⟩), .pointer (some ⟨w.heap.size, 0, none⟩), .int .u64 150] 155)).alloc (.cells #[.pointer (some ⟨7, 106, none⟩), .pointer (some ⟨w.heap.size, 0, none⟩), .int .u64 150] 155)).alloc (.cells #[x0] 104)).setCell t x0) := by
  have h6 := @run_callFunc_extern Tryz.prog 138 _ (fun args => ReflectliteValue.unpack (args.getD 0 (.tuple #[]))) Tryz.func138 (by kernel_rfl) (by kernel_rfl) (by kernel_rfl) (by kernel_rfl)
  have h7 := @run_callFunc_extern Tryz.prog 139 _ (ReflectliteValue.methodAny (ReflectliteValue.valueError "reflectlite.Value.Type" 0) (fun t _ _ _ => ReflectliteType.toType t)) Tryz.func139 (by kernel_rfl) (by kernel_rfl) (by kernel_rfl) (by kernel_rfl)
  have h8 := @run_callFunc_extern Tryz.prog 140 _ (ReflectliteValue.method (ReflectliteValue.valueError "reflectlite.Value.IsNil" 0) ReflectliteValue.isNil) Tryz.func140 (by kernel_rfl) (by kernel_rfl) (by kernel_rfl) (by kernel_rfl)
  have h27 := @run_callFunc_extern Tryz.prog 228 _ (ReflectliteType.abiMethod fun t => do pure (.int .u8 (← Rtype.kind t))) Tryz.func228 (by kernel_rfl) (by kernel_rfl) (by kernel_rfl) (by kernel_rfl)
  have h37 := @run_callFunc_extern Tryz.prog 239 _ (ReflectliteType.method ReflectliteType.elem) Tryz.func239 (by kernel_rfl) (by kernel_rfl) (by kernel_rfl) (by kernel_rfl)
  have h38 := @run_callFunc_extern Tryz.prog 240 _ (ReflectliteType.relation "Implements" ReflectliteType.implements_) Tryz.func240 (by kernel_rfl) (by kernel_rfl) (by kernel_rfl) (by kernel_rfl)
  have h10 := @run_callFunc_extern Tryz.prog 168 _ ReflectliteType.typeOf Tryz.func168 (by kernel_rfl) (by kernel_rfl) (by kernel_rfl) (by kernel_rfl)
  have h35 := @run_callFunc_extern Tryz.prog 237 _ (ReflectliteType.relation "AssignableTo" ReflectliteType.assignableTo) Tryz.func237 (by kernel_rfl) (by kernel_rfl) (by kernel_rfl) (by kernel_rfl)
  have h11 := @run_callFunc_extern Tryz.prog 169 _ (ReflectliteValue.method (ReflectliteValue.valueError "reflectlite.Value.Elem" 0) ReflectliteValue.elem) Tryz.func169 (by kernel_rfl) (by kernel_rfl) (by kernel_rfl) (by kernel_rfl)
  have h12 := @run_callFunc_extern Tryz.prog 170 _ ReflectliteValue.set Tryz.func170 (by kernel_rfl) (by kernel_rfl) (by kernel_rfl) (by kernel_rfl)
  have tO := Tryz.av_typeOf25
  have mA := Tryz.av_methodAssignableTo
  have a25 := Tryz.av_assignable25
  have v25 := Tryz.av_valueOf25
  have f6 := Tryz.av_valueOf27
  have f7 := Tryz.av_type27
  have mK := Tryz.av_methodKind
  have mE := Tryz.av_methodElem
  have mI := Tryz.av_methodImplements
  have k27 := Tryz.av_kind27
  have k25 := Tryz.av_kind25
  have e27 := Tryz.av_elem27
  have i25 := Tryz.av_implements25
  have n8 := Tryz.av_isNil27 ⟨w.heap.size, 0, none⟩ t ((w.alloc (.cells #[.pointer (some t)] 106)).alloc (.cells #[.pointer (some ⟨7, 106, none⟩), .pointer (some ⟨w.heap.size, 0, none⟩), .int .u64 150] 155)) (by simp)
  have hlt : 0 < w.heap.size := by
    rcases Nat.eq_zero_or_pos w.heap.size with h0 | h
    · simp [World.cell?, h0] at hg
    · exact h
  have hg2 : ((w.alloc (.cells #[.pointer (some t)] 106)).alloc (.cells #[.pointer (some ⟨7, 106, none⟩), .pointer (some ⟨w.heap.size, 0, none⟩), .int .u64 150] 155)).cell? ⟨0, 0, none⟩ = some (.iface 185 (.agg #[.pointer (some ⟨7, 93, none⟩)])) := by
    rw [World.cell?_alloc_lt _ _ ⟨0, 0, none⟩ (by simp), World.cell?_alloc_lt _ _ ⟨0, 0, none⟩ hlt]; exact hg
  have htl : t.block < w.heap.size := by
    rcases Nat.lt_or_ge t.block w.heap.size with h | h
    · exact h
    · simp [World.cell?, Array.getElem?_eq_none h] at ht0
  have el := Tryz.av_elemV27 ⟨w.heap.size, 0, none⟩ t (((w.alloc (.cells #[.pointer (some t)] 106)).alloc (.cells #[.pointer (some ⟨7, 106, none⟩), .pointer (some ⟨w.heap.size, 0, none⟩), .int .u64 150] 155)).alloc (.cells #[.pointer (some ⟨7, 106, none⟩), .pointer (some ⟨w.heap.size, 0, none⟩), .int .u64 150] 155)) (by rw [World.cell?_alloc_lt _ _ ⟨w.heap.size, 0, none⟩ (by simp; omega)]; simp)
  have st := Tryz.av_set25 t ⟨w.heap.size + 1 + 1 + 1, 0, none⟩ x0 o0 ((((w.alloc (.cells #[.pointer (some t)] 106)).alloc (.cells #[.pointer (some ⟨7, 106, none⟩), .pointer (some ⟨w.heap.size, 0, none⟩), .int .u64 150] 155)).alloc (.cells #[.pointer (some ⟨7, 106, none⟩), .pointer (some ⟨w.heap.size, 0, none⟩), .int .u64 150] 155)).alloc (.cells #[x0] 104)) ho0
    (by show World.cell? _ ⟨w.heap.size + 1 + 1 + 1, 0, none⟩ = _; rw [World.cell?_alloc_at _ _ _ _ (by simp)]; rfl)
    (by rw [World.cell?_alloc_lt _ _ t (by simp; omega), World.cell?_alloc_lt _ _ t (by simp; omega), World.cell?_alloc_lt _ _ t (by simp; omega), World.cell?_alloc_lt _ _ t htl]; exact ht0)
    (by rw [World.frozen?_alloc_old _ _ t (by simp; omega), World.frozen?_alloc_old _ _ t (by simp; omega), World.frozen?_alloc_old _ _ t (by simp; omega), World.frozen?_alloc_old _ _ t (Nat.ne_of_lt htl)]; exact hf0)
  go_enter Tryz.func86, Tryz.ntmps86
  go_wp2
  refine wp_loop_rounds 1 ?_
  rw [rounds_succ]
  go_wp2
  go_ret
  exact ⟨rfl, rfl⟩
end Go.Proofs.YtcapddcmnjeloaaGreatDoor
end
