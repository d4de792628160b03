/-
  Texts of this seat, joined: ZAImgI · ZAImgX · ZATextMath · ZAFmtS · ZAFmtM · ZAFmtMI · ZAFmtMJ · ZAFmtR · ZAFmtRI · ZAParseI · ZAParseS · ZASplitMath · ZASplitS · ZAParRMath · ZAParR · ZAParM · ZATextRead · ZAReadMath
-/
import Derived.Lib.AppendStr
import Derived.StillTailTactics
import Derived.IntWalk
import Derived.Deep.RegionHeld3
import Derived.Laws.IdiomStrings
import Derived.Test.YtcapddcmnjeloaaGreatDoorRows
import Derived.WalkKit
import Derived.Laws.Strings2
import Derived.Maps.AppendAt
import Derived.OwnWalk
import Derived.BigQuiet
import Derived.Deep.QuietTactic
import Derived.KernelRfl
import Derived.Lib.SlTrimSet
import Derived.Test.YtcapddcmnjeloaaGreatDoorPk1
import Derived.Test.YtcapddcmnjeloaaGreatDoorPk2
import Derived.Test.YtcapddcmnjeloaaGreatDoorPk4
import Derived.Test.YtcapddcmnjeloaaGreatDoorPk5
import Derived.Test.YtcapddcmnjeloaaGreatDoorPk6
import Derived.Test.YtcapddcmnjeloaaGreatDoorPk7
import Derived.Test.YtcapddcmnjeloaaGreatDoorPk9

section
/-
  Chapter 9, in the program: DeterminantByImages.
-/
namespace Go.Proofs.YtcapddcmnjeloaaGreatDoor
set_option maxRecDepth 100000
open Go.RowKit Go.Shelf
attribute [local go_sem] Oper.semAt_some
def imI (w : World) (n N : Nat) (a : Option Addr) (m B : Nat) (b D : Int) (pre : List PrmQ) (M : Nat → Prop) (W : World) : Prop := ∃ (k : Nat) (v6 v7 : Value), k ≤ 5 ∧ (k = 5 → 121330189 ≤ 2 * b) ∧ big9 (prmV pre) = mo9 k ∧ ImJ w n N a m B b D k v6 v7 M W
def imE (w : World) (n N : Nat) (a : Option Addr) (m B : Nat) (b D : Int) (c : Code) (_ : List PrmQ) (M : Nat → Prop) (W : World) : Prop := c = .exit 0 ∧ ∃ (k : Nat) (v6 v7 : Value), k ≤ 5 ∧ (k = 5 → 121330189 ≤ 2 * b) ∧ 2 * b < pq9 k ∧ ImJ w n N a m B b D k v6 v7 M W
theorem imI.ab (w : World) (n N : Nat) (a : Option Addr) (m B : Nat) (b D : Int) : AbY (B + 6) (imI w n N a m B b D) := fun s M W W' row h hg hr => by
  obtain ⟨k, v6, v7, h1, h2, h3, h4⟩ := h
  exact ⟨k, v6, v7, h1, h2, h3, h4.ab hg hr⟩
theorem imE.ab (w : World) (n N : Nat) (a : Option Addr) (m B : Nat) (b D : Int) (c : Code) : AbY (B + 6) (imE w n N a m B b D c) := fun s M W W' row h hg hr => by
  obtain ⟨h0, k, v6, v7, h1, h2, h3, h4⟩ := h
  exact ⟨h0, k, v6, v7, h1, h2, h3, h4.ab hg hr⟩
theorem row_cap {w : World} {B n c : Nat} {q : Option Addr} {xs : List Value} (h : w.ownsRow B 3 1 (.slice q n c) n xs) : n ≤ c := by
  obtain ⟨-, ⟨h1, h2⟩ | ⟨g, cap, cur, e, -, -, h3, -⟩⟩ := h
  · omega
  · injection e with e1 e2 e3
    omega
theorem news1 {w : World} {g : Nat} {z : Value} (h : w.cell? ⟨g, 0, none⟩ = some z) : ∀ j u, [z][j]? = some u → w.cell? ((⟨g, 0, none⟩ : Addr).add j) = some u := by
  intro j u hu
  rcases j with _ | j
  · have e : (⟨g, 0, none⟩ : Addr).add 0 = ⟨g, 0, none⟩ := rfl
    rw [e, h]
    simpa using hu
  · simp at hu
set_option maxHeartbeats 4000000 in
theorem iImg_in (n : Nat) (a : Option Addr) (m N : Nat) (xs : List Int) (w : World) (h : Rd w a xs) (hx : xs.length = N) (hs : isSq n n xs = true) (b : Int) (hb : bndX n n xs = (b, true)) (hb0 : 0 ≤ b) (hb1 : b ≤ 400000000) :
    Calls Tryz.prog 22 #[.agg #[.int .i64 n, .int .i64 n, .slice a N m]] w (Gives (.tuple #[.int .i64 (imX n n xs).1, .bool (imX n n xs).2]) w) := by
  obtain ⟨n', hn', -, h6, hl, hnum⟩ := isSq_says hs
  obtain rfl : n = n' := by omega
  have hle : n * n ≤ 6 * 6 := Nat.mul_le_mul h6 h6
  have BD : Hid (∀ w', Below w.heap.size w w' → Calls Tryz.prog 60 #[.agg #[.int .i64 n, .int .i64 n, .slice a N m]] w' (Gives (.tuple #[.int .i64 b, .bool true]) w')) := fun w' hb' => by
    have := iBnd n n a m xs w' (h.below hb') (by omega)
    rw [hb, hx] at this
    exact this
  obtain ⟨D, hD⟩ : ∃ D, det n (mxL n xs) = D := ⟨_, rfl⟩
  have DT : Hid (∀ (p : Int) (w' : World), prmB p = true → Below w.heap.size w w' → Calls Tryz.prog 62 #[.agg #[.int .i64 n, .int .i64 n, .slice a N m], .int .i64 p] w' (Gives (.tuple #[.int .i64 (D % p), .bool true]) w')) := fun p w' hp hb' => by
    have := iDetM n n p a m xs w' (h.below hb') (by omega)
    rw [dtM_sq hs hp, hD, hx] at this
    exact this
  have YS : Hid (∀ k, k ≤ 4 → 2 * b < pp9 k → ∃ x, chiX (re9 D k) (mo9 k) = (x, pp9 k, true) ∧ symX x (pp9 k) = imX n n xs ∧ (imX n n xs).2 = true ∧ (0 ≤ x ∧ x ≤ 121330189)) := fun k hk hb' => by
    have := im9_yes hk hb hb'
    rw [hD] at this
    exact this
  have NO : Hid (121330189 ≤ 2 * b → imX n n xs = (0, false)) := fun hb' => im9_no hb hb'
  have B0 : Hid (Below w.heap.size w (w.alloc (.cells #[.int .i64 n, .int .i64 n, .slice a N m] 26))) := (Below.refl _ _).alloc (Nat.le_refl _) _
  have K0 : Hid (Blk3 (w.alloc (.cells #[.int .i64 n, .int .i64 n, .slice a N m] 26)) w.heap.size 26 (.int .i64 n) (.int .i64 n) (.slice a N m)) := Blk3.at_ _ _ _ _ rfl
  generalize imX n n xs = RES at YS NO ⊢
  clear h hx hs hb hl hnum hD hn'
  refine (callsIn_wide (n := 4)).1 ?_
  refine callsIn_of_wp_marks Tryz.func22 rfl trivial ?_ rfl
  simp only [Tryz.ntmps22, List.size_toArray, List.length_cons, List.length_nil, Nat.reduceAdd, Nat.reduceSub, Array.replicate_succ, Array.replicate_zero, List.push_toArray, List.append_toArray, List.nil_append, List.cons_append]
  gi_wp2_with (refine ⟨trivial, ?_⟩; gi_at_call 60; refine (callsIn_wide.2 (BD.out _ B0.out)).mono ?_; rintro e w1 ⟨rfl, hbw⟩)
  refine ⟨trivial, ?_⟩
  refine (callsIn_wide.2 (iPrimes _)).mono ?_
  rintro e w' ⟨rfl, rfl⟩
  gi_wp2
  have s1 := B0.out.size
  have J0 : Hid (imI w n N a m w1.heap.size b D [] (fun _ => False) ((((((w1.alloc (.cells #[.int .i64 b] 3)).alloc (.cells #[] 3)).alloc (.cells #[] 3)).alloc (.cells #[.slice (some ⟨w1.heap.size + 1, 0, none⟩) 0 0] 24)).alloc (.cells #[.slice (some ⟨w1.heap.size + 1 + 1, 0, none⟩) 0 0] 24)).alloc (.cells #[.int .i64 1] 3))) := by
    have l1 := (K0.out.step hbw).lt
    have T := TwoL.start (w1.alloc (.cells #[.int .i64 b] 3)) (B := w1.heap.size + 1) (by simp)
    rw [show (w1.alloc (.cells #[.int .i64 b] 3)).heap.size = w1.heap.size + 1 by simp] at T
    refine ⟨0, _, _, by omega, fun h => by omega, rfl, ((((((Blk1.at_ _ _ rfl).old _).old _).old _).old _).old _), ((((Blk1.at_ _ _ (by simp)).old _).old _)), (((Blk1.at_ _ _ (by simp)).old _)), (Blk1.at_ _ _ (by simp)), (((((((K0.out.step hbw).old _).old _).old _).old _).old _).old _), ?_, (((T.alloc _).alloc _).alloc _), fun g hg => ?_, fun g hg => ?_, l1⟩
    · have b1 := B0.out.trans (hbw.mono (by simp))
      have z := b1.size
      exact (((((b1.alloc z _).alloc (by simp; omega) _).alloc (by simp; omega) _).alloc (by simp; omega) _).alloc (by simp; omega) _).alloc (by simp; omega) _
    · injection hg with hg; exact .inl (by simp at hg; omega)
    · injection hg with hg; exact .inl (by simp at hg; omega)
  have SZ : ((((((w1.alloc (.cells #[.int .i64 b] 3)).alloc (.cells #[] 3)).alloc (.cells #[] 3)).alloc (.cells #[.slice (some ⟨w1.heap.size + 1, 0, none⟩) 0 0] 24)).alloc (.cells #[.slice (some ⟨w1.heap.size + 1 + 1, 0, none⟩) 0 0] 24)).alloc (.cells #[.int .i64 1] 3)).heap.size = w1.heap.size + 6 := by simp
  generalize ((((((w1.alloc (.cells #[.int .i64 b] 3)).alloc (.cells #[] 3)).alloc (.cells #[] 3)).alloc (.cells #[.slice (some ⟨w1.heap.size + 1, 0, none⟩) 0 0] 24)).alloc (.cells #[.slice (some ⟨w1.heap.size + 1 + 1, 0, none⟩) 0 0] 24)).alloc (.cells #[.int .i64 1] 3)) = W0 at J0 SZ ⊢
  refine wpIn_rangeY (F := Fence.wide) rfl (by omega) (gf := 103) rfl trivial (enters_of Tryz.func103 (by kernel_rfl) rfl) (seqPrimesY 3 (by omega)) (fun _ => rfl) (imI w n N a m w1.heap.size b D) (imE w n N a m w1.heap.size b D) (by rw [SZ]; exact imI.ab w n N a m w1.heap.size b D) (fun c => by rw [SZ]; exact imE.ab w n N a m w1.heap.size b D c) J0.out
    (fun x => { tmps := #[.agg #[.int .i64 n, .int .i64 n, .slice a N m], .pointer (some ⟨w.heap.size, 0, none⟩), .int .i64 0, .bool false, .pointer (some ⟨w1.heap.size, 0, none⟩), .bool true, .pointer (some ⟨w1.heap.size + 1 + 1 + 1, 0, none⟩), .pointer (some ⟨w1.heap.size + 1 + 1 + 1 + 1, 0, none⟩), .pointer (some ⟨w1.heap.size + 1 + 1 + 1 + 1 + 1, 0, none⟩), .int .i64 (x.1 : Int), undef, undef, undef, .tuple #[.int .i64 b, .bool true], .agg #[.int .i64 n, .int .i64 n, .slice a N m], .tuple #[.int .i64 b, .bool true], .int .i64 b, .bool true, .bool true, .bool false, .slice (some ⟨w1.heap.size + 1, 0, none⟩) 0 0, .slice (some ⟨w1.heap.size + 1 + 1, 0, none⟩) 0 0, .func (.func 103) #[] #[], .int .i64 (x.1 : Int), undef, undef, undef, undef, undef, undef, undef, undef, undef, undef, undef, undef, undef, undef, undef, undef, undef, undef, undef, undef, undef, undef, undef, undef, undef, undef, undef, undef, undef, undef, undef, undef, undef, undef, undef, undef, undef], defers := [] }) ?assign ?body ?done ?stop
  case assign =>
    intro l x W K hK
    gi_wp2
    exact hK
  case body =>
    rintro l pre x M W ⟨k, v6, v7, hk, h5, hbig, hJ⟩ hM hNx hSz
    rw [SZ] at hM hSz ⊢
    have J := Lib.hid hJ
    have HM := Lib.hid hM
    have NX := Lib.hid hNx
    have BG := Lib.hid hbig
    have H5 := Lib.hid h5
    obtain ⟨P, hP⟩ : ∃ P, pq9 k = P := ⟨_, rfl⟩
    have HP := Lib.hid hP
    have pn := pq9_num k
    rw [hP] at pn
    obtain ⟨pn1, pn2⟩ := pn
    have y0 := hJ.bnd.cell0
    have y1 := hJ.pr.cell0
    rw [hP] at y1
    have d1 : IntKind.i64.wrap (2 * b) = 2 * b := IntWalk.i64_in _ (by omega)
    clear hJ hM hNx hbig h5 hP J0
    by_cases hgo : 2 * b < P
    · gi_wp2
      exact ⟨M, ⟨Nat.le_refl _, fun _ _ _ _ => rfl, fun g hg => ⟨.inl hg, (HM.out g hg).2⟩⟩, rfl, k, v6, v7, hk, H5.out, by rw [HP.out]; exact hgo, J.out⟩
    · obtain ⟨d, hd⟩ : ∃ d : Nat, x.1 = d := ⟨_, rfl⟩
      have DD := Lib.hid hd
      have x1 := (prmB_says x.2.2).1.1
      have x2 := x.2.1
      rw [hd] at x1 x2
      have PR : Hid (prmB (d : Int) = true) := by show _ = _; rw [← hd]; exact x.2.2
      rw [hd]
      clear hd
      by_cases hs : d < 101
      · gi_wp2
        exact ⟨M, ⟨Nat.le_refl _, fun _ _ _ _ => rfl, fun g hg => ⟨.inl hg, (HM.out g hg).2⟩⟩, k, v6, v7, hk, H5.out, by rw [prmV_snoc, big9_snoc_small (by rw [DD.out]; omega)]; exact BG.out, J.out⟩
      · have k4 : k ≤ 4 := pq9_big (b := b) (by omega) (by rw [HP.out]; omega)
        have ED := Lib.hid (nx9 k4 PR.out (by omega) (by rw [← BG.out, NX.out, DD.out]))
        have y2 := J.out.mat.cell0
        have y3 := J.out.mat.cell1
        have y4 := J.out.mat.cell2
        obtain ⟨z, hz⟩ : ∃ z, D % (d : Int) = z := ⟨_, rfl⟩
        have DT2 := Lib.hid (DT.out (d : Int))
        rw [hz] at DT2
        have RS : Hid (re9 D (k + 1) = re9 D k ++ [z]) := by show _ = _; rw [re9_snoc, ← ED.out, hz]
        have MS : Hid (mo9 (k + 1) = mo9 k ++ [(d : Int)]) := by show _ = _; rw [mo9_snoc, ← ED.out]
        have n0 : decide ((d : Int) < 101) = false := by simp; omega
        clear hz
        gi_wp2_with (refine ⟨trivial, ?_⟩; gi_at_call 62; refine (callsIn_wide.2 (DT2.out _ PR.out J.out.bel)).mono ?_; rintro e w2 ⟨rfl, hb2⟩)
        have S2 := Lib.hid (J.out)
        have zz := hb2.size
        have c6 : Hid (Blk1 w2 (w1.heap.size + 1 + 1 + 1) 24 v6) := J.out.im.keep hb2 J.out.im.lt
        have c7 : Hid (Blk1 w2 (w1.heap.size + 1 + 1 + 1 + 1) 24 v7) := J.out.mo.keep hb2 J.out.mo.lt
        have t2 := J.out.two.keep hb2
        have T2 := Lib.hid t2
        have FAR : Hid (∀ q, v6.ownBlock = some q ∨ v7.ownBlock = some q → q < w2.heap.size ∧ q ≠ w1.heap.size + 1 + 1 + 1 ∧ q ≠ w1.heap.size + 1 + 1 + 1 + 1) := fun q hq => by
          have hl : q < w2.heap.size := hq.elim (fun h => (t2.r1.lt q h).2) (fun h => (t2.r2.lt q h).2)
          have hm : q < w1.heap.size + 3 ∨ M q := hq.elim (J.out.o6 q) (J.out.o7 q)
          refine ⟨hl, ?_⟩
          rcases hm with h | h
          · omega
          · have := HM.out q h
            omega
        have R0 : Hid (Rg10 (w1.heap.size + 1) (w1.heap.size + 1 + 1 + 1) (w1.heap.size + 1 + 1 + 1 + 1) v6 v7 w2 v6 v7 (re9 D k) (mo9 k) w2.drew) := Rg10.start t2 (fun g hg => (FAR.out g hg).2) ⟨c6.out.lt, c7.out.lt⟩
        have HB2 := Lib.hid hb2
        obtain ⟨fi, hfi, hz0, hz1, hz2⟩ := facts_int
        clear hb2 t2 y0 y1 y2 y3 y4
        refine wpIn_region_roundT (S := fun w' => w'.cell? ⟨w1.heap.size + 1 + 1 + 1, 0, none⟩ = some v6 ∧ w'.cell? ⟨w1.heap.size + 1 + 1 + 1 + 1, 0, none⟩ = some v7) (T := fun j => j == 8 || j == 9) (fun a' w' => ∃ u6 u7 t38 t42 : Value, a' = { tmps := #[.agg #[.int .i64 n, .int .i64 n, .slice a N m], .pointer (some ⟨w.heap.size, 0, none⟩), .int .i64 0, .bool false, .pointer (some ⟨w1.heap.size, 0, none⟩), .bool true, .pointer (some ⟨w1.heap.size + 1 + 1 + 1, 0, none⟩), .pointer (some ⟨w1.heap.size + 1 + 1 + 1 + 1, 0, none⟩), .pointer (some ⟨w1.heap.size + 1 + 1 + 1 + 1 + 1, 0, none⟩), .int .i64 (d : Int), .int .i64 z, .bool true, undef, .tuple #[.int .i64 b, .bool true], .agg #[.int .i64 n, .int .i64 n, .slice a N m], .tuple #[.int .i64 b, .bool true], .int .i64 b, .bool true, .bool true, .bool false, .slice (some ⟨w1.heap.size + 1, 0, none⟩) 0 0, .slice (some ⟨w1.heap.size + 1 + 1, 0, none⟩) 0 0, .func (.func 103) #[] #[], .int .i64 (d : Int), .int .i64 P, .int .i64 b, .int .i64 (2 * b), .bool false, .int .i64 (d : Int), .bool false, .tuple #[.int .i64 z, .bool true], .agg #[.int .i64 n, .int .i64 n, .slice a N m], .int .i64 (d : Int), .tuple #[.int .i64 z, .bool true], .int .i64 z, .bool true, v6, .int .i64 z, t38, u6, v7, .int .i64 (d : Int), t42, u7, undef, undef, undef, undef, undef, undef, undef, undef, undef, undef, undef, undef, undef, undef, undef, undef, undef], defers := [] } ∧ Rg10 (w1.heap.size + 1) (w1.heap.size + 1 + 1 + 1) (w1.heap.size + 1 + 1 + 1 + 1) v6 v7 w2 u6 u7 (re9 D k ++ [z]) (mo9 k ++ [(d : Int)]) w' ∧ Blk1 w' (w1.heap.size + 1 + 1 + 1) 24 u6 ∧ Blk1 w' (w1.heap.size + 1 + 1 + 1 + 1) 24 u7) (by kernel_rfl) (by kernel_rfl) ?_ ?_
        · have hH : w2.drew.cell? ⟨w1.heap.size + 1 + 1 + 1, 0, none⟩ = some v6 ∧ w2.drew.cell? ⟨w1.heap.size + 1 + 1 + 1 + 1, 0, none⟩ = some v7 := ⟨c6.out.cell0, c7.out.cell0⟩
          have A0 : Hid (Blk1 w2.drew (w1.heap.size + 1 + 1 + 1) 24 v6) := c6.out.drew
          have B0 : Hid (Blk1 w2.drew (w1.heap.size + 1 + 1 + 1 + 1) 24 v7) := c7.out.drew
          obtain ⟨W3, hW3⟩ : ∃ W3, w2.drew = W3 := ⟨_, rfl⟩
          rw [hW3] at hH A0 B0 R0 ⊢
          clear hW3
          refine wpAnyT_take (i := 0) (v := ?_) (by simp only [List.getElem?_toArray, List.getElem?_cons_zero]; rfl) (by kernel_rfl) (by kernel_rfl) (by kernel_rfl) (by kernel_rfl) (two_only 8 9 (by kernel_rfl) (by kernel_rfl)) (by rintro c a w ⟨h, -⟩; cases h) (Or.inl ⟨by rfl, ?_⟩) hH ?_
          rotate_left
          · (intro wS hS; (try dsimp only at hS); obtain ⟨q1, q2⟩ := hS; go_simp; try rfl)
          try simp only [Act.put, List.setIfInBounds_toArray, List.set_cons_zero, List.set_cons_succ]
          refine wpAnyT_take (i := 1) (v := ?_) (by simp only [List.getElem?_toArray, List.getElem?_cons_succ, List.getElem?_cons_zero]; rfl) (by kernel_rfl) (by kernel_rfl) (by kernel_rfl) (by kernel_rfl) (two_only 8 9 (by kernel_rfl) (by kernel_rfl)) (by rintro c a w ⟨h, -⟩; cases h) (Or.inl ⟨by rfl, ?_⟩) hH ?_
          rotate_left
          · (intro wS hS; clear hS; go_simp; try rfl)
          try simp only [Act.put, List.setIfInBounds_toArray, List.set_cons_zero, List.set_cons_succ]
          refine wpAnyT_take (i := 4) (v := ?_) (by simp only [List.getElem?_toArray, List.getElem?_cons_succ, List.getElem?_cons_zero]; rfl) (by kernel_rfl) (by kernel_rfl) (by kernel_rfl) (by kernel_rfl) (two_only 8 9 (by kernel_rfl) (by kernel_rfl)) (by rintro c a w ⟨h, -⟩; cases h) (Or.inl ⟨by rfl, ?_⟩) hH ?_
          rotate_left
          · (intro wS hS; (try dsimp only at hS); obtain ⟨q1, q2⟩ := hS; go_simp; try rfl)
          try simp only [Act.put, List.setIfInBounds_toArray, List.set_cons_zero, List.set_cons_succ]
          refine wpAnyT_take (i := 5) (v := ?_) (by simp only [List.getElem?_toArray, List.getElem?_cons_succ, List.getElem?_cons_zero]; rfl) (by kernel_rfl) (by kernel_rfl) (by kernel_rfl) (by kernel_rfl) (two_only 8 9 (by kernel_rfl) (by kernel_rfl)) (by rintro c a w ⟨h, -⟩; cases h) (Or.inl ⟨by rfl, ?_⟩) hH ?_
          rotate_left
          · (intro wS hS; clear hS; go_simp; try rfl)
          try simp only [Act.put, List.setIfInBounds_toArray, List.set_cons_zero, List.set_cons_succ]
          refine wpAnyT_ready (rs := [2, 6]) (by kernel_rfl) (by simp) ?_
          refine AllReadyT.cons (by simp only [List.getElem?_toArray, List.getElem?_cons_succ, List.getElem?_cons_zero]; rfl) (fun K hK => ?_) (AllReadyT.cons (by simp only [List.getElem?_toArray, List.getElem?_cons_succ, List.getElem?_cons_zero]; rfl) (fun K hK => ?_) (AllReadyT.nil))
          ·
            go_simp
            try dsimp only
            have R1 := Lib.hid (R0.out.alloc (.cells #[.int .i64 z] 3))
            have A1 := Lib.hid (A0.out.old (.cells #[.int .i64 z] 3))
            have B1 := Lib.hid (B0.out.old (.cells #[.int .i64 z] 3))
            have N21 : Hid (Blk1 (W3.alloc (.cells #[.int .i64 z] 3)) W3.heap.size 3 (.int .i64 z)) := Blk1.at_ _ _ rfl
            have l1 := R0.out.size
            refine hK.out _ _ (fun _ => ⟨A1.out.cell0, B1.out.cell0⟩) ?_
            have hH := (⟨A1.out.cell0, B1.out.cell0⟩ : _ ∧ _)
            clear hK K
            obtain ⟨g1, hg1⟩ : ∃ g, W3.heap.size = g := ⟨_, rfl⟩
            obtain ⟨W1, hw1⟩ : ∃ W, W3.alloc (.cells #[.int .i64 z] 3) = W := ⟨_, rfl⟩
            rw [hg1] at N21 l1 ⊢
            rw [hw1] at R1 A1 B1 N21 ⊢
            clear hg1 hw1
            try simp only [Act.put, List.setIfInBounds_toArray, List.set_cons_zero, List.set_cons_succ]
            refine wpAnyT_ready (rs := [3, 6]) (by kernel_rfl) (by simp) ?_
            refine AllReadyT.cons (by simp only [List.getElem?_toArray, List.getElem?_cons_succ, List.getElem?_cons_zero]; rfl) (fun K hK => ?_) (AllReadyT.cons (by simp only [List.getElem?_toArray, List.getElem?_cons_succ, List.getElem?_cons_zero]; rfl) (fun K hK => ?_) (AllReadyT.nil))
            ·
              have hx2 : W1.ownsRow (w1.heap.size + 1) 3 1 v6 k ((re9 D k).map (Value.int .i64)) := by
                have := R1.out.two.r1
                rw [re9_length] at this
                exact this
              have z2 := R1.out.size
              obtain ⟨u2, W2, hr2, ho2, hg2, -, hor2⟩ := run_append_own_at (P := Tryz.prog) W1 (w1.heap.size + 1) 24 24 3 fi (.int .i64 0) 1 8 underlying_ints hfi hz0 hz1 hz2 rfl (by decide) v6 k _ hx2 ⟨g1, 0, none⟩ 1 1 [.int .i64 z] rfl (news1 N21.out.cell0) (by intro v hv; simp at hv; subst hv; rfl) (by unfold maxLen; omega) (by omega) (by omega)
              refine step_append rfl _ _ 24 rfl _ _ rfl rfl _ _ hr2 ?_
              have R2 := Lib.hid (R1.out.app6 (x := z) (by rw [re9_length]; exact ho2) hg2 hor2)
              have far2 : ∀ q, (v6).ownBlock = some q → q < w2.heap.size ∧ q ≠ w1.heap.size + 1 + 1 + 1 ∧ q ≠ w1.heap.size + 1 + 1 + 1 + 1 := fun q hq => FAR.out q (.inl hq)
              have A2 : Hid (Blk1 W2 _ 24 v6) := (hg2.block _ A1.out.lt (fun e => (far2 _ e.symm).2.1 rfl)).trans A1.out
              have B2 : Hid (Blk1 W2 _ 24 v7) := (hg2.block _ B1.out.lt (fun e => (far2 _ e.symm).2.2 rfl)).trans B1.out
              try dsimp only
              refine hK.out _ _ (fun _ => ⟨A2.out.cell0, B2.out.cell0⟩) ?_
              have hH := (⟨A2.out.cell0, B2.out.cell0⟩ : _ ∧ _)
              obtain ⟨q2, e2, rfl⟩ := rowL_form ho2
              clear hK K hx2 hr2 ho2 hg2 hor2 far2
              try simp only [Act.put, List.setIfInBounds_toArray, List.set_cons_zero, List.set_cons_succ]
              refine wpAnyT_ready (rs := [6]) (by kernel_rfl) (by simp) ?_
              refine AllReadyT.cons (by simp only [List.getElem?_toArray, List.getElem?_cons_succ, List.getElem?_cons_zero]; rfl) (fun K hK => ?_) (AllReadyT.nil)
              go_simp
              try dsimp only
              have R3 := Lib.hid (R2.out.alloc (.cells #[.int .i64 (d : Int)] 3))
              have A3 := Lib.hid (A2.out.old (.cells #[.int .i64 (d : Int)] 3))
              have B3 := Lib.hid (B2.out.old (.cells #[.int .i64 (d : Int)] 3))
              have N63 : Hid (Blk1 (W2.alloc (.cells #[.int .i64 (d : Int)] 3)) W2.heap.size 3 (.int .i64 (d : Int))) := Blk1.at_ _ _ rfl
              have l3 := R2.out.size
              refine hK.out _ _ (fun _ => ⟨A3.out.cell0, B3.out.cell0⟩) ?_
              have hH := (⟨A3.out.cell0, B3.out.cell0⟩ : _ ∧ _)
              clear hK K
              obtain ⟨g3, hg3⟩ : ∃ g, W2.heap.size = g := ⟨_, rfl⟩
              obtain ⟨W3, hw3⟩ : ∃ W, W2.alloc (.cells #[.int .i64 (d : Int)] 3) = W := ⟨_, rfl⟩
              rw [hg3] at N63 l3 ⊢
              rw [hw3] at R3 A3 B3 N63 ⊢
              clear hg3 hw3
              try simp only [Act.put, List.setIfInBounds_toArray, List.set_cons_zero, List.set_cons_succ]
              refine wpAnyT_ready (rs := [7]) (by kernel_rfl) (by simp) ?_
              refine AllReadyT.cons (by simp only [List.getElem?_toArray, List.getElem?_cons_succ, List.getElem?_cons_zero]; rfl) (fun K hK => ?_) (AllReadyT.nil)
              have hx4 : W3.ownsRow (w1.heap.size + 1) 3 1 v7 k ((mo9 k).map (Value.int .i64)) := by
                have := R3.out.two.r2
                rw [mo9_length] at this
                exact this
              have z4 := R3.out.size
              obtain ⟨u4, W4, hr4, ho4, hg4, -, hor4⟩ := run_append_own_at (P := Tryz.prog) W3 (w1.heap.size + 1) 24 24 3 fi (.int .i64 0) 1 8 underlying_ints hfi hz0 hz1 hz2 rfl (by decide) v7 k _ hx4 ⟨g3, 0, none⟩ 1 1 [.int .i64 (d : Int)] rfl (news1 N63.out.cell0) (by intro v hv; simp at hv; subst hv; rfl) (by unfold maxLen; omega) (by omega) (by omega)
              refine step_append rfl _ _ 24 rfl _ _ rfl rfl _ _ hr4 ?_
              have R4 := Lib.hid (R3.out.app7 (x := (d : Int)) (by rw [mo9_length]; exact ho4) hg4 hor4)
              have far4 : ∀ q, (v7).ownBlock = some q → q < w2.heap.size ∧ q ≠ w1.heap.size + 1 + 1 + 1 ∧ q ≠ w1.heap.size + 1 + 1 + 1 + 1 := fun q hq => FAR.out q (.inr hq)
              have A4 : Hid (Blk1 W4 _ 24 v6) := (hg4.block _ A3.out.lt (fun e => (far4 _ e.symm).2.1 rfl)).trans A3.out
              have B4 : Hid (Blk1 W4 _ 24 v7) := (hg4.block _ B3.out.lt (fun e => (far4 _ e.symm).2.2 rfl)).trans B3.out
              try dsimp only
              refine hK.out _ _ (fun _ => ⟨A4.out.cell0, B4.out.cell0⟩) ?_
              have hH := (⟨A4.out.cell0, B4.out.cell0⟩ : _ ∧ _)
              obtain ⟨q4, e4, rfl⟩ := rowL_form ho4
              clear hK K hx4 hr4 ho4 hg4 hor4 far4
              try simp only [Act.put, List.setIfInBounds_toArray, List.set_cons_zero, List.set_cons_succ]
              refine wpAnyT_ready (rs := [8]) (by kernel_rfl) (by simp) ?_
              refine AllReadyT.cons (by simp only [List.getElem?_toArray, List.getElem?_cons_succ, List.getElem?_cons_zero]; rfl) (fun K hK => ?_) (AllReadyT.nil)
              have y5a := A4.out.cell0
              have y5b := A4.out.free 0
              go_simp
              try dsimp only
              have R5 := Lib.hid (R4.out.box (c := w1.heap.size + 1 + 1 + 1) (.inl rfl) (.slice q2 (k + 1) e2))
              have A5 := Lib.hid (A4.out.set0 (.slice q2 (k + 1) e2))
              have B5 := Lib.hid (B4.out.far (a := ⟨w1.heap.size + 1 + 1 + 1, 0, none⟩) (by show _ ≠ _; simp) (.slice q2 (k + 1) e2))
              clear y5a y5b
              refine hK.out _ _ (fun h => absurd h (by decide)) ?_
              clear hK K
              try simp only [Act.put, List.setIfInBounds_toArray, List.set_cons_zero, List.set_cons_succ]
              refine wpAnyT_ready (rs := [9]) (by kernel_rfl) (by simp) ?_
              refine AllReadyT.cons (by simp only [List.getElem?_toArray, List.getElem?_cons_succ, List.getElem?_cons_zero]; rfl) (fun K hK => ?_) (AllReadyT.nil)
              have y6a := B5.out.cell0
              have y6b := B5.out.free 0
              go_simp
              try dsimp only
              have R6 := Lib.hid (R5.out.box (c := w1.heap.size + 1 + 1 + 1 + 1) (.inr rfl) (.slice q4 (k + 1) e4))
              have B6 := Lib.hid (B5.out.set0 (.slice q4 (k + 1) e4))
              have A6 := Lib.hid (A5.out.far (a := ⟨w1.heap.size + 1 + 1 + 1 + 1, 0, none⟩) (by show _ ≠ _; simp) (.slice q4 (k + 1) e4))
              clear y6a y6b
              refine hK.out _ _ (fun h => absurd h (by decide)) ?_
              clear hK K
              try simp only [Act.put, List.setIfInBounds_toArray, List.set_cons_zero, List.set_cons_succ]
              refine wpAnyT_done (by kernel_rfl) ?_ _
              exact ⟨rfl, _, _, _, _, rfl, R6.out, A6.out, B6.out⟩
            ·
              go_simp
              try dsimp only
              have N27 := Lib.hid (N21.out.old (.cells #[.int .i64 (d : Int)] 3))
              have R7 := Lib.hid (R1.out.alloc (.cells #[.int .i64 (d : Int)] 3))
              have A7 := Lib.hid (A1.out.old (.cells #[.int .i64 (d : Int)] 3))
              have B7 := Lib.hid (B1.out.old (.cells #[.int .i64 (d : Int)] 3))
              have N67 : Hid (Blk1 (W1.alloc (.cells #[.int .i64 (d : Int)] 3)) W1.heap.size 3 (.int .i64 (d : Int))) := Blk1.at_ _ _ rfl
              have l7 := R1.out.size
              refine hK.out _ _ (fun _ => ⟨A7.out.cell0, B7.out.cell0⟩) ?_
              have hH := (⟨A7.out.cell0, B7.out.cell0⟩ : _ ∧ _)
              clear hK K
              obtain ⟨g7, hg7⟩ : ∃ g, W1.heap.size = g := ⟨_, rfl⟩
              obtain ⟨W7, hw7⟩ : ∃ W, W1.alloc (.cells #[.int .i64 (d : Int)] 3) = W := ⟨_, rfl⟩
              rw [hg7] at N67 l7 ⊢
              rw [hw7] at R7 A7 B7 N67 N27 ⊢
              clear hg7 hw7
              try simp only [Act.put, List.setIfInBounds_toArray, List.set_cons_zero, List.set_cons_succ]
              refine wpAnyT_ready (rs := [3]) (by kernel_rfl) (by simp) ?_
              refine AllReadyT.cons (by simp only [List.getElem?_toArray, List.getElem?_cons_succ, List.getElem?_cons_zero]; rfl) (fun K hK => ?_) (AllReadyT.nil)
              have hx8 : W7.ownsRow (w1.heap.size + 1) 3 1 v6 k ((re9 D k).map (Value.int .i64)) := by
                have := R7.out.two.r1
                rw [re9_length] at this
                exact this
              have z8 := R7.out.size
              obtain ⟨u8, W8, hr8, ho8, hg8, -, hor8⟩ := run_append_own_at (P := Tryz.prog) W7 (w1.heap.size + 1) 24 24 3 fi (.int .i64 0) 1 8 underlying_ints hfi hz0 hz1 hz2 rfl (by decide) v6 k _ hx8 ⟨g1, 0, none⟩ 1 1 [.int .i64 z] rfl (news1 N27.out.cell0) (by intro v hv; simp at hv; subst hv; rfl) (by unfold maxLen; omega) (by omega) (by omega)
              refine step_append rfl _ _ 24 rfl _ _ rfl rfl _ _ hr8 ?_
              have R8 := Lib.hid (R7.out.app6 (x := z) (by rw [re9_length]; exact ho8) hg8 hor8)
              have far8 : ∀ q, (v6).ownBlock = some q → q < w2.heap.size ∧ q ≠ w1.heap.size + 1 + 1 + 1 ∧ q ≠ w1.heap.size + 1 + 1 + 1 + 1 := fun q hq => FAR.out q (.inl hq)
              have A8 : Hid (Blk1 W8 _ 24 v6) := (hg8.block _ A7.out.lt (fun e => (far8 _ e.symm).2.1 rfl)).trans A7.out
              have B8 : Hid (Blk1 W8 _ 24 v7) := (hg8.block _ B7.out.lt (fun e => (far8 _ e.symm).2.2 rfl)).trans B7.out
              have N68 : Hid (Blk1 W8 g7 3 (.int .i64 (d : Int))) := (hg8.block _ N67.out.lt (fun e => by have := far8 _ e.symm; have := l7; omega)).trans N67.out
              try dsimp only
              refine hK.out _ _ (fun _ => ⟨A8.out.cell0, B8.out.cell0⟩) ?_
              have hH := (⟨A8.out.cell0, B8.out.cell0⟩ : _ ∧ _)
              obtain ⟨q8, e8, rfl⟩ := rowL_form ho8
              clear hK K hx8 hr8 ho8 hg8 hor8 far8
              try simp only [Act.put, List.setIfInBounds_toArray, List.set_cons_zero, List.set_cons_succ]
              refine wpAnyT_ready (rs := [7]) (by kernel_rfl) (by simp) ?_
              refine AllReadyT.cons (by simp only [List.getElem?_toArray, List.getElem?_cons_succ, List.getElem?_cons_zero]; rfl) (fun K hK => ?_) (AllReadyT.nil)
              have hx9 : W8.ownsRow (w1.heap.size + 1) 3 1 v7 k ((mo9 k).map (Value.int .i64)) := by
                have := R8.out.two.r2
                rw [mo9_length] at this
                exact this
              have z9 := R8.out.size
              obtain ⟨u9, W9, hr9, ho9, hg9, -, hor9⟩ := run_append_own_at (P := Tryz.prog) W8 (w1.heap.size + 1) 24 24 3 fi (.int .i64 0) 1 8 underlying_ints hfi hz0 hz1 hz2 rfl (by decide) v7 k _ hx9 ⟨g7, 0, none⟩ 1 1 [.int .i64 (d : Int)] rfl (news1 N68.out.cell0) (by intro v hv; simp at hv; subst hv; rfl) (by unfold maxLen; omega) (by omega) (by omega)
              refine step_append rfl _ _ 24 rfl _ _ rfl rfl _ _ hr9 ?_
              have R9 := Lib.hid (R8.out.app7 (x := (d : Int)) (by rw [mo9_length]; exact ho9) hg9 hor9)
              have far9 : ∀ q, (v7).ownBlock = some q → q < w2.heap.size ∧ q ≠ w1.heap.size + 1 + 1 + 1 ∧ q ≠ w1.heap.size + 1 + 1 + 1 + 1 := fun q hq => FAR.out q (.inr hq)
              have A9 : Hid (Blk1 W9 _ 24 v6) := (hg9.block _ A8.out.lt (fun e => (far9 _ e.symm).2.1 rfl)).trans A8.out
              have B9 : Hid (Blk1 W9 _ 24 v7) := (hg9.block _ B8.out.lt (fun e => (far9 _ e.symm).2.2 rfl)).trans B8.out
              try dsimp only
              refine hK.out _ _ (fun _ => ⟨A9.out.cell0, B9.out.cell0⟩) ?_
              have hH := (⟨A9.out.cell0, B9.out.cell0⟩ : _ ∧ _)
              obtain ⟨q9, e9, rfl⟩ := rowL_form ho9
              clear hK K hx9 hr9 ho9 hg9 hor9 far9
              try simp only [Act.put, List.setIfInBounds_toArray, List.set_cons_zero, List.set_cons_succ]
              refine wpAnyT_ready (rs := [8]) (by kernel_rfl) (by simp) ?_
              refine AllReadyT.cons (by simp only [List.getElem?_toArray, List.getElem?_cons_succ, List.getElem?_cons_zero]; rfl) (fun K hK => ?_) (AllReadyT.nil)
              have y10a := A9.out.cell0
              have y10b := A9.out.free 0
              go_simp
              try dsimp only
              have R10 := Lib.hid (R9.out.box (c := w1.heap.size + 1 + 1 + 1) (.inl rfl) (.slice q8 (k + 1) e8))
              have A10 := Lib.hid (A9.out.set0 (.slice q8 (k + 1) e8))
              have B10 := Lib.hid (B9.out.far (a := ⟨w1.heap.size + 1 + 1 + 1, 0, none⟩) (by show _ ≠ _; simp) (.slice q8 (k + 1) e8))
              clear y10a y10b
              refine hK.out _ _ (fun h => absurd h (by decide)) ?_
              clear hK K
              try simp only [Act.put, List.setIfInBounds_toArray, List.set_cons_zero, List.set_cons_succ]
              refine wpAnyT_ready (rs := [9]) (by kernel_rfl) (by simp) ?_
              refine AllReadyT.cons (by simp only [List.getElem?_toArray, List.getElem?_cons_succ, List.getElem?_cons_zero]; rfl) (fun K hK => ?_) (AllReadyT.nil)
              have y11a := B10.out.cell0
              have y11b := B10.out.free 0
              go_simp
              try dsimp only
              have R11 := Lib.hid (R10.out.box (c := w1.heap.size + 1 + 1 + 1 + 1) (.inr rfl) (.slice q9 (k + 1) e9))
              have B11 := Lib.hid (B10.out.set0 (.slice q9 (k + 1) e9))
              have A11 := Lib.hid (A10.out.far (a := ⟨w1.heap.size + 1 + 1 + 1 + 1, 0, none⟩) (by show _ ≠ _; simp) (.slice q9 (k + 1) e9))
              clear y11a y11b
              refine hK.out _ _ (fun h => absurd h (by decide)) ?_
              clear hK K
              try simp only [Act.put, List.setIfInBounds_toArray, List.set_cons_zero, List.set_cons_succ]
              refine wpAnyT_done (by kernel_rfl) ?_ _
              exact ⟨rfl, _, _, _, _, rfl, R11.out, A11.out, B11.out⟩
          ·
            go_simp
            try dsimp only
            have R12 := Lib.hid (R0.out.alloc (.cells #[.int .i64 (d : Int)] 3))
            have A12 := Lib.hid (A0.out.old (.cells #[.int .i64 (d : Int)] 3))
            have B12 := Lib.hid (B0.out.old (.cells #[.int .i64 (d : Int)] 3))
            have N612 : Hid (Blk1 (W3.alloc (.cells #[.int .i64 (d : Int)] 3)) W3.heap.size 3 (.int .i64 (d : Int))) := Blk1.at_ _ _ rfl
            have l12 := R0.out.size
            refine hK.out _ _ (fun _ => ⟨A12.out.cell0, B12.out.cell0⟩) ?_
            have hH := (⟨A12.out.cell0, B12.out.cell0⟩ : _ ∧ _)
            clear hK K
            obtain ⟨g12, hg12⟩ : ∃ g, W3.heap.size = g := ⟨_, rfl⟩
            obtain ⟨W12, hw12⟩ : ∃ W, W3.alloc (.cells #[.int .i64 (d : Int)] 3) = W := ⟨_, rfl⟩
            rw [hg12] at N612 l12 ⊢
            rw [hw12] at R12 A12 B12 N612 ⊢
            clear hg12 hw12
            try simp only [Act.put, List.setIfInBounds_toArray, List.set_cons_zero, List.set_cons_succ]
            refine wpAnyT_ready (rs := [2]) (by kernel_rfl) (by simp) ?_
            refine AllReadyT.cons (by simp only [List.getElem?_toArray, List.getElem?_cons_succ, List.getElem?_cons_zero]; rfl) (fun K hK => ?_) (AllReadyT.nil)
            go_simp
            try dsimp only
            have N613 := Lib.hid (N612.out.old (.cells #[.int .i64 z] 3))
            have R13 := Lib.hid (R12.out.alloc (.cells #[.int .i64 z] 3))
            have A13 := Lib.hid (A12.out.old (.cells #[.int .i64 z] 3))
            have B13 := Lib.hid (B12.out.old (.cells #[.int .i64 z] 3))
            have N213 : Hid (Blk1 (W12.alloc (.cells #[.int .i64 z] 3)) W12.heap.size 3 (.int .i64 z)) := Blk1.at_ _ _ rfl
            have l13 := R12.out.size
            refine hK.out _ _ (fun _ => ⟨A13.out.cell0, B13.out.cell0⟩) ?_
            have hH := (⟨A13.out.cell0, B13.out.cell0⟩ : _ ∧ _)
            clear hK K
            obtain ⟨g13, hg13⟩ : ∃ g, W12.heap.size = g := ⟨_, rfl⟩
            obtain ⟨W13, hw13⟩ : ∃ W, W12.alloc (.cells #[.int .i64 z] 3) = W := ⟨_, rfl⟩
            rw [hg13] at N213 l13 ⊢
            rw [hw13] at R13 A13 B13 N213 N613 ⊢
            clear hg13 hw13
            try simp only [Act.put, List.setIfInBounds_toArray, List.set_cons_zero, List.set_cons_succ]
            refine wpAnyT_ready (rs := [3]) (by kernel_rfl) (by simp) ?_
            refine AllReadyT.cons (by simp only [List.getElem?_toArray, List.getElem?_cons_succ, List.getElem?_cons_zero]; rfl) (fun K hK => ?_) (AllReadyT.nil)
            have hx14 : W13.ownsRow (w1.heap.size + 1) 3 1 v6 k ((re9 D k).map (Value.int .i64)) := by
              have := R13.out.two.r1
              rw [re9_length] at this
              exact this
            have z14 := R13.out.size
            obtain ⟨u14, W14, hr14, ho14, hg14, -, hor14⟩ := run_append_own_at (P := Tryz.prog) W13 (w1.heap.size + 1) 24 24 3 fi (.int .i64 0) 1 8 underlying_ints hfi hz0 hz1 hz2 rfl (by decide) v6 k _ hx14 ⟨g13, 0, none⟩ 1 1 [.int .i64 z] rfl (news1 N213.out.cell0) (by intro v hv; simp at hv; subst hv; rfl) (by unfold maxLen; omega) (by omega) (by omega)
            refine step_append rfl _ _ 24 rfl _ _ rfl rfl _ _ hr14 ?_
            have R14 := Lib.hid (R13.out.app6 (x := z) (by rw [re9_length]; exact ho14) hg14 hor14)
            have far14 : ∀ q, (v6).ownBlock = some q → q < w2.heap.size ∧ q ≠ w1.heap.size + 1 + 1 + 1 ∧ q ≠ w1.heap.size + 1 + 1 + 1 + 1 := fun q hq => FAR.out q (.inl hq)
            have A14 : Hid (Blk1 W14 _ 24 v6) := (hg14.block _ A13.out.lt (fun e => (far14 _ e.symm).2.1 rfl)).trans A13.out
            have B14 : Hid (Blk1 W14 _ 24 v7) := (hg14.block _ B13.out.lt (fun e => (far14 _ e.symm).2.2 rfl)).trans B13.out
            have N614 : Hid (Blk1 W14 g12 3 (.int .i64 (d : Int))) := (hg14.block _ N613.out.lt (fun e => by have := far14 _ e.symm; have := l12; omega)).trans N613.out
            try dsimp only
            refine hK.out _ _ (fun _ => ⟨A14.out.cell0, B14.out.cell0⟩) ?_
            have hH := (⟨A14.out.cell0, B14.out.cell0⟩ : _ ∧ _)
            obtain ⟨q14, e14, rfl⟩ := rowL_form ho14
            clear hK K hx14 hr14 ho14 hg14 hor14 far14
            try simp only [Act.put, List.setIfInBounds_toArray, List.set_cons_zero, List.set_cons_succ]
            refine wpAnyT_ready (rs := [7]) (by kernel_rfl) (by simp) ?_
            refine AllReadyT.cons (by simp only [List.getElem?_toArray, List.getElem?_cons_succ, List.getElem?_cons_zero]; rfl) (fun K hK => ?_) (AllReadyT.nil)
            have hx15 : W14.ownsRow (w1.heap.size + 1) 3 1 v7 k ((mo9 k).map (Value.int .i64)) := by
              have := R14.out.two.r2
              rw [mo9_length] at this
              exact this
            have z15 := R14.out.size
            obtain ⟨u15, W15, hr15, ho15, hg15, -, hor15⟩ := run_append_own_at (P := Tryz.prog) W14 (w1.heap.size + 1) 24 24 3 fi (.int .i64 0) 1 8 underlying_ints hfi hz0 hz1 hz2 rfl (by decide) v7 k _ hx15 ⟨g12, 0, none⟩ 1 1 [.int .i64 (d : Int)] rfl (news1 N614.out.cell0) (by intro v hv; simp at hv; subst hv; rfl) (by unfold maxLen; omega) (by omega) (by omega)
            refine step_append rfl _ _ 24 rfl _ _ rfl rfl _ _ hr15 ?_
            have R15 := Lib.hid (R14.out.app7 (x := (d : Int)) (by rw [mo9_length]; exact ho15) hg15 hor15)
            have far15 : ∀ q, (v7).ownBlock = some q → q < w2.heap.size ∧ q ≠ w1.heap.size + 1 + 1 + 1 ∧ q ≠ w1.heap.size + 1 + 1 + 1 + 1 := fun q hq => FAR.out q (.inr hq)
            have A15 : Hid (Blk1 W15 _ 24 v6) := (hg15.block _ A14.out.lt (fun e => (far15 _ e.symm).2.1 rfl)).trans A14.out
            have B15 : Hid (Blk1 W15 _ 24 v7) := (hg15.block _ B14.out.lt (fun e => (far15 _ e.symm).2.2 rfl)).trans B14.out
            try dsimp only
            refine hK.out _ _ (fun _ => ⟨A15.out.cell0, B15.out.cell0⟩) ?_
            have hH := (⟨A15.out.cell0, B15.out.cell0⟩ : _ ∧ _)
            obtain ⟨q15, e15, rfl⟩ := rowL_form ho15
            clear hK K hx15 hr15 ho15 hg15 hor15 far15
            try simp only [Act.put, List.setIfInBounds_toArray, List.set_cons_zero, List.set_cons_succ]
            refine wpAnyT_ready (rs := [8]) (by kernel_rfl) (by simp) ?_
            refine AllReadyT.cons (by simp only [List.getElem?_toArray, List.getElem?_cons_succ, List.getElem?_cons_zero]; rfl) (fun K hK => ?_) (AllReadyT.nil)
            have y16a := A15.out.cell0
            have y16b := A15.out.free 0
            go_simp
            try dsimp only
            have R16 := Lib.hid (R15.out.box (c := w1.heap.size + 1 + 1 + 1) (.inl rfl) (.slice q14 (k + 1) e14))
            have A16 := Lib.hid (A15.out.set0 (.slice q14 (k + 1) e14))
            have B16 := Lib.hid (B15.out.far (a := ⟨w1.heap.size + 1 + 1 + 1, 0, none⟩) (by show _ ≠ _; simp) (.slice q14 (k + 1) e14))
            clear y16a y16b
            refine hK.out _ _ (fun h => absurd h (by decide)) ?_
            clear hK K
            try simp only [Act.put, List.setIfInBounds_toArray, List.set_cons_zero, List.set_cons_succ]
            refine wpAnyT_ready (rs := [9]) (by kernel_rfl) (by simp) ?_
            refine AllReadyT.cons (by simp only [List.getElem?_toArray, List.getElem?_cons_succ, List.getElem?_cons_zero]; rfl) (fun K hK => ?_) (AllReadyT.nil)
            have y17a := B16.out.cell0
            have y17b := B16.out.free 0
            go_simp
            try dsimp only
            have R17 := Lib.hid (R16.out.box (c := w1.heap.size + 1 + 1 + 1 + 1) (.inr rfl) (.slice q15 (k + 1) e15))
            have B17 := Lib.hid (B16.out.set0 (.slice q15 (k + 1) e15))
            have A17 := Lib.hid (A16.out.far (a := ⟨w1.heap.size + 1 + 1 + 1 + 1, 0, none⟩) (by show _ ≠ _; simp) (.slice q15 (k + 1) e15))
            clear y17a y17b
            refine hK.out _ _ (fun h => absurd h (by decide)) ?_
            clear hK K
            try simp only [Act.put, List.setIfInBounds_toArray, List.set_cons_zero, List.set_cons_succ]
            refine wpAnyT_done (by kernel_rfl) ?_ _
            exact ⟨rfl, _, _, _, _, rfl, R17.out, A17.out, B17.out⟩
        · rintro a' w3 ⟨u6, u7, t38, t42, rfl, hr, ha, hb⟩
          obtain ⟨E, hE⟩ : ∃ E, P * (d : Int) = E := ⟨_, rfl⟩
          have eE : E = pq9 (k + 1) := by rw [← hE, ← HP.out, ED.out, pq9_step k4]
          have pe := pq9_num (k + 1)
          rw [← RS.out, ← MS.out] at hr
          obtain ⟨p5, -, M', kp, jn⟩ := S2.out.next HB2.out (fun g hg => HM.out g hg) hr ha hb eE
          rw [HP.out] at p5
          have JN : Hid (imI w n N a m w1.heap.size b D (pre ++ [x]) M' (w3.setCell ⟨w1.heap.size + 5, 0, none⟩ (.int .i64 E))) := ⟨k + 1, u6, u7, by omega, fun h5 => pq9_four (k := k) (by omega) (by rw [HP.out]; omega), by rw [prmV_snoc, big9_snoc (by rw [DD.out]; omega), BG.out, mo9_snoc, DD.out, ED.out], jn⟩
          have KP := Lib.hid kp
          have d5 : IntKind.i64.wrap (P * (d : Int)) = E := by rw [hE]; exact IntWalk.i64_in _ (by omega)
          have y5 := p5.cell0
          have y6 := p5.free 0
          have y5 : w3.cell? ⟨w1.heap.size + 1 + 1 + 1 + 1 + 1, 0, none⟩ = some (.int .i64 P) := y5
          have y6 : w3.frozen? ⟨w1.heap.size + 1 + 1 + 1 + 1 + 1, 0, none⟩ = false := y6
          clear hE eE pe hr ha hb p5 kp jn
          gi_wp2
          exact ⟨M', KP.out, JN.out⟩
  case done =>
    rintro ys M W hS ⟨k, v6, v7, hk, h5, hbig, hJ⟩ hM hK
    exact (last9 (k := k) (by rw [← hS]; exact hbig)).elim
  case stop =>
    rintro c pre M W - ⟨rfl, k, v6, v7, hk, h5, hgt, hJ⟩ hM hK
    rw [SZ] at hK hM ⊢
    clear J0
    obtain ⟨q6, e6, rfl⟩ := rowL_form hJ.two.r1
    obtain ⟨q7, e7, rfl⟩ := rowL_form hJ.two.r2
    have cap7 := row_cap hJ.two.r2
    obtain ⟨f6, g6, i6, R6, -⟩ := (Own.of_row hJ.two.r1 (by rw [re9_length]; omega)).form
    obtain ⟨f7, g7, i7, R7, -⟩ := (Own.of_row hJ.two.r2 (by rw [mo9_length]; omega)).form
    injection i6 with i6 i6' i6''
    injection i7 with i7 i7' i7''
    clear i6' i6'' i7' i7''
    subst i6 i7
    have CH : Hid (Calls Tryz.prog 63 #[.slice q6 k e6, .slice q7 k e7] W (Gives (.tuple #[.int .i64 (chiX (re9 D k) (mo9 k)).1, .int .i64 (chiX (re9 D k) (mo9 k)).2.1, .bool (chiX (re9 D k) (mo9 k)).2.2]) W)) := by
      have := iChin q6 q7 e6 e7 _ _ W R6 R7 (by rw [re9_length]; omega) (by rw [mo9_length]; omega) cap7
      rw [re9_length, mo9_length] at this
      exact this
    rw [re9_length, mo9_length] at hJ
    have J := Lib.hid hJ
    have y3 : W.cell? ⟨w1.heap.size + 1 + 1 + 1, 0, none⟩ = some (.slice q6 k e6) := hJ.im.cell0
    have y4 : W.cell? ⟨w1.heap.size + 1 + 1 + 1 + 1, 0, none⟩ = some (.slice q7 k e7) := hJ.mo.cell0
    have HK := Lib.hid hK
    have lK := (Array.getElem?_eq_some_iff.mp hK).1
    clear hJ hK hM cap7 R6 R7
    by_cases k4 : k ≤ 4
    · obtain ⟨x, e1, e2, e3, x0, x1⟩ := YS.out k k4 (by rw [← pq9_low k4]; exact hgt)
      rw [e1] at CH
      have E2 := Lib.hid e2
      have E3 := Lib.hid e3
      generalize pp9 k = P at CH E2
      clear e1 e2 e3 YS NO x0 x1 hgt
      gi_wp2_with (refine ⟨trivial, ?_⟩; first | (gi_at_call 63; refine (callsIn_wide.2 CH.out).mono ?_; rintro e w2 ⟨rfl, hb2⟩; have p5 := J.out.pr.keep hb2 J.out.pr.lt; have y5 : w2.cell? ⟨w1.heap.size + 1 + 1 + 1 + 1 + 1, 0, none⟩ = some (.int .i64 (pq9 k)) := p5.cell0; have y6 : w2.frozen? ⟨w1.heap.size + 1 + 1 + 1 + 1 + 1, 0, none⟩ = false := p5.free 0; have y7 : (w2.setCell ⟨w1.heap.size + 1 + 1 + 1 + 1 + 1, 0, none⟩ (.int .i64 P)).cell? ⟨w1.heap.size + 1 + 1 + 1 + 1 + 1, 0, none⟩ = some (.int .i64 P) := (p5.set0 (.int .i64 P)).cell0) | (gi_at_call 64; refine (callsIn_wide.2 (iSymm x P _)).mono ?_; rintro e w3 ⟨rfl, ns, rfl⟩; rw [E2.out]))
      have p8 : (w2.setCell ⟨w1.heap.size + 1 + 1 + 1 + 1 + 1, 0, none⟩ (.int .i64 P)).heap[w1.heap.size + 6]? = some (.deferred (some [])) := (Below.heap_setCell w2 ⟨w1.heap.size + 1 + 1 + 1 + 1 + 1, 0, none⟩ _ _ (by show w1.heap.size + 6 ≠ w1.heap.size + 1 + 1 + 1 + 1 + 1; omega)).trans ((hb2.block _ lK).trans HK.out)
      have b8 : Below w.heap.size w (w2.setCell ⟨w1.heap.size + 1 + 1 + 1 + 1 + 1, 0, none⟩ (.int .i64 P)) := (J.out.bel.trans (hb2.mono J.out.bel.size)).setCell (by have := J.out.lt; show w.heap.size ≤ w1.heap.size + 1 + 1 + 1 + 1 + 1; omega) _
      have lw := J.out.lt
      have s8 := b8.size
      refine ⟨by simp, .inl ⟨_, _, rfl, run_takeDeferred (by first | exact p8 | (rw [show ∀ (W : World) n, (W.drewN n).heap = W.heap from fun _ _ => rfl]; exact p8)), ?_⟩⟩
      refine ⟨.tuple #[.int .i64 RES.1, .bool RES.2], by simp [results, Tryz.f22, go_sem], rfl, ?_⟩
      exact (by first | exact below_drewN b8 _ | exact b8 : Below w.heap.size w _).grown (grownBy_putObj' _ _ _) (by first | exact s8 | (simp; omega)) (fun k e => by cases e; omega)
    · obtain rfl : k = 5 := by omega
      rw [chi9_five] at CH
      have V := Lib.hid (NO.out (h5 rfl))
      clear YS NO hgt h5
      gi_wp2_with (refine ⟨trivial, ?_⟩; first | (gi_at_call 63; refine (callsIn_wide.2 CH.out).mono ?_; rintro e w2 ⟨rfl, hb2⟩; have p5 := J.out.pr.keep hb2 J.out.pr.lt; have y5 : w2.cell? ⟨w1.heap.size + 1 + 1 + 1 + 1 + 1, 0, none⟩ = some (.int .i64 (pq9 5)) := p5.cell0; have y6 : w2.frozen? ⟨w1.heap.size + 1 + 1 + 1 + 1 + 1, 0, none⟩ = false := p5.free 0; have y7 : (w2.setCell ⟨w1.heap.size + 1 + 1 + 1 + 1 + 1, 0, none⟩ (.int .i64 0)).cell? ⟨w1.heap.size + 1 + 1 + 1 + 1 + 1, 0, none⟩ = some (.int .i64 0) := (p5.set0 (.int .i64 0)).cell0))
      have p8 : (w2.setCell ⟨w1.heap.size + 1 + 1 + 1 + 1 + 1, 0, none⟩ (.int .i64 0)).heap[w1.heap.size + 6]? = some (.deferred (some [])) := (Below.heap_setCell w2 ⟨w1.heap.size + 1 + 1 + 1 + 1 + 1, 0, none⟩ _ _ (by show w1.heap.size + 6 ≠ w1.heap.size + 1 + 1 + 1 + 1 + 1; omega)).trans ((hb2.block _ lK).trans HK.out)
      have b8 : Below w.heap.size w (w2.setCell ⟨w1.heap.size + 1 + 1 + 1 + 1 + 1, 0, none⟩ (.int .i64 0)) := (J.out.bel.trans (hb2.mono J.out.bel.size)).setCell (by have := J.out.lt; show w.heap.size ≤ w1.heap.size + 1 + 1 + 1 + 1 + 1; omega) _
      have lw := J.out.lt
      have s8 := b8.size
      refine ⟨by simp, .inl ⟨_, _, rfl, run_takeDeferred (by first | exact p8 | (rw [show ∀ (W : World) n, (W.drewN n).heap = W.heap from fun _ _ => rfl]; exact p8)), ?_⟩⟩
      refine ⟨.tuple #[.int .i64 0, .bool false], by simp [results, Tryz.f22, go_sem], by rw [V.out], ?_⟩
      exact (by first | exact below_drewN b8 _ | exact b8 : Below w.heap.size w _).grown (grownBy_putObj' _ _ _) (by first | exact s8 | (simp; omega)) (fun k e => by cases e; omega)
end Go.Proofs.YtcapddcmnjeloaaGreatDoor
end

section
/-
  Chapter 9, in the program: DeterminantByImages of any matrix.
-/
namespace Go.Proofs.YtcapddcmnjeloaaGreatDoor
set_option maxRecDepth 100000
open Go.RowKit
theorem iImg_no (r c : Int) (a : Option Addr) (m : Nat) (xs : List Int) (w : World) (h : Rd w a xs) (hn : xs.length ≤ 16777216) (e1 : bndX r c xs = (0, false)) (e2 : imX r c xs = (0, false)) :
    Calls Tryz.prog 22 #[.agg #[.int .i64 r, .int .i64 c, .slice a xs.length m]] w (Gives (.tuple #[.int .i64 (imX r c xs).1, .bool (imX r c xs).2]) w) := by
  have BD : Hid (∀ w', Below w.heap.size w w' → Calls Tryz.prog 60 #[.agg #[.int .i64 r, .int .i64 c, .slice a xs.length m]] w' (Gives (.tuple #[.int .i64 0, .bool false]) w')) := fun w' hb => by
    have := iBnd r c a m xs w' (h.below hb) hn
    rw [e1] at this
    exact this
  have B0 : Hid (Below w.heap.size w (w.alloc (.cells #[.int .i64 r, .int .i64 c, .slice a xs.length m] 26))) := (Below.refl _ _).alloc (Nat.le_refl _) _
  rw [e2]
  generalize xs.length = L at BD B0 ⊢
  clear h hn e1 e2
  go_enter Tryz.func22, Tryz.ntmps22
  go_wp2_with fail
  refine (BD.out _ B0.out).mono ?_
  rintro e w1 ⟨rfl, hb⟩
  have B1 := B0.out.trans (hb.mono (by simp))
  have B2 := Lib.hid (B1.alloc B1.size (.cells #[.int .i64 0] 3))
  clear B1 hb
  go_wp2_with fail
  exact bodyPost_ret (v := .tuple #[.int .i64 0, .bool false]) (by simp [results, Tryz.results22, go_sem]) rfl ⟨rfl, B2.out⟩
theorem iImg (r c : Int) (a : Option Addr) (m : Nat) (xs : List Int) (w : World) (h : Rd w a xs) (hn : xs.length ≤ 16777216) :
    Calls Tryz.prog 22 #[.agg #[.int .i64 r, .int .i64 c, .slice a xs.length m]] w (Gives (.tuple #[.int .i64 (imX r c xs).1, .bool (imX r c xs).2]) w) := by
  rcases Bool.eq_false_or_eq_true (isSq r c xs) with hs | hs
  · obtain ⟨n, rfl, rfl, h6, hl, hnum⟩ := isSq_says hs
    rcases bnd_case hs with ⟨e1, e2⟩ | ⟨b, e1, b0, b1⟩
    · exact iImg_no n n a m xs w h hn e1 e2
    · exact iImg_in n a m xs.length xs w h rfl hs b e1 b0 b1
  · obtain ⟨e1, e2⟩ := imX_sq hs
    exact iImg_no r c a m xs w h hn e1 e2
end Go.Proofs.YtcapddcmnjeloaaGreatDoor
end

section
/-
  Chapter 4's mathematics: the texts of rows of numbers, of matrices, of ratios. No function of the program is named.
-/
namespace Go.Proofs.YtcapddcmnjeloaaGreatDoor
open Go.RowKit
open Go.Lib (decDigits itoa nDigits)
def I64 (xs : List Int) : Prop := ∀ i, -9223372036854775808 ≤ xs.getD i 0 ∧ xs.getD i 0 ≤ 9223372036854775807
theorem itoa_len (n : Int) (h0 : -9223372036854775808 ≤ n) (h1 : n ≤ 9223372036854775807) : (itoa n).length ≤ 20 := by
  rcases Int.lt_or_le n 0 with h | h
  · obtain ⟨m, rfl⟩ : ∃ m : Nat, n = -(m : Int) := ⟨n.natAbs, by omega⟩
    rw [Lib.itoa_neg m (by omega), List.length_cons, dec_len]
    have := nDigits_le 18 m (by omega)
    omega
  · obtain ⟨m, rfl⟩ := Int.eq_ofNat_of_zero_le h
    rw [Lib.itoa_nonneg, dec_len]
    have := nDigits_le 18 m (by omega)
    omega
def itx (xs : List Int) : Nat → List UInt8
  | 0 => []
  | i + 1 => (if 0 < i then itx xs i ++ [32] else itx xs i) ++ itoa (xs.getD i 0)
def mtx (t : List UInt8) (C : Nat) (xs : List Int) : Nat → List UInt8
  | 0 => t
  | i + 1 => (if 0 < i ∧ i % C = 0 then mtx t C xs i ++ [59] else if 0 < i then mtx t C xs i ++ [32] else mtx t C xs i) ++ itoa (xs.getD i 0)
theorem mtx_len {t : List UInt8} {C : Nat} {xs : List Int} (h : I64 xs) (i : Nat) : (mtx t C xs i).length ≤ t.length + 21 * i := by
  induction i with
  | zero => exact Nat.le_refl _
  | succ i ih =>
    have := itoa_len _ (h i).1 (h i).2
    unfold mtx
    split
    · simp only [List.length_append, List.length_cons, List.length_nil]; omega
    · split <;> simp only [List.length_append, List.length_cons, List.length_nil] <;> omega
def matText (R C : Nat) (xs : List Int) : List UInt8 := mtx (itoa R ++ [120] ++ itoa C ++ [91]) C xs xs.length ++ [93]
end Go.Proofs.YtcapddcmnjeloaaGreatDoor
end

section
/-
  Chapter 4, in the model: FormatInts, FormatRatio's parts: texts by concatenation.
-/
namespace Go.Proofs.YtcapddcmnjeloaaGreatDoor
open Go.RowKit
open Go.Lib (decDigits itoa nDigits)
theorem cat_eq (x y z : List UInt8) (e : x ++ y = z) (h : x.length + y.length ≤ 1000000000) : ∀ w : World, (Op.stringOp .add ⟨x.toArray⟩ ⟨y.toArray⟩).run Tryz.prog w = .ok (.string ⟨z.toArray⟩) w := by
  intro w
  subst e
  rw [run_string_add_sum w _ _ (by simp [ByteArray.size]; omega), ByteArray.mk_append_mk]
end Go.Proofs.YtcapddcmnjeloaaGreatDoor
end

section
/-
  Chapter 4, in the model: FormatMatrix.
-/
namespace Go.Proofs.YtcapddcmnjeloaaGreatDoor
open Go.RowKit
open Go.Lib (decDigits itoa nDigits)
theorem getD_none (xs : List Int) (i : Nat) (h : xs.length ≤ i) : xs.getD i 0 = 0 := by
  simp [List.getD, List.getElem?_eq_none h]
theorem isMat_i64 {r c : Int} {zs : List Int} (h : isMat r c zs = true) : I64 zs := fun i => by
  rcases Nat.lt_or_ge i zs.length with hi | hi
  · have := nums_at (isMat_says h).2.2.2 hi
    unfold NumP at this
    omega
  · rw [getD_none zs i hi]; omega
def fmtM (r c : Int) (xs : List Int) : List UInt8 := if isMat r c xs = true then matText r.toNat c.toNat xs else []
def mhead (R C : Nat) : List UInt8 := itoa R ++ [120] ++ itoa C ++ [91]
end Go.Proofs.YtcapddcmnjeloaaGreatDoor
end

section
/-
  Chapter 4, in the program: the cells of a matrix as text: gapBefore, the step of the fold, the fold.
-/
namespace Go.Proofs.YtcapddcmnjeloaaGreatDoor
open Go.RowKit
open Go.Lib (decDigits itoa nDigits)
def gapT (r c : Nat) : List UInt8 := if 0 < c then [32] else if 0 < r then [59] else []
theorem gapT_len (r c : Nat) : (gapT r c).length ≤ 1 := by
  unfold gapT
  split
  · simp
  · split <;> simp
theorem iGap (r c : Nat) (w : World) : Calls Tryz.prog 51 #[.int .i64 r, .int .i64 c] w fun e w' => e = .returned (.string ⟨(gapT r c).toArray⟩) ∧ w = w' := by
  go_enter Tryz.func51, Tryz.ntmps51
  go_wp2_with fail
  all_goals
    go_ret
    exact ⟨by unfold gapT; simp_all, rfl⟩
theorem underlying_bys : Tryz.prog.underlying 22 = some (.slice 5) := by kernel_rfl
theorem underlying_str : Tryz.prog.underlying 9 = some .string := by kernel_rfl
theorem underlying_by : Tryz.prog.underlying 5 = some (.int .u8) := by kernel_rfl
theorem info_by : (Tryz.prog.info? 5).map (fun i => (i.zero, i.size, i.bytes)) = some (some (.int .u8 0), 1, 1) := by kernel_rfl
theorem facts_by : ∃ i, Tryz.prog.info? 5 = some i ∧ i.zero = some (.int .u8 0) ∧ i.size = 1 ∧ i.bytes = 1 := by
  obtain ⟨i, h, e⟩ := Option.map_eq_some_iff.mp info_by
  injection e with e1 e2
  injection e2 with e2 e3
  exact ⟨i, h, e1, e2, e3⟩
def Bys (B : Nat) (w : World) (v : Value) (l : List UInt8) : Prop := w.ownsRow B 5 1 v l.length (Lib.strCells ⟨l.toArray⟩)
theorem Bys.le {B : Nat} {w : World} {v : Value} {l : List UInt8} (h : Bys B w v l) {k : Nat} (hk : v.ownBlock = some k) : B ≤ k := by
  rcases h.2 with ⟨rfl, -⟩ | ⟨g, cap, cur, rfl, hB, -⟩
  · cases hk
  · simp [Value.ownBlock] at hk; omega
theorem Bys.ne_blk {B : Nat} {w : World} {v : Value} {l : List UInt8} {b : Nat} {p q r : Value} (h : Bys B w v l) (hb : Blk3 w b 26 p q r) {k : Nat} (hk : v.ownBlock = some k) : k ≠ b := by
  rcases h.2 with ⟨rfl, -⟩ | ⟨g, cap, cur, rfl, hB, hg, -⟩
  · cases hk
  · simp only [Value.ownBlock, Option.some.injEq] at hk
    subst hk
    rintro rfl
    unfold Blk3 at hb
    rw [hg] at hb
    injection hb with hb
    injection hb with _ h2 _
    exact absurd h2 (by decide)
theorem Bys.keep {B : Nat} {w w' : World} {v : Value} {l : List UInt8} (h : Bys B w v l) (hb : Below w.heap.size w w') : Bys B w' v l := by
  obtain ⟨h1, ⟨h2, h3⟩ | ⟨g, cap, cur, e, hB, hg, rest⟩⟩ := h
  · exact ⟨h1, .inl ⟨h2, h3⟩⟩
  · exact ⟨h1, .inr ⟨g, cap, cur, e, hB, (hb.block g (lt_of_block hg)).trans hg, rest⟩⟩
theorem Bys.drew {B : Nat} {w : World} {v : Value} {l : List UInt8} (h : Bys B w v l) : Bys B w.drew v l := h
theorem Bys.more {B : Nat} {w' : World} {v' : Value} {l p : List UInt8} (h : w'.ownsRow B 5 1 v' (l.length + (⟨p.toArray⟩ : ByteArray).size) (Lib.strCells ⟨l.toArray⟩ ++ Lib.strCells ⟨p.toArray⟩)) : Bys B w' v' (l ++ p) := by
  unfold Bys
  have e : Lib.strCells ⟨(l ++ p).toArray⟩ = Lib.strCells ⟨l.toArray⟩ ++ Lib.strCells ⟨p.toArray⟩ := by simp [Lib.strCells]
  rw [e, List.length_append]
  exact h
theorem Bys.form {B : Nat} {w : World} {v : Value} {l : List UInt8} (h : Bys B w v l) : ∃ a c, v = .slice a l.length c := by
  obtain ⟨h1, ⟨h2, h3⟩ | ⟨g, cap, cur, e, hB, hg, rest⟩⟩ := h
  · exact ⟨_, _, by rw [h2, h3]⟩
  · exact ⟨_, _, e⟩
theorem Bys.frs {w w' : World} {v : Value} {p : Nat → Prop} (hg : w.grownBy w' v.ownBlock) (hp : ∀ k, v.ownBlock = some k → p k) : FrS p w w' :=
  ⟨hg.os, hg.tape, hg.output, hg.size, fun k hk hn => hg.block k hk (fun e => hn (hp k e.symm))⟩
theorem Bys.new (w : World) (t : TypeId) (ht : t = 5) : Bys w.heap.size (w.alloc (.cells #[] t)) (.slice (some ⟨w.heap.size, 0, none⟩) 0 0) [] := by
  subst ht
  exact ⟨rfl, .inr ⟨w.heap.size, 0, #[], rfl, Nat.le_refl _, heap_alloc_new w _, Nat.le_refl _, by decide, rfl, rfl⟩⟩
def AtB (B k0 : Nat) (k : Nat) : Prop := B ≤ k ∧ k ≠ k0
set_option maxRecDepth 20000 in
set_option maxHeartbeats 1000000 in
theorem iFM1 (B k0 r c : Nat) (z : Int) (l : List UInt8) (v p q s : Value) (w : World) (hv : Bys B w v l) (hk : Blk3 w k0 26 p q s) (hB : B ≤ w.heap.size) (hl : l.length ≤ 1000000) (hz : -9223372036854775808 ≤ z ∧ z ≤ 9223372036854775807) (tb : Tab w) (ht : 1 < B) :
    Calls Tryz.prog 50 #[v, .int .i64 r, .int .i64 c, .int .i64 z] w
      (fun e w' => ∃ v', e = .returned v' ∧ Bys B w' v' (l ++ gapT r c ++ itoa z) ∧ FrS (AtB B k0) w w') := by
  obtain ⟨fi, hfi, hz0, hz1, hz2⟩ := facts_by
  obtain ⟨g, hg⟩ : ∃ g, gapT r c = g := ⟨_, rfl⟩
  have gl : g.length ≤ 1 := by rw [← hg]; exact gapT_len r c
  have IG : ∀ w, Calls Tryz.prog 51 #[.int .i64 r, .int .i64 c] w fun e w' => e = .returned (.string ⟨g.toArray⟩) ∧ w = w' := fun w => by rw [← hg]; exact iGap r c w
  rw [hg]
  obtain ⟨hz3, hz4⟩ := hz
  have zl := itoa_len z hz3 hz4
  have SF : ∀ w, Tab w → Calls Tryz.prog 52 #[.int .i64 z] w (Gives (.string ⟨(itoa z).toArray⟩) w) := fun w tb => iFmt z w hz3 hz4 tb
  obtain ⟨q', hq'⟩ : ∃ q', itoa z = q' := ⟨_, rfl⟩
  rw [hq'] at zl SF ⊢
  have V := Lib.hid hv
  have K := Lib.hid hk
  have TB := Lib.hid tb
  have HB := Lib.hid hB
  have HT := Lib.hid ht
  have L := Lib.hid hl
  have GL := Lib.hid gl
  have ZL := Lib.hid zl
  have SFH := Lib.hid SF
  obtain ⟨a, cp, rfl⟩ := hv.form
  clear hv hk tb hB ht hl gl zl SF hg hq' hz3 hz4
  go_enter Tryz.func50, Tryz.ntmps50
  go_wp2_with fail
  refine (IG _).mono ?_
  rintro e w1 ⟨rfl, rfl⟩
  go_wp2_with (at_builtin; refine Lib.wpList_append_own_string _ rfl _ _ 22 9 rfl B 5 fi underlying_bys underlying_str hfi hz0 hz1 hz2 _ _ _ rfl V.out ⟨g.toArray⟩ rfl ?h63 ?hbytes ?hbase ?hnext)
  case h63 => have := L.out; have := GL.out; unfold maxLen; show l.length + g.length ≤ _; omega
  case hbytes => have := L.out; have := GL.out; show l.length + g.length ≤ _; omega
  case hbase => exact HB.out
  case hnext =>
    rintro v1 w1 ho hg -
    have V0 : Bys B w1 v1 (l ++ g) := Bys.more ho
    have M0 : (l ++ g).length ≤ 1000001 := by have := L.out; have := GL.out; rw [List.length_append]; omega
    obtain ⟨m1, hm1⟩ : ∃ m1, l ++ g = m1 := ⟨_, rfl⟩
    rw [hm1] at V0 M0
    have V1 : Hid (Bys B w1 v1 m1) := V0
    have ML := Lib.hid M0
    have HM := Lib.hid hm1
    have F1 : Hid (FrS (AtB B k0) w w1) := Bys.frs hg (fun k hk => ⟨V.out.le hk, V.out.ne_blk K.out hk⟩)
    have K1 : Hid (Blk3 w1 k0 26 p q s) := K.out.frs F1.out (fun h => h.2 rfl)
    have T1 : Hid (Tab w1) := var?_below (F1.out.below (B := B) (fun k h => h.1) HB.out) gTab HT.out TB.out
    obtain ⟨a1, c1, rfl⟩ := V1.out.form
    clear ho hg V0 M0 hm1
    go_wp2_with fail
    refine (SFH.out _ T1.out).mono ?_
    rintro e w2 ⟨rfl, hb⟩
    have V2 : Hid (Bys B w2 (.slice a1 m1.length c1) m1) := V1.out.keep hb
    have F2 : Hid (FrS (AtB B k0) w w2) := F1.out.trans (FrS.of_below hb)
    have K2 : Hid (Blk3 w2 k0 26 p q s) := K1.out.keep hb K1.out.lt
    clear hb
    go_wp2_with (at_builtin; refine Lib.wpList_append_own_string _ rfl _ _ 22 9 rfl B 5 fi underlying_bys underlying_str hfi hz0 hz1 hz2 _ _ _ rfl V2.out ⟨q'.toArray⟩ rfl ?h63 ?hbytes ?hbase ?hnext)
    case h63 => have := ML.out; have := ZL.out; unfold maxLen; show m1.length + q'.length ≤ _; omega
    case hbytes => have := ML.out; have := ZL.out; show m1.length + q'.length ≤ _; omega
    case hbase => exact Nat.le_trans HB.out F2.out.size
    case hnext =>
      rintro v3 w3 ho hg -
      have V3 : Hid (Bys B w3 v3 (l ++ g ++ q')) := by rw [HM.out]; exact Bys.more ho
      have F3 : Hid (FrS (AtB B k0) w w3) := F2.out.trans (Bys.frs hg (fun k hk => ⟨V2.out.le hk, V2.out.ne_blk K2.out hk⟩))
      clear ho hg
      go_wp2_with fail
      go_ret
      exact ⟨_, rfl, V3.out, F3.out⟩
theorem mtx_gap (C : Nat) (xs : List Int) (k : Nat) (hC : 0 < C) : mtx [] C xs (k + 1) = mtx [] C xs k ++ gapT (k / C) (k % C) ++ itoa (xs.getD k 0) := by
  have e : mtx [] C xs (k + 1) = (if 0 < k ∧ k % C = 0 then mtx [] C xs k ++ [59] else if 0 < k then mtx [] C xs k ++ [32] else mtx [] C xs k) ++ itoa (xs.getD k 0) := rfl
  rw [e]
  congr 1
  unfold gapT
  rcases Nat.eq_zero_or_pos k with h | h
  · subst h
    rw [Nat.zero_mod, Nat.zero_div]
    simp
  · rcases Nat.eq_zero_or_pos (k % C) with h2 | h2
    · have h3 : 0 < k / C := Nat.div_pos (Nat.le_of_dvd h (Nat.dvd_of_mod_eq_zero h2)) hC
      rw [if_pos ⟨h, h2⟩, if_neg (by omega), if_pos h3]
    · rw [if_neg (by omega), if_pos h, if_pos h2]
theorem mtx_head (t : List UInt8) (C : Nat) (xs : List Int) (i : Nat) : mtx t C xs i = t ++ mtx [] C xs i := by
  induction i with
  | zero => simp [mtx]
  | succ i ih =>
    unfold mtx
    rw [ih]
    split
    · simp
    · split <;> simp
set_option maxRecDepth 20000 in
set_option maxHeartbeats 1000000 in
theorem iFoldY (B R C n : Nat) (a : Option Addr) (cap : Nat) (zs : List Int) (v0 : Value) (w : World) (hx : zs.length = n) (h : Rd w a zs) (hn : n = R * C) (hR : R ≤ 24) (hC : C ≤ 24) (hv : Bys B w v0 []) (hz : ∀ b o : Nat, a = some ⟨b, o, none⟩ → 0 < n → b < B) (hr : I64 zs) (hB : B ≤ w.heap.size) (tb : Tab w) (ht : 1 < B) :
    Calls Tryz.prog 49 #[.agg #[.int .i64 R, .int .i64 C, .slice a n cap], v0, .func (.func 50) #[] #[]] w
      (fun e w' => ∃ v, e = .returned v ∧ Bys B w' v (mtx [] C zs n) ∧ FrS (fun k => B ≤ k) w w') := by
  have H := Lib.hid h
  have HZ := Lib.hid hz
  have HI := Lib.hid hr
  have HB := Lib.hid hB
  have HT := Lib.hid ht
  have TB := Lib.hid (tb.below ((Below.refl _ _).alloc (Nat.le_refl _) (.cells #[.int .i64 R, .int .i64 C, .slice a n cap] 26)))
  have hle : R * C ≤ 24 * 24 := Nat.mul_le_mul hR hC
  have HN := Lib.hid hx
  rw [← hn] at hle
  have HM := Lib.hid hn
  have V0 : Hid (Bys B (w.alloc (.cells #[.int .i64 R, .int .i64 C, .slice a n cap] 26)) v0 []) := hv.keep ((Below.refl _ _).alloc (Nat.le_refl _) _)
  have B0 : Hid (Below w.heap.size w (w.alloc (.cells #[.int .i64 R, .int .i64 C, .slice a n cap] 26))) := (Below.refl _ _).alloc (Nat.le_refl _) _
  have K0 : Hid (Blk3 (w.alloc (.cells #[.int .i64 R, .int .i64 C, .slice a n cap] 26)) w.heap.size 26 (.int .i64 R) (.int .i64 C) (.slice a n cap)) := Blk3.at_ _ _ _ _ rfl
  obtain ⟨a0, c0, rfl⟩ := hv.form
  clear h hz hx hn hv hr hB tb ht
  go_enter Tryz.func49, Tryz.ntmps49
  go_wp2_with fail
  go_loopw [7, 8, 9, 14] (fun v _ _ i wr => ∃ (k : Nat) (v' : Value), v' = v ∧ i = .int .i64 k ∧ k ≤ n ∧ Bys B wr v' (mtx [] C zs k) ∧ FrS (AtB B w.heap.size) (w.alloc (.cells #[.int .i64 R, .int .i64 C, .slice a n cap] 26)) wr) (fun _ _ _ i _ => n - (intOf i).toNat)
  case atStart => exact ⟨0, _, rfl, rfl, by omega, V0.out, FrS.refl _ _⟩
  case round =>
    clear V0
    obtain ⟨k, v, rfl, rfl, hk, hv, hf⟩ := hrel
    have V := Lib.hid hv
    have F := Lib.hid hf
    have KB : Hid (Blk3 wr w.heap.size 26 (.int .i64 R) (.int .i64 C) (.slice a n cap)) := K0.out.frs hf (fun h => h.2 rfl)
    have BW : Hid (Below B w wr) := (Below.mono B0.out HB.out).trans (hf.below (B := B) (fun k h => h.1) (by have := HB.out; simp; omega))
    have TW : Hid (Tab wr) := var?_below (hf.below (B := B) (fun k h => h.1) (by have := HB.out; simp; omega)) gTab HT.out TB.out
    obtain ⟨l, hl⟩ : ∃ l, mtx [] C zs k = l := ⟨_, rfl⟩
    have LN : Hid (l.length ≤ 1000000) := by
      have := mtx_len (t := []) (C := C) HI.out k
      rw [hl] at this
      exact Lib.hid (by simp only [List.length_nil] at this; omega)
    rw [hl] at V
    have LE := Lib.hid hl
    clear hv hf hl
    by_cases hlt : k < n
    · have hC0 : 0 < C := by
        rcases Nat.eq_zero_or_pos C with e | e
        · have := HM.out; rw [e, Nat.mul_zero] at this; omega
        · exact e
      have c0 : ((C : Int) == 0) = false := by simp; omega
      obtain ⟨b, o, rfl, hcell⟩ := H.out k (by rw [HN.out]; exact hlt)
      have hcell := (BW.out.cell (p := ⟨b, o + k, none⟩) (HZ.out b o rfl (by omega))).trans hcell
      have d1 : (k : Int) / (C : Int) = ((k / C : Nat) : Int) := (Int.natCast_ediv k C).symm
      have d2 : (k : Int) % (C : Int) = ((k % C : Nat) : Int) := (Int.natCast_emod k C).symm
      have d3 : k / C ≤ k := Nat.div_le_self k C
      have d4 : k % C ≤ k := Nat.mod_le k C
      have d5 : 0 ≤ (k : Int) / (C : Int) := by rw [d1]; exact Int.natCast_nonneg _
      have d6 : (k : Int) / (C : Int) ≤ 600 := by rw [d1]; exact Int.ofNat_le.mpr (show k / C ≤ 600 by omega)
      have c1 : ¬ C = 0 := by omega
      have w1 : IntKind.i64.wrap ((k : Int) / (C : Int)) = (k : Int) / (C : Int) := IntWalk.i64_in _ (by omega)
      have e2 : Int.tmod (k : Int) (C : Int) = (k : Int) % (C : Int) := Int.tmod_eq_emod_of_nonneg (by omega)
      have e3 : Int.tdiv (k : Int) (C : Int) = (k : Int) / (C : Int) := Int.tdiv_eq_ediv_of_nonneg (by omega)
      have DD := Lib.hid (And.intro d1 d2)
      clear d1 d2
      obtain ⟨z, hz⟩ : ∃ z, zs.getD k 0 = z := ⟨_, rfl⟩
      rw [hz] at hcell
      have Z := Lib.hid hz
      have ZI : Hid (-9223372036854775808 ≤ z ∧ z ≤ 9223372036854775807) := by rw [← hz]; exact Lib.hid (HI.out k)
      have NX : Hid (mtx [] C zs (k + 1) = l ++ gapT (k / C) (k % C) ++ itoa z) := by rw [← LE.out, ← hz]; exact Lib.hid (mtx_gap C zs k hC0)
      clear hz
      obtain ⟨r0, r1, r2, -, -, -⟩ := KB.out.all
      obtain ⟨va, vc, rfl⟩ := V.out.form
      go_wp2_with fail
      go_still_tail 11, (by kernel_rfl)
      go_wp2_with fail
      rw [DD.out.1, DD.out.2]
      refine (iFM1 B w.heap.size (k / C) (k % C) z l _ _ _ _ _ V.out.drew KB.out.drew (Nat.le_trans HB.out (by have := F.out.size; simp at this ⊢; omega)) LN.out ZI.out TW.out HT.out).mono ?_
      rintro e w2 ⟨v2, rfl, hv2, hf2⟩
      have V2 := Lib.hid hv2
      have F2 := Lib.hid (F.out.drew.trans hf2)
      clear hv2 hf2
      go_wp2_with fail
      go_roundw
      case rel => exact ⟨k + 1, _, rfl, by go_num, by omega, by rw [NX.out]; exact V2.out, F2.out⟩
      case measure => simp [intOf]; omega
    · obtain rfl : n = k := by omega
      obtain ⟨va, vc, rfl⟩ := V.out.form
      have FW : Hid (FrS (fun k => B ≤ k) w wr) := (FrS.of_below B0.out).trans (F.out.mono fun k h => h.1)
      go_wp2_with fail
      go_ret
      exact ⟨_, rfl, by rw [LE.out]; exact V.out, FW.out⟩
end Go.Proofs.YtcapddcmnjeloaaGreatDoor
end

section
/-
  Chapter 4, in the program: FormatMatrix.
-/
namespace Go.Proofs.YtcapddcmnjeloaaGreatDoor
open Go.RowKit
open Go.Lib (decDigits itoa nDigits)
theorem Bys.text {B : Nat} {w : World} {v : Value} {l : List UInt8} (h : Bys B w v l) : (convert 22 9 v).run Tryz.prog w = .ok (.string ⟨l.toArray⟩) w := by
  have h' := h
  obtain ⟨h1, ⟨h2, h3⟩ | ⟨g, cap, cur, e, hB, hg, rest⟩⟩ := h
  · obtain rfl : l = [] := List.eq_nil_of_length_eq_zero h3
    rw [h2]
    exact run_convert_bytes_nil w 22 5 underlying_bys underlying_by 0 0 9 underlying_str
  · rw [e]
    refine run_convert_bytes_back w 22 9 5 ⟨g, 0, none⟩ cap l underlying_bys underlying_by underlying_str (fun j hj => ?_)
    exact World.ownsRow.cells (g := g) h' (by rw [e]; rfl) j _ (by simp [Lib.strCells, hj])
theorem keepM {w0 W w' : World} {b B : Nat} {p q v : Value} {l : List UInt8} (h : W.cell? ⟨b, 0, none⟩ = some p ∧ W.cell? ⟨b, 1, none⟩ = some q ∧ Tab W ∧ Bys B W v l ∧ (convert 22 9 v).run Tryz.prog W = .ok (.string ⟨l.toArray⟩) W ∧ Below w0.heap.size w0 W) (hb : Below W.heap.size W w') :
    w'.cell? ⟨b, 0, none⟩ = some p ∧ w'.cell? ⟨b, 1, none⟩ = some q ∧ Tab w' ∧ Bys B w' v l ∧ (convert 22 9 v).run Tryz.prog w' = .ok (.string ⟨l.toArray⟩) w' ∧ Below w0.heap.size w0 w' :=
  ⟨(hb.cell (World.block_lt_of_cell? W _ h.1)).trans h.1, (hb.cell (World.block_lt_of_cell? W _ h.2.1)).trans h.2.1, h.2.2.1.below hb, h.2.2.2.1.keep hb, (h.2.2.2.1.keep hb).text, h.2.2.2.2.2.trans (hb.mono h.2.2.2.2.2.size)⟩
set_option maxHeartbeats 2000000 in
set_option maxRecDepth 20000 in
theorem iFormatMatrix_t (R C : Nat) (a : Option Addr) (cap : Nat) (xs : List Int) (w : World) (h : Rd w a xs) (hm : isMat R C xs = true) (tb : Tab w) :
    Calls Tryz.prog 16 #[.agg #[.int .i64 R, .int .i64 C, .slice a xs.length cap]] w (Gives (.string ⟨(matText R C xs).toArray⟩) w) := by
  obtain ⟨⟨r1, r2⟩, ⟨c1, c2⟩, l1, -⟩ := isMat_says hm
  have hn : xs.length ≤ 576 := by have := (mul_size R C ⟨r1, r2⟩ ⟨c1, c2⟩).2; omega
  rw [← Int.natCast_mul] at l1
  have L1 := Lib.hid (show xs.length = R * C from by omega)
  have ST := iIsMat R C a cap xs (w.alloc (.cells #[.int .i64 R, .int .i64 C, .slice a xs.length cap] 26)) (h.below ((Below.refl _ _).alloc (Nat.le_refl _) _)) (by omega)
  rw [hm] at ST
  have hr := Lib.hid (isMat_i64 hm)
  have H := Lib.hid h
  have TB := Lib.hid tb
  have RC := Lib.hid (show R ≤ 24 ∧ C ≤ 24 from ⟨by omega, by omega⟩)
  have SR : ∀ w1 : World, Tab w1 → Calls Tryz.prog 52 #[.int .i64 R] w1 (Gives (.string ⟨(itoa R).toArray⟩) w1) := fun w1 t1 => iFmt R w1 (by omega) (by omega) t1
  have SC : ∀ w1 : World, Tab w1 → Calls Tryz.prog 52 #[.int .i64 C] w1 (Gives (.string ⟨(itoa C).toArray⟩) w1) := fun w1 t1 => iFmt C w1 (by omega) (by omega) t1
  have lR := itoa_len R (by omega) (by omega)
  have lC := itoa_len C (by omega) (by omega)
  obtain ⟨bd, hbd⟩ : ∃ t, mtx [] C xs xs.length = t := ⟨_, rfl⟩
  have lB : bd.length ≤ 20000 := by
    have := mtx_len (t := []) (C := C) hr.out xs.length
    rw [hbd] at this
    simp only [List.length_nil] at this
    omega
  obtain ⟨qR, eR⟩ : ∃ q, itoa (R : Int) = q := ⟨_, rfl⟩
  obtain ⟨qC, eC⟩ : ∃ q, itoa (C : Int) = q := ⟨_, rfl⟩
  obtain ⟨mt, emt⟩ : ∃ q, matText R C xs = q := ⟨_, rfl⟩
  have MT : mt = qR ++ [120] ++ qC ++ [91] ++ bd ++ [93] := by
    rw [← emt, ← eR, ← eC, ← hbd]
    show mtx _ C xs xs.length ++ [93] = _
    rw [mtx_head]
  rw [emt]
  rw [eR] at SR lR
  rw [eC] at SC lC
  obtain ⟨t1, e1⟩ : ∃ q, qR ++ [120] = q := ⟨_, rfl⟩
  obtain ⟨t2, e2⟩ : ∃ q, t1 ++ qC = q := ⟨_, rfl⟩
  obtain ⟨t3, e3⟩ : ∃ q, t2 ++ [91] = q := ⟨_, rfl⟩
  obtain ⟨t4, e4⟩ : ∃ q, t3 ++ bd = q := ⟨_, rfl⟩
  have e5 : t4 ++ [93] = mt := by rw [MT, ← e4, ← e3, ← e2, ← e1]
  have k1 : t1.length ≤ 21 := by rw [← e1]; simp only [List.length_append, List.length_cons, List.length_nil]; omega
  have k2 : t2.length ≤ 41 := by rw [← e2]; simp only [List.length_append]; omega
  have k3 : t3.length ≤ 42 := by rw [← e3]; simp only [List.length_append, List.length_cons, List.length_nil]; omega
  have k4 : t4.length ≤ 20042 := by rw [← e4]; simp only [List.length_append]; omega
  have cat1 := cat_eq qR [120] t1 e1 (by simp only [List.length_cons, List.length_nil]; omega)
  have cat2 := cat_eq t1 qC t2 e2 (by omega)
  have cat3 := cat_eq t2 [91] t3 e3 (by simp only [List.length_cons, List.length_nil]; omega)
  have cat4 := cat_eq t3 bd t4 e4 (by omega)
  have cat5 := cat_eq t4 [93] mt e5 (by simp only [List.length_cons, List.length_nil]; omega)
  have SRH := Lib.hid SR
  have SCH := Lib.hid SC
  have BD := Lib.hid hbd
  clear l1 h eR eC e1 e2 e3 e4 e5 k1 k2 k3 k4 lR lC lB r1 r2 c1 c2 hn hm MT emt hbd SR SC tb
  go_enter Tryz.func16, Tryz.ntmps16
  go_wp2_with fail
  refine ST.mono ?_
  clear ST
  rintro e w1 ⟨rfl, hb⟩
  have K0 : Hid (Blk3 w1 w.heap.size 26 (.int .i64 R) (.int .i64 C) (.slice a xs.length cap)) := (Blk3.at_ _ _ _ _ rfl).keep hb (by simp)
  have B : Hid (Below w.heap.size w w1) := ((Below.refl _ _).alloc (Nat.le_refl _) _).trans (hb.mono (by simp))
  clear hb
  obtain ⟨m0, m1, m2, -, -, -⟩ := K0.out.all
  have FB := iFoldY w1.heap.size R C xs.length a cap xs (.slice (some ⟨w1.heap.size, 0, none⟩) 0 0) (w1.alloc (.cells #[] 5)) rfl ((H.out.below B.out).below ((Below.refl _ _).alloc (Nat.le_refl _) _)) L1.out RC.out.1 RC.out.2 (Bys.new w1 _ rfl)
    (fun b o e hx => by
      subst e
      obtain ⟨b', o', e', hc⟩ := H.out 0 hx
      injection e' with e'
      injection e' with e1 e2
      subst e1
      have h1 := World.block_lt_of_cell? w _ hc
      have h2 := B.out.size
      simp only at h1
      omega) hr.out (by simp) (TB.out.below (B.out.alloc B.out.size _)) (Nat.lt_of_lt_of_le TB.out.lt B.out.size)
  go_wp2_with fail
  refine FB.mono ?_
  clear FB
  rintro e w2 ⟨v, rfl, hv, hf⟩
  have B2 : Below w1.heap.size (w1.alloc (.cells #[] 5)) w2 := hf.below (B := w1.heap.size) (fun k h => h) (by simp)
  have B3 : Below w1.heap.size w1 w2 := ((Below.refl _ _).alloc (Nat.le_refl _) _).trans B2
  rw [BD.out] at hv
  have K2 := K0.out.keep B3 K0.out.lt
  have S0 := Lib.hid (And.intro K2.cell0 (And.intro K2.cell1 (And.intro (TB.out.below (B.out.trans (B3.mono B.out.size))) (And.intro hv (And.intro hv.text (B.out.trans (B3.mono B.out.size)))))))
  obtain ⟨va, vc, rfl⟩ := hv.form
  clear B2 B3 hf K2 hv
  go_wp2_with fail
  go_region_held3 (fun w' => w'.cell? ⟨w.heap.size, 0, none⟩ = some (.int .i64 R) ∧ w'.cell? ⟨w.heap.size, 1, none⟩ = some (.int .i64 C) ∧ Tab w' ∧ Bys w1.heap.size w' (.slice va bd.length vc) bd ∧ (convert 22 9 (.slice va bd.length vc)).run Tryz.prog w' = .ok (.string ⟨bd.toArray⟩) w' ∧ Below w.heap.size w w') (first | exact keepM S0.out (Below.refl _ _).drew | with_reducible exact keepM ‹_› ‹_›)
        (first
        | (go_at_call 52; (with_reducible refine (SRH.out _ (And.left (And.right (And.right ‹_›)))).mono ?_); rintro e w3 ⟨rfl, hb1⟩)
        | (go_at_call 52; (with_reducible refine (SCH.out _ (And.left (And.right (And.right ‹_›)))).mono ?_); rintro e w3 ⟨rfl, hb1⟩))
  all_goals
    go_wp2_with fail
    go_ret
    exact ⟨rfl, (And.right (And.right (And.right (And.right (And.right ‹_ ∧ _ ∧ Tab _ ∧ _ ∧ _ ∧ Below w.heap.size w _›)))))⟩
set_option maxHeartbeats 400000 in
theorem iFormatMatrix (r c : Int) (a : Option Addr) (cap : Nat) (xs : List Int) (w : World) (h : Rd w a xs) (hn : xs.length ≤ 16777216) (tb : Tab w) :
    Calls Tryz.prog 16 #[.agg #[.int .i64 r, .int .i64 c, .slice a xs.length cap]] w (Gives (.string ⟨(fmtM r c xs).toArray⟩) w) := by
  rcases Bool.eq_false_or_eq_true (isMat r c xs) with hm | hm
  · obtain ⟨⟨r1, r2⟩, ⟨c1, c2⟩, -, -⟩ := isMat_says hm
    obtain ⟨R, rfl⟩ := Int.eq_ofNat_of_zero_le r1
    obtain ⟨C, rfl⟩ := Int.eq_ofNat_of_zero_le c1
    have e : fmtM R C xs = matText R C xs := by unfold fmtM; rw [if_pos hm]; rfl
    rw [e]
    exact iFormatMatrix_t R C a cap xs w h hm tb
  · have e : fmtM r c xs = [] := by unfold fmtM; rw [if_neg (by rw [hm]; decide)]
    rw [e]
    clear e
    have ST := iIsMat r c a cap xs (w.alloc (.cells #[.int .i64 r, .int .i64 c, .slice a xs.length cap] 26)) (h.below ((Below.refl _ _).alloc (Nat.le_refl _) _)) hn
    rw [hm] at ST
    clear h hm tb
    go_enter Tryz.func16, Tryz.ntmps16
    go_wp2_with fail
    refine ST.mono ?_
    clear ST
    rintro e w1 ⟨rfl, hb⟩
    have B : Hid (Below w.heap.size w w1) := ((Below.refl _ _).alloc (Nat.le_refl _) _).trans (hb.mono (by simp))
    clear hb
    go_wp2_with fail
    go_ret
    exact ⟨rfl, B.out⟩
end Go.Proofs.YtcapddcmnjeloaaGreatDoor
end

section
/-
  Chapter 4, in the model: FormatRatio.
-/
namespace Go.Proofs.YtcapddcmnjeloaaGreatDoor
open Go.RowKit
open Go.Lib (decDigits itoa nDigits)
def ratText (n d : Int) : List UInt8 := if isRat n d = true then (if d = 1 then itoa n else itoa n ++ [47] ++ itoa d) else [110, 111, 110, 101]
theorem new_cell2 (w : World) (cs : Array Value) (t : TypeId) (i : Nat) (v : Value) (h : cs[i]? = some v := by rfl) : (w.alloc (.cells cs t)).cell? ⟨w.heap.size, i, none⟩ = some v := by
  have e := heap_alloc_new w (.cells cs t)
  unfold World.cell?
  simp only [e]
  exact h
end Go.Proofs.YtcapddcmnjeloaaGreatDoor
end

section
/-
  Chapter 4, in the program: FormatRatio.
-/
namespace Go.Proofs.YtcapddcmnjeloaaGreatDoor
open Go.RowKit
open Go.Lib (decDigits itoa nDigits)
theorem keepF {w0 W w' : World} {b : Nat} {p q : Value} (h : W.cell? ⟨b, 0, none⟩ = some p ∧ W.cell? ⟨b, 1, none⟩ = some q ∧ Tab W ∧ Below w0.heap.size w0 W) (hb : Below W.heap.size W w') :
    w'.cell? ⟨b, 0, none⟩ = some p ∧ w'.cell? ⟨b, 1, none⟩ = some q ∧ Tab w' ∧ Below w0.heap.size w0 w' :=
  ⟨(hb.cell (World.block_lt_of_cell? W _ h.1)).trans h.1, (hb.cell (World.block_lt_of_cell? W _ h.2.1)).trans h.2.1, h.2.2.1.below hb, h.2.2.2.trans (hb.mono h.2.2.2.size)⟩
set_option maxHeartbeats 1000000 in
theorem iFormatRatio (n d : Int) (w : World) (tb : Tab w) : Calls Tryz.prog 21 #[.agg #[.int .i64 n, .int .i64 d]] w (Gives (.string ⟨(ratText n d).toArray⟩) w) := by
  have TB := Lib.hid tb
  clear tb
  have ST := iIsRat n d (w.alloc (.cells #[.int .i64 n, .int .i64 d] 40))
  rcases Bool.eq_false_or_eq_true (isRat n d) with hm | hm
  · obtain ⟨d1, d2, n1, n2, -⟩ : IsRatP n d := of_decide_eq_true hm
    have SN : ∀ w1 : World, Tab w1 → Calls Tryz.prog 52 #[.int .i64 n] w1 (Gives (.string ⟨(itoa n).toArray⟩) w1) := fun w1 t1 => iFmt n w1 (by omega) (by omega) t1
    have SD : ∀ w1 : World, Tab w1 → Calls Tryz.prog 52 #[.int .i64 d] w1 (Gives (.string ⟨(itoa d).toArray⟩) w1) := fun w1 t1 => iFmt d w1 (by omega) (by omega) t1
    have lN := itoa_len n (by omega) (by omega)
    have lD := itoa_len d (by omega) (by omega)
    obtain ⟨t, et⟩ : ∃ t, ratText n d = t := ⟨_, rfl⟩
    obtain ⟨qn, en⟩ : ∃ q, itoa n = q := ⟨_, rfl⟩
    obtain ⟨qd, ed⟩ : ∃ q, itoa d = q := ⟨_, rfl⟩
    have T : Hid (t = if d = 1 then qn else qn ++ [47] ++ qd) := by
      show t = _
      rw [← et, ← en, ← ed]; unfold ratText; rw [if_pos hm]
    rw [et]
    rw [en] at SN lN
    rw [ed] at SD lD
    rw [hm] at ST
    clear et en ed hm
    have SNH := Lib.hid SN
    have SDH := Lib.hid SD
    clear SN SD
    by_cases h1 : d = 1
    · have hd : (d == 1) = true := by simp [h1]
      have E : Hid (t = qn) := Lib.hid (by rw [T.out, if_pos h1])
      clear h1
      go_enter Tryz.func21, Tryz.ntmps21
      go_wp2_with fail
      refine ST.mono ?_
      clear ST
      rintro e w1 ⟨rfl, hb⟩
      have B : Hid (Below w.heap.size w w1) := ((Below.refl _ _).alloc (Nat.le_refl _) _).trans (hb.mono (by simp))
      have e0 : w1.cell? ⟨w.heap.size, 0, none⟩ = some (.int .i64 n) := (hb.cell (p := ⟨w.heap.size, 0, none⟩) (by simp)).trans (new_cell2 _ _ _ _ _ rfl)
      have e1 : w1.cell? ⟨w.heap.size, 1, none⟩ = some (.int .i64 d) := (hb.cell (p := ⟨w.heap.size, 1, none⟩) (by simp)).trans (new_cell2 _ _ _ _ _ rfl)
      clear hb
      go_wp2_with fail
      refine (SNH.out _ (TB.out.below B.out)).mono ?_
      rintro e w2 ⟨rfl, hb⟩
      have B2 : Hid (Below w.heap.size w w2) := B.out.trans (hb.mono B.out.size)
      clear hb
      go_wp2_with fail
      go_ret
      exact ⟨by rw [E.out]; rfl, B2.out⟩
    · have hd : (d == 1) = false := by simp [h1]
      obtain ⟨t2, e2⟩ : ∃ q, qn ++ [47] = q := ⟨_, rfl⟩
      have cat1 := cat_eq qn [47] t2 e2 (by simp only [List.length_cons, List.length_nil]; omega)
      have l2 : t2.length ≤ 21 := by rw [← e2]; simp only [List.length_append, List.length_cons, List.length_nil]; omega
      have cat2 := cat_eq t2 qd t (by rw [T.out, if_neg h1, e2]) (by omega)
      clear e2 l2 lN lD h1
      go_enter Tryz.func21, Tryz.ntmps21
      go_wp2_with fail
      refine ST.mono ?_
      clear ST
      rintro e w1 ⟨rfl, hb⟩
      have B : Below w.heap.size w w1 := ((Below.refl _ _).alloc (Nat.le_refl _) _).trans (hb.mono (by simp))
      have e0 : w1.cell? ⟨w.heap.size, 0, none⟩ = some (.int .i64 n) := (hb.cell (p := ⟨w.heap.size, 0, none⟩) (by simp)).trans (new_cell2 _ _ _ _ _ rfl)
      have e1 : w1.cell? ⟨w.heap.size, 1, none⟩ = some (.int .i64 d) := (hb.cell (p := ⟨w.heap.size, 1, none⟩) (by simp)).trans (new_cell2 _ _ _ _ _ rfl)
      have hS := Lib.hid (And.intro e0 (And.intro e1 (And.intro (TB.out.below B) B)))
      clear hb B
      go_wp2_with fail
      go_region_held3 (fun w' => w'.cell? ⟨w.heap.size, 0, none⟩ = some (.int .i64 n) ∧ w'.cell? ⟨w.heap.size, 1, none⟩ = some (.int .i64 d) ∧ Tab w' ∧ Below w.heap.size w w') (first | exact keepF hS.out (Below.refl _ _).drew | with_reducible exact keepF ‹_› ‹_›)
        (first
        | (go_at_call 52; (with_reducible refine (SNH.out _ (And.left (And.right (And.right ‹_›)))).mono ?_); rintro e w1 ⟨rfl, hb1⟩)
        | (go_at_call 52; (with_reducible refine (SDH.out _ (And.left (And.right (And.right ‹_›)))).mono ?_); rintro e w1 ⟨rfl, hb1⟩))
      all_goals
        go_wp2_with fail
        go_ret
        exact ⟨rfl, (And.right (And.right (And.right ‹_ ∧ _ ∧ Tab _ ∧ Below w.heap.size w _›)))⟩
  · have E : Hid (ratText n d = [110, 111, 110, 101]) := Lib.hid (by unfold ratText; rw [if_neg (by rw [hm]; decide)])
    rw [hm] at ST
    clear hm
    rw [E.out]
    go_enter Tryz.func21, Tryz.ntmps21
    go_wp2_with fail
    refine ST.mono ?_
    clear ST
    rintro e w1 ⟨rfl, hb⟩
    have B : Hid (Below w.heap.size w w1) := ((Below.refl _ _).alloc (Nat.le_refl _) _).trans (hb.mono (by simp))
    clear hb
    go_wp2_with fail
    go_ret
    exact ⟨rfl, B.out⟩
end Go.Proofs.YtcapddcmnjeloaaGreatDoor
end

section
/-
  Chapter 1, in the program: ParseInt reads the numerals of numbers, and nothing else.
-/
namespace Go.Proofs.YtcapddcmnjeloaaGreatDoor
open Go.RowKit
open Go.Lib (decDigits itoa nDigits)
theorem dig_t (c : Int) (w : World) (h1 : 48 ≤ c) (h2 : c ≤ 57) :
    Calls Tryz.prog 195 #[.int .i32 c] w fun e w' => e = .returned (.tuple #[.int .i64 (c - 48), .bool true]) ∧ w = w' := by
  go_enter Tryz.func195, Tryz.ntmps195
  go_wp2
  go_ret2
  exact ⟨rfl, rfl⟩
theorem dig_f (c : Int) (w : World) (h : ¬ (48 ≤ c ∧ c ≤ 57)) :
    Calls Tryz.prog 195 #[.int .i32 c] w fun e w' => e = .returned (.tuple #[.int .i64 0, .bool false]) ∧ w = w' := by
  by_cases h1 : c < 48
  · clear h
    go_enter Tryz.func195, Tryz.ntmps195
    go_wp2
    go_ret2
    exact ⟨rfl, rfl⟩
  · have h2 : 57 < c := by omega
    have h3 : decide (c < 48) = false := by simpa using h1
    clear h h1
    go_enter Tryz.func195, Tryz.ntmps195
    go_wp2
    go_ret2
    exact ⟨rfl, rfl⟩
def PD (w : World) (e : Ending) (w' : World) : Prop :=
  (e = .returned (.tuple #[.int .i64 0, .bool false]) ∨ ∃ m : Nat, m ≤ 400000000 ∧ e = .returned (.tuple #[.int .i64 m, .bool true])) ∧ Below w.heap.size w w'
theorem below_iter (w : World) (s : ByteArray) (pos : Nat) : Below w.heap.size w (w.iter s pos) := (Below.refl _ _).alloc (Nat.le_refl _) _
theorem width_pos (s : ByteArray) (pos : Nat) (h : pos < s.size) : 1 ≤ (Utf8.decode s pos).2 := by
  by_cases ha : (s[pos]'h).toNat < 128
  · rw [decode_ascii s pos h ha]
    exact Nat.le_refl _
  · exact (decode_high s pos h (by omega)).2
set_option maxHeartbeats 400000 in
theorem pd_any (s : ByteArray) (w : World) : Calls Tryz.prog 177 #[.string s] w (PD w) := by
  go_enter Tryz.func177, Tryz.ntmps177
  go_wp2_with fail
  go_loopw [4] (fun n w' => ∃ (pos q : Nat), w' = w.iter s pos ∧ n = .int .i64 q ∧ q ≤ 400000000) (fun _ w' => s.size - w'.iterPos w.heap.size)
  case atStart => exact ⟨0, 0, rfl, rfl, by omega⟩
  case round =>
    obtain ⟨pos, q, rfl, rfl, hq⟩ := hrel
    have hq0 : (q : Int) ≤ 400000000 := by omega
    have HQ := Lib.hid hq
    clear hq
    by_cases hp : pos < s.size
    · obtain ⟨c, hc⟩ : ∃ c, (Utf8.decode s pos).1 = c := ⟨_, rfl⟩
      obtain ⟨d, hd⟩ : ∃ d, (Utf8.decode s pos).2 = d := ⟨_, rfl⟩
      have hnx : ∀ ty, (Instr.next (.pointer (some ⟨w.heap.size, 0, none⟩)) true ty).run Tryz.prog (w.iter s pos) = .ok (.tuple #[.bool true, .int .i64 pos, .int .i32 c]) (w.iter s (pos + d)) := fun ty => by
        have e := run_next_any (P := Tryz.prog) w s pos ty hp
        rw [hc, hd] at e
        exact e
      have W := Lib.hid (width_pos s pos hp)
      have HD := Lib.hid hd
      have HP := Lib.hid hp
      clear hc hd hp
      by_cases h : 48 ≤ (c : Int) ∧ (c : Int) ≤ 57
      · obtain ⟨g1, g2⟩ := h
        by_cases hn : 10 * (q : Int) + ((c : Int) - 48) ≤ 400000000
        · go_wp2_with (first | (go_at_call 195; refine (dig_t _ _ g1 g2).mono ?_; rintro e w' ⟨rfl, rfl⟩) | (go_at_call 90; refine (iIsNum_t _ _ (by omega) (by omega)).mono ?_; rintro e w' ⟨rfl, rfl⟩))
          go_roundw
          case rel =>
            obtain ⟨m, hm⟩ : ∃ m : Nat, 10 * (q : Int) + ((c : Int) - 48) = m := Int.eq_ofNat_of_zero_le (by omega)
            exact ⟨pos + d, m, rfl, by rw [hm], by omega⟩
          case measure =>
            have := W.out
            have := HD.out
            have := HP.out
            simp
            omega
        · go_wp2_with (first | (go_at_call 195; refine (dig_t _ _ g1 g2).mono ?_; rintro e w' ⟨rfl, rfl⟩) | (go_at_call 90; refine (iIsNum_f _ _ (by omega)).mono ?_; rintro e w' ⟨rfl, rfl⟩))
          go_ret2
          exact ⟨.inl rfl, below_iter _ _ _⟩
      · go_wp2_with (go_at_call 195; refine (dig_f _ _ h).mono ?_; rintro e w' ⟨rfl, rfl⟩)
        go_ret2
        exact ⟨.inl rfl, below_iter _ _ _⟩
    · have hnx : ∀ ty, (Instr.next (.pointer (some ⟨w.heap.size, 0, none⟩)) true ty).run Tryz.prog (w.iter s pos) = _ := fun ty => run_next_end w s pos ty hp
      clear hp
      go_wp2_with fail
      go_ret2
      exact ⟨.inr ⟨q, HQ.out, rfl⟩, below_iter _ _ _⟩
set_option maxHeartbeats 400000 in
theorem pd_yes (s : ByteArray) (m : Nat) (hm : m ≤ 400000000) (hs : s.data.toList = decDigits m) (w : World) :
    Calls Tryz.prog 177 #[.string s] w fun e w' => e = .returned (.tuple #[.int .i64 m, .bool true]) ∧ Below w.heap.size w w' := by
  have hsz : s.size = (decDigits m).length := by rw [← hs]; exact Array.length_toList.symm
  have S := Lib.hid hs
  have Z := Lib.hid hsz
  clear hs hsz
  go_enter Tryz.func177, Tryz.ntmps177
  go_wp2_with fail
  go_loopw [4] (fun n w' => ∃ k : Nat, w' = w.iter s k ∧ n = .int .i64 (valOf ((decDigits m).take k)) ∧ k ≤ s.size) (fun _ w' => s.size - w'.iterPos w.heap.size)
  case atStart => exact ⟨0, rfl, rfl, by omega⟩
  case round =>
    obtain ⟨k, rfl, rfl, hk⟩ := hrel
    have q1 := valOf_take_le (decDigits m) k
    rw [valOf_dec] at q1
    by_cases hp : k < s.size
    · have hl : k < (decDigits m).length := by rw [← Z.out]; exact hp
      have hx := dec_digit m _ (List.getElem_mem hl)
      have st := valOf_take (decDigits m) k hl
      have q2 := valOf_take_le (decDigits m) (k + 1)
      rw [valOf_dec] at q2
      have hb : (s[k]'hp).toNat = (decDigits m)[k].toNat := by
        have : s[k]'hp = s.data.toList[k]'(by rw [Array.length_toList]; exact hp) := rfl
        rw [this]
        congr 1
        simp only [S.out]
      have hnx0 := fun ty => run_next_ascii (P := Tryz.prog) w s k ty hp (by omega)
      rw [hb] at hnx0
      generalize (decDigits m)[k].toNat = x at *
      generalize valOf ((decDigits m).take k) = q at *
      have x1 : (48 : Int) ≤ x := by omega
      have x2 : (x : Int) ≤ 57 := by omega
      have n1 : 10 * (q : Int) + ((x : Int) - 48) ≤ 400000000 := by omega
      have ST := Lib.hid st
      have HX := Lib.hid hx
      have HP := Lib.hid hp
      clear st hx hp hb q2 hk hl
      go_wp2_with (first | (go_at_call 195; refine (dig_t _ _ x1 x2).mono ?_; rintro e w' ⟨rfl, rfl⟩) | (go_at_call 90; refine (iIsNum_t _ _ (by omega) (by omega)).mono ?_; rintro e w' ⟨rfl, rfl⟩))
      go_roundw
      case rel =>
        have := ST.out
        have := HX.out
        exact ⟨k + 1, rfl, by congr 1; omega, HP.out⟩
      case measure =>
        have := HP.out
        simp
        omega
    · have hnx : ∀ ty, (Instr.next (.pointer (some ⟨w.heap.size, 0, none⟩)) true ty).run Tryz.prog (w.iter s k) = _ := fun ty => run_next_end w s k ty hp
      have hk' : (decDigits m).take k = decDigits m := List.take_of_length_le (by rw [← Z.out]; omega)
      rw [hk', valOf_dec]
      clear hp hk'
      go_wp2_with fail
      go_ret2
      exact ⟨rfl, below_iter _ _ _⟩
theorem text_ne {l : List UInt8} {s : ByteArray} (h : s.data.toList ≠ l) : (l == s.toList) = false := by
  rw [ByteArray.toList_eq, beq_eq_false_iff_ne]
  exact fun e => h e.symm
theorem text_eq {l : List UInt8} {s : ByteArray} (h : s.data.toList = l) : (l == s.toList) = true := by
  rw [ByteArray.toList_eq, beq_iff_eq]
  exact h.symm
set_option maxHeartbeats 400000 in
theorem iParse_no (s : ByteArray) (h : ∀ v : Int, -400000000 ≤ v → v ≤ 400000000 → s.data.toList ≠ itoa v) (w : World) (ht : Tab w) :
    Calls Tryz.prog 147 #[.string s] w fun e w' => e = .returned (.tuple #[.int .i64 0, .bool false]) ∧ Below w.heap.size w w' := by
  have H := Lib.hid h
  have T := Lib.hid ht
  clear h ht
  go_enter Tryz.func147, Tryz.ntmps147
  go_wp2_with fail
  refine (Tryz.strings_CutPrefix _ _ _).mono ?_
  rintro e w' ⟨rfl, rfl⟩
  generalize Lib.trimPrefix _ _ = t
  generalize Lib.hasPrefix _ _ = b
  go_wp2_with fail
  refine (pd_any _ _).mono ?_
  rintro e w1 ⟨he, hb⟩
  have B := Lib.hid hb
  clear hb
  rcases he with rfl | ⟨m, hm, rfl⟩
  · cases b with
    | true =>
      go_wp2_with fail
      go_ret2
      exact ⟨rfl, B.out⟩
    | false =>
      go_wp2_with fail
      go_ret2
      exact ⟨rfl, B.out⟩
  · have T1 := Lib.hid (T.out.below B.out)
    have hm' : (m : Int) ≤ 400000000 := by omega
    cases b with
    | true =>
      go_wp2_with fail
      refine (iFmt _ _ (by omega) (by omega) T1.out).mono ?_
      rintro e w2 ⟨rfl, hb2⟩
      have B2 := Lib.hid (B.out.trans (hb2.mono B.out.size))
      have hne := text_ne (H.out (-(m : Int)) (by omega) (by omega))
      clear hb2
      go_wp2_with fail
      go_ret2
      exact ⟨rfl, B2.out⟩
    | false =>
      go_wp2_with fail
      refine (iFmt _ _ (by omega) (by omega) T1.out).mono ?_
      rintro e w2 ⟨rfl, hb2⟩
      have B2 := Lib.hid (B.out.trans (hb2.mono B.out.size))
      have hne := text_ne (H.out (m : Int) (by omega) (by omega))
      clear hb2
      go_wp2_with fail
      go_ret2
      exact ⟨rfl, B2.out⟩
theorem cut_pos (u : Nat) : Lib.trimPrefix (decDigits u) [45] = decDigits u ∧ Lib.hasPrefix (decDigits u) [45] = false := by
  have h : Lib.hasPrefix (decDigits u) [45] = false := by
    have hh := head_dec u
    unfold Lib.hasPrefix
    cases hd : decDigits u with
    | nil => rfl
    | cons c r =>
      rw [hd] at hh
      simp only [List.head?_cons, ne_eq, Option.some.injEq] at hh
      simp only [List.isPrefixOf, Bool.and_true, beq_eq_false_iff_ne]
      exact fun e => hh e.symm
  exact ⟨by unfold Lib.trimPrefix; rw [h]; rfl, h⟩
theorem cut_neg (u : Nat) : Lib.trimPrefix (45 :: decDigits u) [45] = decDigits u ∧ Lib.hasPrefix (45 :: decDigits u) [45] = true := by
  have h : Lib.hasPrefix (45 :: decDigits u) [45] = true := by
    unfold Lib.hasPrefix
    simp [List.isPrefixOf]
  exact ⟨by unfold Lib.trimPrefix; rw [h]; rfl, h⟩
set_option maxHeartbeats 400000 in
theorem iParse_yes (s : ByteArray) (v : Int) (h1 : -400000000 ≤ v) (h2 : v ≤ 400000000) (hs : s.data.toList = itoa v) (w : World) (ht : Tab w) :
    Calls Tryz.prog 147 #[.string s] w fun e w' => e = .returned (.tuple #[.int .i64 v, .bool true]) ∧ Below w.heap.size w w' := by
  have hq := text_eq hs
  have S := Lib.hid hs
  have T := Lib.hid ht
  have Q := Lib.hid hq
  clear hs ht hq
  by_cases hv : v < 0
  · obtain ⟨m, rfl⟩ : ∃ m : Nat, v = -(m : Int) := ⟨v.natAbs, by omega⟩
    have hm : (m : Int) ≤ 400000000 := by omega
    have e : s.data.toList = 45 :: decDigits m := by rw [S.out, Lib.itoa_neg m (by omega)]
    have E := Lib.hid e
    clear e
    go_enter Tryz.func147, Tryz.ntmps147
    go_wp2_with fail
    refine (Tryz.strings_CutPrefix _ _ _).mono ?_
    rintro e w' ⟨rfl, rfl⟩
    rw [E.out]
    rw [show (ByteArray.mk #[45]).data.toList = [45] from rfl, (cut_neg m).1, (cut_neg m).2]
    go_wp2_with fail
    refine (pd_yes _ m (by omega) (by simp) _).mono ?_
    rintro e w1 ⟨rfl, hb⟩
    have B := Lib.hid hb
    have T1 := Lib.hid (T.out.below hb)
    clear hb
    go_wp2_with fail
    refine (iFmt _ _ (by omega) (by omega) T1.out).mono ?_
    rintro e w2 ⟨rfl, hb2⟩
    have B2 := Lib.hid (B.out.trans (hb2.mono B.out.size))
    have hq := Q.out
    clear hb2
    go_wp2_with fail
    go_ret2
    exact ⟨rfl, B2.out⟩
  · obtain ⟨m, rfl⟩ := Int.eq_ofNat_of_zero_le (show 0 ≤ v by omega)
    have e : s.data.toList = decDigits m := by rw [S.out, Lib.itoa_nonneg]
    have E := Lib.hid e
    clear e
    go_enter Tryz.func147, Tryz.ntmps147
    go_wp2_with fail
    refine (Tryz.strings_CutPrefix _ _ _).mono ?_
    rintro e w' ⟨rfl, rfl⟩
    rw [E.out]
    rw [show (ByteArray.mk #[45]).data.toList = [45] from rfl, (cut_pos m).1, (cut_pos m).2]
    go_wp2_with fail
    refine (pd_yes _ m (by omega) (by simp) _).mono ?_
    rintro e w1 ⟨rfl, hb⟩
    have B := Lib.hid hb
    have T1 := Lib.hid (T.out.below hb)
    clear hb
    go_wp2_with fail
    refine (iFmt _ _ (by omega) (by omega) T1.out).mono ?_
    rintro e w2 ⟨rfl, hb2⟩
    have B2 := Lib.hid (B.out.trans (hb2.mono B.out.size))
    have hq := Q.out
    clear hb2
    go_wp2_with fail
    go_ret2
    exact ⟨rfl, B2.out⟩
end Go.Proofs.YtcapddcmnjeloaaGreatDoor
end

section
/-
  Chapter 1, in the model: ParseInt reads the numerals of numbers, and nothing else.
-/
namespace Go.Proofs.YtcapddcmnjeloaaGreatDoor
open Go.RowKit
open Go.Lib (decDigits itoa nDigits)
end Go.Proofs.YtcapddcmnjeloaaGreatDoor
end

section
/-
  Chapter 4's mathematics: a text cut at marks. No function of the program is named.
-/
namespace Go.Proofs.YtcapddcmnjeloaaGreatDoor
open Go.RowKit
def spStep (ms : List UInt8) (st : List (List UInt8) × List UInt8) (b : UInt8) : List (List UInt8) × List UInt8 :=
  if ms.contains b = true then (st.1 ++ [st.2], []) else (st.1, st.2 ++ [b])
def spl (ms s : List UInt8) (i : Nat) : List (List UInt8) × List UInt8 := (s.take i).foldl (spStep ms) ([], [])
def split (ms s : List UInt8) : List (List UInt8) := (spl ms s s.length).1 ++ [(spl ms s s.length).2]
end Go.Proofs.YtcapddcmnjeloaaGreatDoor
end

section
/-
  Chapter 4, in the model: a text cut at marks.
-/
namespace Go.Proofs.YtcapddcmnjeloaaGreatDoor
open Go.RowKit
end Go.Proofs.YtcapddcmnjeloaaGreatDoor
end

section
/-
  Chapter 4: what a text says as a number (the model's ParseInt as one function); the pieces of a text as cells.
-/
namespace Go.Proofs.YtcapddcmnjeloaaGreatDoor
open Go.RowKit
open Go.Lib (decDigits itoa nDigits)
def IsNumT (l : List UInt8) : Prop := ∃ v : Int, (-400000000 ≤ v ∧ v ≤ 400000000) ∧ l = itoa v
open Classical in
noncomputable def numT (l : List UInt8) : Int × Bool := if h : IsNumT l then (Classical.choose h, true) else (0, false)
theorem numT_yes {l : List UInt8} (h : IsNumT l) : (-400000000 ≤ (numT l).1 ∧ (numT l).1 ≤ 400000000) ∧ l = itoa (numT l).1 ∧ (numT l).2 = true := by
  have e : numT l = (Classical.choose h, true) := dif_pos h
  have := Classical.choose_spec h
  rw [e]
  exact ⟨this.1, this.2, rfl⟩
theorem numT_no {l : List UInt8} (h : ¬ IsNumT l) : numT l = (0, false) := dif_neg h
end Go.Proofs.YtcapddcmnjeloaaGreatDoor
end

section
/-
  Chapter 4, in the model: ParseRatio.
-/
namespace Go.Proofs.YtcapddcmnjeloaaGreatDoor
open Go.RowKit
open Go.Lib (decDigits itoa nDigits)
noncomputable def denT (ls : List (List UInt8)) : Int := if 1 < ls.length then (numT (ls.getD 1 [])).1 else 1
noncomputable def ratT (s : List UInt8) : Int × Int := mkRat (numT ((split [47] s).getD 0 [])).1 (denT (split [47] s))
noncomputable def parR (s : List UInt8) : (Int × Int) × Bool := if isRat (ratT s).1 (ratT s).2 = true ∧ ratText (ratT s).1 (ratT s).2 = s then (ratT s, true) else ((0, 0), false)
def parV (x : (Int × Int) × Bool) : Value := .tuple #[ratV x.1, .bool x.2]
end Go.Proofs.YtcapddcmnjeloaaGreatDoor
end

section
/-
  Chapter 4, in the model: ParseMatrix.
-/
namespace Go.Proofs.YtcapddcmnjeloaaGreatDoor
open Go.RowKit
open Go.Lib (decDigits itoa nDigits)
noncomputable def cellsT (ls : List (List UInt8)) : Nat → List Int
  | 0 => []
  | k + 1 => if (numT (ls.getD (k + 2) [])).2 = true then cellsT ls k ++ [(numT (ls.getD (k + 2) [])).1] else cellsT ls k
def pcsM (s : List UInt8) : List (List UInt8) := split [120, 91, 93, 59, 32] s
noncomputable def rowsT (s : List UInt8) : Int := (numT ((pcsM s).getD 0 [])).1
noncomputable def colsT (s : List UInt8) : Int := (numT ((pcsM s).getD 1 [])).1
noncomputable def allT (s : List UInt8) : List Int := cellsT (pcsM s) ((pcsM s).length - 3)
def SaysM (s : List UInt8) : Prop := 4 ≤ (pcsM s).length ∧ s.length ≤ 8000 ∧ fmtM (rowsT s) (colsT s) (allT s) = s
open Classical in
noncomputable def parM (s : List UInt8) : MR := if SaysM s then ⟨true, rowsT s, colsT s, allT s⟩ else MR.no
theorem parM_yes {s : List UInt8} (h : SaysM s) : parM s = ⟨true, rowsT s, colsT s, allT s⟩ := if_pos h
theorem parM_no {s : List UInt8} (h : ¬ SaysM s) : parM s = MR.no := if_neg h
end Go.Proofs.YtcapddcmnjeloaaGreatDoor
end

section
/-
  Chapter 4's mathematics: ratios and matrices are read back from their texts, and nothing else is read.
-/
namespace Go.Proofs.YtcapddcmnjeloaaGreatDoor
open Go.RowKit
open Go.Lib (decDigits itoa nDigits)
theorem itoa_byte (n : Int) : ∀ c ∈ itoa n, c.toNat = 45 ∨ (48 ≤ c.toNat ∧ c.toNat ≤ 57) := by
  intro c hc
  rcases Int.lt_or_le n 0 with h | h
  · obtain ⟨m, rfl⟩ : ∃ m : Nat, n = -(m : Int) := ⟨n.natAbs, by omega⟩
    rw [Lib.itoa_neg m (by omega)] at hc
    rcases List.mem_cons.mp hc with rfl | hc
    · exact .inl rfl
    · exact .inr (dec_digit m c hc)
  · obtain ⟨m, rfl⟩ := Int.eq_ofNat_of_zero_le h
    rw [Lib.itoa_nonneg] at hc
    exact .inr (dec_digit m c hc)
theorem numT_itoa (v : Int) (h : -400000000 ≤ v ∧ v ≤ 400000000) : numT (itoa v) = (v, true) := by
  have := numT_yes (l := itoa v) ⟨v, h, rfl⟩
  exact Prod.ext (itoa_inj _ _ this.2.1).symm this.2.2
theorem itoa_ne_nil (v : Int) : itoa v ≠ [] := by
  rcases Int.lt_or_le v 0 with h | h
  · obtain ⟨m, rfl⟩ : ∃ m : Nat, v = -(m : Int) := ⟨v.natAbs, by omega⟩
    rw [Lib.itoa_neg m (by omega)]; exact List.cons_ne_nil _ _
  · obtain ⟨m, rfl⟩ := Int.eq_ofNat_of_zero_le h
    rw [Lib.itoa_nonneg]; exact dec_ne m
theorem numT_nil : numT [] = (0, false) := numT_no fun ⟨v, _, h⟩ => itoa_ne_nil v h.symm
theorem itoa_len10 (n : Int) (h0 : -400000000 ≤ n) (h1 : n ≤ 400000000) : (itoa n).length ≤ 10 := by
  rcases Int.lt_or_le n 0 with h | h
  · obtain ⟨m, rfl⟩ : ∃ m : Nat, n = -(m : Int) := ⟨n.natAbs, by omega⟩
    rw [Lib.itoa_neg m (by omega), List.length_cons, dec_len]
    have := nDigits_le 8 m (by omega)
    omega
  · obtain ⟨m, rfl⟩ := Int.eq_ofNat_of_zero_le h
    rw [Lib.itoa_nonneg, dec_len]
    have := nDigits_le 8 m (by omega)
    omega
theorem fold_plain (ms t : List UInt8) (ht : ∀ c ∈ t, ms.contains c = false) (o : List (List UInt8)) (c : List UInt8) : t.foldl (spStep ms) (o, c) = (o, c ++ t) := by
  induction t generalizing c with
  | nil => simp
  | cons b t ih =>
    rw [List.foldl_cons]
    have e : spStep ms (o, c) b = (o, c ++ [b]) := by unfold spStep; rw [if_neg (by rw [ht b (by simp)]; decide)]
    rw [e, ih (fun x hx => ht x (by simp [hx]))]
    simp
theorem fold_mark (ms : List UInt8) (m : UInt8) (hm : ms.contains m = true) (t : List UInt8) (o : List (List UInt8)) (c : List UInt8) : (m :: t).foldl (spStep ms) (o, c) = t.foldl (spStep ms) (o ++ [c], []) := by
  rw [List.foldl_cons]
  have e : spStep ms (o, c) m = (o ++ [c], []) := by unfold spStep; rw [if_pos hm]
  rw [e]
theorem split_fold (ms s : List UInt8) : split ms s = (s.foldl (spStep ms) ([], [])).1 ++ [(s.foldl (spStep ms) ([], [])).2] := by
  unfold split spl
  rw [List.take_length]
theorem plain_slash (n : Int) : ∀ c ∈ itoa n, ([47] : List UInt8).contains c = false := by
  intro c hc
  have := itoa_byte n c hc
  rw [List.contains_eq_any_beq]
  simp only [List.any_cons, List.any_nil, Bool.or_false, beq_eq_false_iff_ne]
  rintro rfl
  revert this; decide
theorem plain_mat (n : Int) : ∀ c ∈ itoa n, ([120, 91, 93, 59, 32] : List UInt8).contains c = false := by
  intro c hc
  have := itoa_byte n c hc
  rw [List.contains_eq_any_beq]
  simp only [List.any_cons, List.any_nil, Bool.or_false, Bool.or_eq_false_iff, beq_eq_false_iff_ne]
  refine ⟨?_, ?_, ?_, ?_, ?_⟩ <;> (rintro rfl; revert this; decide)
theorem parR_text {n d : Int} (h : isRat n d = true) : parR (ratText n d) = ((n, d), true) := by
  obtain ⟨d1, d2, n1, n2, hg⟩ : IsRatP n d := of_decide_eq_true h
  have mk : mkRat n d = (n, d) := by
    have := isRat_mk n d (by omega)
    rw [h] at this
    exact of_decide_eq_true this.symm
  have key : ratT (ratText n d) = (n, d) := by
    unfold ratT denT
    by_cases h1 : d = 1
    · have e : ratText n d = itoa n := by unfold ratText; rw [if_pos h, if_pos h1]
      have sp : split [47] (ratText n d) = [itoa n] := by
        rw [e, split_fold, fold_plain [47] _ (plain_slash n)]; rfl
      rw [sp]
      show mkRat (numT (itoa n)).1 (if 1 < 1 then _ else 1) = _
      rw [numT_itoa n ⟨n1, n2⟩, if_neg (by omega), ← h1]
      exact mk
    · have e : ratText n d = itoa n ++ ([47] ++ itoa d) := by unfold ratText; rw [if_pos h, if_neg h1, List.append_assoc]
      have sp : split [47] (ratText n d) = [itoa n, itoa d] := by
        rw [e, split_fold, List.foldl_append, fold_plain [47] _ (plain_slash n), List.cons_append, List.nil_append, fold_mark [47] 47 rfl]
        simp only [List.nil_append]
        rw [fold_plain [47] _ (plain_slash d)]
        rfl
      rw [sp]
      show mkRat (numT (itoa n)).1 (if 1 < 2 then (numT (itoa d)).1 else 1) = _
      rw [numT_itoa n ⟨n1, n2⟩, if_pos (by omega), numT_itoa d ⟨by omega, d2⟩]
      exact mk
  unfold parR
  rw [key, if_pos ⟨h, rfl⟩]
theorem parR_no {s : List UInt8} (h : ∀ n d, isRat n d = true → ratText n d ≠ s) : parR s = ((0, 0), false) := by
  unfold parR
  rw [if_neg (fun hh => h _ _ hh.1 hh.2)]
def mks : List UInt8 := [120, 91, 93, 59, 32]
def numPcs (xs : List Int) (i : Nat) : List (List UInt8) := (List.range i).map fun j => itoa (xs.getD j 0)
theorem numPcs_succ (xs : List Int) (i : Nat) : numPcs xs (i + 1) = numPcs xs i ++ [itoa (xs.getD i 0)] := by simp [numPcs, List.range_succ]
theorem numPcs_len (xs : List Int) (i : Nat) : (numPcs xs i).length = i := by simp [numPcs]
theorem fold_head (R C : Nat) : (mhead R C).foldl (spStep mks) ([], []) = ([itoa R, itoa C], []) := by
  unfold mhead
  rw [List.append_assoc, List.append_assoc, List.foldl_append, fold_plain mks _ (plain_mat R), List.cons_append, List.nil_append, fold_mark mks 120 rfl, List.foldl_append]
  simp only [List.nil_append]
  rw [List.foldl_nil, List.foldl_append, fold_plain mks _ (plain_mat C), fold_mark mks 91 rfl]
  rfl
theorem fold_mtx (R C : Nat) (xs : List Int) (i : Nat) : (mtx (mhead R C) C xs (i + 1)).foldl (spStep mks) ([], []) = ([itoa R, itoa C] ++ numPcs xs i, itoa (xs.getD i 0)) := by
  induction i with
  | zero =>
    have e : mtx (mhead R C) C xs (0 + 1) = mhead R C ++ itoa (xs.getD 0 0) := by
      show (if 0 < 0 ∧ 0 % C = 0 then _ else if 0 < 0 then _ else mhead R C) ++ _ = _
      rw [if_neg (by omega), if_neg (by omega)]
    rw [e, List.foldl_append, fold_head, fold_plain mks _ (plain_mat _)]
    rfl
  | succ i ih =>
    have e : mtx (mhead R C) C xs (i + 1 + 1) = (if 0 < i + 1 ∧ (i + 1) % C = 0 then mtx (mhead R C) C xs (i + 1) ++ [59] else if 0 < i + 1 then mtx (mhead R C) C xs (i + 1) ++ [32] else mtx (mhead R C) C xs (i + 1)) ++ itoa (xs.getD (i + 1) 0) := rfl
    have step : ∀ m : UInt8, mks.contains m = true → (mtx (mhead R C) C xs (i + 1) ++ [m]).foldl (spStep mks) ([], []) = ([itoa R, itoa C] ++ numPcs xs (i + 1), []) := by
      intro m hm
      rw [List.foldl_append, ih, fold_mark mks m hm, numPcs_succ, List.append_assoc]
      rfl
    rw [e, List.foldl_append]
    by_cases h : (i + 1) % C = 0
    · rw [if_pos ⟨by omega, h⟩, step 59 rfl, fold_plain mks _ (plain_mat _)]
      rfl
    · rw [if_neg (fun hh => h hh.2), if_pos (by omega), step 32 rfl, fold_plain mks _ (plain_mat _)]
      rfl
theorem pcsM_text (R C : Nat) (xs : List Int) : pcsM (matText R C xs) = [itoa R, itoa C] ++ (if xs.length = 0 then [[]] else numPcs xs xs.length) ++ [[]] := by
  show split mks (mtx (mhead R C) C xs xs.length ++ [93]) = _
  rw [split_fold, List.foldl_append]
  rcases Nat.eq_zero_or_pos xs.length with h | h
  · rw [h, if_pos rfl]
    show ((([93] : List UInt8).foldl (spStep mks) ((mhead R C).foldl (spStep mks) ([], []))).1 ++ _) = _
    rw [show mtx (mhead R C) C xs 0 = mhead R C from rfl, fold_head]
    rfl
  · obtain ⟨n, hn⟩ : ∃ n, xs.length = n + 1 := ⟨xs.length - 1, by omega⟩
    rw [hn, if_neg (by omega), fold_mtx, fold_mark mks 93 rfl, numPcs_succ, List.foldl_nil]
    simp
theorem getD_two {a b : List UInt8} {l : List (List UInt8)} (k : Nat) : (([a, b] ++ l) ++ [[]]).getD (k + 2) [] = (l ++ [[]]).getD k [] := by
  simp [List.getD]
theorem cellsT_text (R C : Nat) (xs : List Int) (hx : nums xs = true) : allT (matText R C xs) = xs := by
  unfold allT
  rw [pcsM_text]
  rcases Nat.eq_zero_or_pos xs.length with h | h
  · rw [if_pos h]
    obtain rfl := List.eq_nil_of_length_eq_zero h
    show (if (numT []).2 = true then _ else []) = []
    rw [numT_nil]; rfl
  · rw [if_neg (by omega)]
    have key : ∀ k, k ≤ xs.length → cellsT ([itoa R, itoa C] ++ numPcs xs xs.length ++ [[]]) k = xs.take k := by
      intro k
      induction k with
      | zero => intro _; rfl
      | succ k ih =>
        intro hk
        have e : ([itoa R, itoa C] ++ numPcs xs xs.length ++ [[]]).getD (k + 2) [] = itoa (xs.getD k 0) := by
          rw [getD_two, List.getD, List.getElem?_append_left (by rw [numPcs_len]; omega)]
          simp [numPcs, show k < xs.length by omega]
        have nk := nums_at hx (show k < xs.length by omega)
        unfold cellsT
        rw [e, numT_itoa _ nk, if_pos rfl, ih (by omega), List.take_add_one, List.getElem?_eq_getElem (by omega)]
        simp [List.getD, show k < xs.length by omega]
    have el : ([itoa (R : Int), itoa C] ++ numPcs xs xs.length ++ [[]]).length - 3 = xs.length := by
      rw [List.length_append, List.length_append, numPcs_len]
      show 2 + xs.length + 1 - 3 = _
      omega
    rw [el, key _ (Nat.le_refl _), List.take_length]
theorem mtx_len10 {t : List UInt8} {C : Nat} {xs : List Int} (h : nums xs = true) (i : Nat) (hi : i ≤ xs.length) : (mtx t C xs i).length ≤ t.length + 11 * i := by
  induction i with
  | zero => exact Nat.le_refl _
  | succ i ih =>
    have nk := nums_at h (show i < xs.length by omega)
    have := itoa_len10 _ nk.1 nk.2
    have := ih (by omega)
    unfold mtx
    split
    · simp only [List.length_append, List.length_cons, List.length_nil]; omega
    · split <;> simp only [List.length_append, List.length_cons, List.length_nil] <;> omega
theorem matText_len {R C : Nat} {xs : List Int} (h : isMat R C xs = true) : (matText R C xs).length ≤ 8000 := by
  obtain ⟨⟨r1, r2⟩, ⟨c1, c2⟩, l1, hx⟩ := isMat_says h
  have hn : xs.length ≤ 576 := by have := (mul_size R C ⟨r1, r2⟩ ⟨c1, c2⟩).2; omega
  have l2 := itoa_len10 R (by omega) (by omega)
  have l3 := itoa_len10 C (by omega) (by omega)
  have l4 := mtx_len10 (t := mhead R C) (C := C) hx xs.length (Nat.le_refl _)
  have l5 : (mhead R C).length ≤ 22 := by unfold mhead; simp only [List.length_append, List.length_cons, List.length_nil]; omega
  show (mtx (mhead R C) C xs xs.length ++ [93]).length ≤ _
  rw [List.length_append]
  simp only [List.length_cons, List.length_nil]
  omega
theorem parM_text {R C : Nat} {xs : List Int} (h : isMat R C xs = true) : parM (matText R C xs) = ⟨true, R, C, xs⟩ := by
  obtain ⟨⟨r1, r2⟩, ⟨c1, c2⟩, l1, hx⟩ := isMat_says h
  have e0 : rowsT (matText R C xs) = R := by
    unfold rowsT
    rw [pcsM_text]
    show (numT (itoa R)).1 = _
    rw [numT_itoa R ⟨by omega, by omega⟩]
  have e1 : colsT (matText R C xs) = C := by
    unfold colsT
    rw [pcsM_text]
    show (numT (itoa C)).1 = _
    rw [numT_itoa C ⟨by omega, by omega⟩]
  have e2 := cellsT_text R C xs hx
  have sy : SaysM (matText R C xs) := by
    refine ⟨?_, matText_len h, ?_⟩
    · rw [pcsM_text]
      split
      · exact Nat.le_refl _
      · rw [List.length_append, List.length_append, numPcs_len]
        show 4 ≤ 2 + xs.length + 1
        omega
    · rw [e0, e1, e2]
      unfold fmtM
      rw [if_pos h]
      rfl
  rw [parM_yes sy, e0, e1, e2]
theorem pcsM_nil : pcsM [] = [[]] := rfl
theorem parM_says {s : List UInt8} (h : SaysM s) : isMat (rowsT s) (colsT s) (allT s) = true ∧ matText (rowsT s).toNat (colsT s).toNat (allT s) = s := by
  obtain ⟨h1, h2, h3⟩ := h
  unfold fmtM at h3
  split at h3
  · rename_i hm
    exact ⟨hm, h3⟩
  · rw [← h3, pcsM_nil] at h1
    exact absurd h1 (by decide)
theorem says_iff (s : List UInt8) : SaysM s ↔ ∃ (R C : Nat) (xs : List Int), isMat R C xs = true ∧ matText R C xs = s := by
  constructor
  · intro h
    obtain ⟨h1, h2⟩ := parM_says h
    obtain ⟨⟨r1, r2⟩, ⟨c1, c2⟩, -, -⟩ := isMat_says h1
    refine ⟨(rowsT s).toNat, (colsT s).toNat, allT s, ?_, h2⟩
    rw [Int.toNat_of_nonneg r1, Int.toNat_of_nonneg c1]
    exact h1
  · rintro ⟨R, C, xs, h1, rfl⟩
    by_cases h : SaysM (matText R C xs)
    · exact h
    · have := parM_text h1
      rw [parM_no h] at this
      cases this
end Go.Proofs.YtcapddcmnjeloaaGreatDoor
end

section
/-
  Chapter 4's mathematics, as the program's reader goes: a number at the head of a text, a word at the head of a text.
-/
namespace Go.Proofs.YtcapddcmnjeloaaGreatDoor
open Go.RowKit
open Go.Lib (decDigits itoa nDigits)
def numB : List UInt8 := [45, 48, 49, 50, 51, 52, 53, 54, 55, 56, 57]
theorem itoa_numB (v : Int) : ∀ c ∈ itoa v, numB.contains c = true := by
  intro c hc
  have h : ∀ k : Fin 256, (k.val = 45 ∨ (48 ≤ k.val ∧ k.val ≤ 57)) → numB.contains (UInt8.ofNat k.val) = true := by decide +kernel
  have e := h ⟨c.toNat, c.toNat_lt⟩ (itoa_byte v c hc)
  rwa [show UInt8.ofNat c.toNat = c by apply UInt8.toNat_inj.mp; rw [UInt8.toNat_ofNat']; exact Nat.mod_eq_of_lt c.toNat_lt] at e
def Stop (t : List UInt8) : Prop := ∀ b ∈ t.head?, numB.contains b = false
theorem stop_nil : Stop [] := by intro b hb; cases hb
theorem stop_cons (c : UInt8) (t : List UInt8) (h : numB.contains c = false) : Stop (c :: t) := by
  intro b hb
  simp only [List.head?_cons, Option.mem_def, Option.some.injEq] at hb
  rw [← hb]; exact h
def tailN (l : List UInt8) : List UInt8 := Lib.trimLeftS l numB
def headN (l : List UInt8) : List UInt8 := Lib.trimSuffix l (tailN l)
theorem drop_while_split (p : UInt8 → Bool) (l : List UInt8) : l.takeWhile p ++ l.dropWhile p = l := List.takeWhile_append_dropWhile
theorem take_split (a b l : List UInt8) (h : a ++ b = l) : l.take a.length = a := by subst h; simp
theorem headN_eq (l : List UInt8) : headN l = l.takeWhile (numB.contains ·) := by
  unfold headN tailN Lib.trimSuffix Lib.trimLeftS
  have e := drop_while_split (numB.contains ·) l
  have hs : Lib.hasSuffix l (l.dropWhile (numB.contains ·)) = true := by
    unfold Lib.hasSuffix
    rw [List.isSuffixOf_iff_suffix]
    exact ⟨_, e⟩
  rw [if_pos hs]
  have hl := congrArg List.length e
  rw [List.length_append] at hl
  rw [show l.length - (l.dropWhile (numB.contains ·)).length = (l.takeWhile (numB.contains ·)).length by omega]
  exact take_split _ _ _ e
theorem tailN_eq (l : List UInt8) : tailN l = l.dropWhile (numB.contains ·) := rfl
theorem headN_tailN (l : List UInt8) : headN l ++ tailN l = l := by rw [headN_eq, tailN_eq]; exact drop_while_split _ l
theorem tailN_len (l : List UInt8) : (tailN l).length ≤ l.length := by
  have := congrArg List.length (headN_tailN l)
  rw [List.length_append] at this
  omega
theorem take_all (p : UInt8 → Bool) (x t : List UInt8) (hx : ∀ c ∈ x, p c = true) (ht : ∀ b ∈ t.head?, p b = false) : (x ++ t).takeWhile p = x ∧ (x ++ t).dropWhile p = t := by
  induction x with
  | nil =>
    cases t with
    | nil => exact ⟨rfl, rfl⟩
    | cons b t =>
      have := ht b rfl
      simp [this]
  | cons c x ih =>
    have h1 := hx c (by simp)
    have h2 := ih (fun d hd => hx d (by simp [hd]))
    simp only [List.cons_append, List.takeWhile_cons, List.dropWhile_cons, h1, if_true]
    exact ⟨by rw [h2.1], h2.2⟩
theorem read_num (v : Int) (t : List UInt8) (ht : Stop t) : headN (itoa v ++ t) = itoa v ∧ tailN (itoa v ++ t) = t := by
  rw [headN_eq, tailN_eq]
  exact take_all _ _ _ (itoa_numB v) ht
theorem read_says {l : List UInt8} (h : (numT (headN l)).2 = true) : l = itoa (numT (headN l)).1 ++ tailN l ∧ -400000000 ≤ (numT (headN l)).1 ∧ (numT (headN l)).1 ≤ 400000000 := by
  by_cases hn : IsNumT (headN l)
  · obtain ⟨h1, h2, h3⟩ := numT_yes hn
    refine ⟨?_, h1⟩
    rw [← h2, headN_tailN]
  · rw [numT_no hn] at h
    cases h
theorem read_itoa {v : Int} {t : List UInt8} (hv : -400000000 ≤ v ∧ v ≤ 400000000) (ht : Stop t) : numT (headN (itoa v ++ t)) = (v, true) := by
  rw [(read_num v t ht).1, numT_itoa v hv]
theorem prefix_says {l p : List UInt8} (h : Lib.hasPrefix l p = true) : l = p ++ Lib.trimPrefix l p := by
  unfold Lib.trimPrefix
  rw [if_pos h]
  unfold Lib.hasPrefix at h
  obtain ⟨t, ht⟩ := List.isPrefixOf_iff_prefix.mp h
  rw [← ht, List.drop_left]
theorem prefix_of (p t : List UInt8) : Lib.hasPrefix (p ++ t) p = true ∧ Lib.trimPrefix (p ++ t) p = t := by
  have h : Lib.hasPrefix (p ++ t) p = true := List.isPrefixOf_iff_prefix.mpr ⟨t, rfl⟩
  refine ⟨h, ?_⟩
  unfold Lib.trimPrefix
  rw [if_pos h, List.drop_left]
theorem trimPrefix_len (l p : List UInt8) : (Lib.trimPrefix l p).length ≤ l.length := by
  unfold Lib.trimPrefix
  split
  · rw [List.length_drop]; omega
  · exact Nat.le_refl _
theorem isRat_one {n : Int} (h1 : -400000000 ≤ n) (h2 : n ≤ 400000000) : isRat n 1 = true := decide_eq_true ⟨by omega, by omega, h1, h2, Int.gcd_one⟩
noncomputable def goR (s : List UInt8) : Option (Int × Int) :=
  if (numT (headN s)).2 = true then
    if tailN s = [] then some ((numT (headN s)).1, 1)
    else if Lib.hasPrefix (tailN s) [47] = true then
      if (numT (headN (Lib.trimPrefix (tailN s) [47]))).2 = true then
        if (isRat (numT (headN s)).1 (numT (headN (Lib.trimPrefix (tailN s) [47]))).1 = true ∧ (numT (headN (Lib.trimPrefix (tailN s) [47]))).1 ≠ 1) ∧ tailN (Lib.trimPrefix (tailN s) [47]) = [] then
          some ((numT (headN s)).1, (numT (headN (Lib.trimPrefix (tailN s) [47]))).1)
        else none
      else none
    else none
  else none
theorem goR_says {s : List UInt8} {n d : Int} (h : goR s = some (n, d)) : isRat n d = true ∧ ratText n d = s := by
  unfold goR at h
  split at h
  · rename_i h1
    obtain ⟨e1, b1, b2⟩ := read_says h1
    split at h
    · rename_i h2
      injection h with h
      injection h with hn hd
      subst hn hd
      rw [h2, List.append_nil] at e1
      have hr : isRat (numT (headN s)).1 1 = true := isRat_one b1 b2
      refine ⟨hr, ?_⟩
      unfold ratText
      rw [if_pos hr, if_pos rfl]
      exact e1.symm
    · split at h
      · rename_i h3
        have e2 := prefix_says h3
        split at h
        · rename_i h4
          obtain ⟨e3, b3, b4⟩ := read_says h4
          split at h
          · rename_i h5
            obtain ⟨⟨h5, h6⟩, h7⟩ := h5
            injection h with h
            injection h with hn hd
            rw [h7, List.append_nil] at e3
            rw [← hn, ← hd]
            refine ⟨h5, ?_⟩
            unfold ratText
            rw [if_pos h5, if_neg h6]
            conv => rhs; rw [e1, e2, e3]
            rw [List.append_assoc]
          · cases h
        · cases h
      · cases h
  · cases h
theorem goR_text {n d : Int} (h : isRat n d = true) : goR (ratText n d) = some (n, d) := by
  obtain ⟨d1, d2, n1, n2, hg⟩ : IsRatP n d := of_decide_eq_true h
  by_cases h1 : d = 1
  · have e : ratText n d = itoa n ++ [] := by unfold ratText; rw [if_pos h, if_pos h1, List.append_nil]
    have r := read_num n [] stop_nil
    have q := read_itoa (v := n) ⟨n1, n2⟩ stop_nil
    rw [e]
    unfold goR
    rw [q, r.2, if_pos rfl, if_pos rfl, h1]
  · have e : ratText n d = itoa n ++ ([47] ++ (itoa d ++ [])) := by unfold ratText; rw [if_pos h, if_neg h1, List.append_assoc, List.append_nil]
    have st : Stop ([47] ++ (itoa d ++ [])) := stop_cons _ _ (by decide)
    have r := read_num n _ st
    have q := read_itoa (v := n) ⟨n1, n2⟩ st
    have r2 := read_num d [] stop_nil
    have q2 := read_itoa (v := d) ⟨by omega, d2⟩ stop_nil
    have p := prefix_of [47] (itoa d ++ [])
    rw [e]
    unfold goR
    rw [q, r.2, if_pos rfl, if_neg (by simp), if_pos p.1, p.2, q2, if_pos rfl, r2.2, if_pos ⟨⟨h, h1⟩, rfl⟩]
theorem goR_parR (s : List UInt8) : parR s = match goR s with | some r => (r, true) | none => ((0, 0), false) := by
  cases hg : goR s with
  | some r =>
    obtain ⟨h1, h2⟩ := goR_says (n := r.1) (d := r.2) hg
    rw [← h2]
    exact parR_text h1
  | none =>
    refine parR_no fun n d h1 h2 => ?_
    rw [← h2, goR_text h1] at hg
    cases hg
end Go.Proofs.YtcapddcmnjeloaaGreatDoor
end
