/-
  Texts of this seat, joined: ImgI · ImgX
-/
import Derived.Test.YtgemkfcapkfdbaaPk2
import Derived.Test.YtgemkfcapkfdbaaPk6
import Derived.Test.YtgemkfcapkfdbaaPk9
import Derived.Test.YtgemkfcapkfdbaaPk12
import Derived.Test.YtgemkfcapkfdbaaPk13

section
/-
  Chapter 9, in the program: DeterminantByImages.
-/
namespace Go.Proofs.Ytgemkfcapkfdbaa
set_option maxRecDepth 100000
open Go.RowKit Go.Shelf

attribute [local go_sem] Oper.semAt_some

/-- What holds between two rounds. -/
def imI (w : World) (n N : Nat) (a : Option Addr) (m B : Nat) (b D : Int) (pre : List PrmQ) (M : Nat → Prop) (W : World) : Prop := ∃ (k : Nat) (v6 v7 : Value), k ≤ 5 ∧ (k = 5 → 121330189 ≤ 2 * b) ∧ big9 (prmV pre) = mo9 k ∧ ImJ w n N a m B b D k v6 v7 M W
/-- .. and where the loop is left. -/
def imE (w : World) (n N : Nat) (a : Option Addr) (m B : Nat) (b D : Int) (c : Code) (_ : List PrmQ) (M : Nat → Prop) (W : World) : Prop := c = .exit 0 ∧ ∃ (k : Nat) (v6 v7 : Value), k ≤ 5 ∧ (k = 5 → 121330189 ≤ 2 * b) ∧ 2 * b < pq9 k ∧ ImJ w n N a m B b D k v6 v7 M W
theorem imI.ab (w : World) (n N : Nat) (a : Option Addr) (m B : Nat) (b D : Int) : AbY (B + 6) (imI w n N a m B b D) := fun s M W W' row h hg hr => by
  obtain ⟨k, v6, v7, h1, h2, h3, h4⟩ := h
  exact ⟨k, v6, v7, h1, h2, h3, h4.ab hg hr⟩
theorem imE.ab (w : World) (n N : Nat) (a : Option Addr) (m B : Nat) (b D : Int) (c : Code) : AbY (B + 6) (imE w n N a m B b D c) := fun s M W W' row h hg hr => by
  obtain ⟨h0, k, v6, v7, h1, h2, h3, h4⟩ := h
  exact ⟨h0, k, v6, v7, h1, h2, h3, h4.ab hg hr⟩
theorem row_cap {w : World} {B n c : Nat} {q : Option Addr} {xs : List Value} (h : w.ownsRow B 3 1 (.slice q n c) n xs) : n ≤ c := by
  obtain ⟨-, ⟨h1, h2⟩ | ⟨g, cap, cur, e, -, -, h3, -⟩⟩ := h
  · omega
  · injection e with e1 e2 e3
    omega
theorem news1 {w : World} {g : Nat} {z : Value} (h : w.cell? ⟨g, 0, none⟩ = some z) : ∀ j u, [z][j]? = some u → w.cell? ((⟨g, 0, none⟩ : Addr).add j) = some u := by
  intro j u hu
  rcases j with _ | j
  · have e : (⟨g, 0, none⟩ : Addr).add 0 = ⟨g, 0, none⟩ := rfl
    rw [e, h]
    simpa using hu
  · simp at hu
set_option maxHeartbeats 4000000 in
theorem iImg_in (n : Nat) (a : Option Addr) (m N : Nat) (xs : List Int) (w : World) (h : Rd w a xs) (hx : xs.length = N) (hs : isSq n n xs = true) (b : Int) (hb : bndX n n xs = (b, true)) (hb0 : 0 ≤ b) (hb1 : b ≤ 400000000) :
    Calls Try.prog 21 #[.agg #[.int .i64 n, .int .i64 n, .slice a N m]] w (Gives (.tuple #[.int .i64 (imX n n xs).1, .bool (imX n n xs).2]) w) := by
  obtain ⟨n', hn', -, h6, hl, hnum⟩ := isSq_says hs
  obtain rfl : n = n' := by omega
  have hle : n * n ≤ 6 * 6 := Nat.mul_le_mul h6 h6
  have BD : Hid (∀ w', Below w.heap.size w w' → Calls Try.prog 22 #[.agg #[.int .i64 n, .int .i64 n, .slice a N m]] w' (Gives (.tuple #[.int .i64 b, .bool true]) w')) := fun w' hb' => by
    have := iBnd n n a m xs w' (h.below hb') (by omega)
    rw [hb, hx] at this
    exact this
  obtain ⟨D, hD⟩ : ∃ D, det n (mxL n xs) = D := ⟨_, rfl⟩
  have DT : Hid (∀ (p : Int) (w' : World), prmB p = true → Below w.heap.size w w' → Calls Try.prog 56 #[.agg #[.int .i64 n, .int .i64 n, .slice a N m], .int .i64 p] w' (Gives (.tuple #[.int .i64 (D % p), .bool true]) w')) := fun p w' hp hb' => by
    have := iDetM n n p a m xs w' (h.below hb') (by omega)
    rw [dtM_sq hs hp, hD, hx] at this
    exact this
  have YS : Hid (∀ k, k ≤ 4 → 2 * b < pp9 k → ∃ x, chiX (re9 D k) (mo9 k) = (x, pp9 k, true) ∧ symX x (pp9 k) = imX n n xs ∧ (imX n n xs).2 = true ∧ (0 ≤ x ∧ x ≤ 121330189)) := fun k hk hb' => by
    have := im9_yes hk hb hb'
    rw [hD] at this
    exact this
  have NO : Hid (121330189 ≤ 2 * b → imX n n xs = (0, false)) := fun hb' => im9_no hb hb'
  have B0 : Hid (Below w.heap.size w (w.alloc (.cells #[.int .i64 n, .int .i64 n, .slice a N m] 34))) := (Below.refl _ _).alloc (Nat.le_refl _) _
  have K0 : Hid (Blk3 (w.alloc (.cells #[.int .i64 n, .int .i64 n, .slice a N m] 34)) w.heap.size 34 (.int .i64 n) (.int .i64 n) (.slice a N m)) := Blk3.at_ _ _ _ _ rfl
  generalize imX n n xs = RES at YS NO ⊢
  clear h hx hs hb hl hnum hD hn'
  refine (callsIn_wide (n := 4)).1 ?_
  refine callsIn_of_wp_marks Try.func21 rfl trivial ?_ rfl
  simp only [Try.ntmps21, List.size_toArray, List.length_cons, List.length_nil, Nat.reduceAdd, Nat.reduceSub, Array.replicate_succ, Array.replicate_zero, List.push_toArray, List.append_toArray, List.nil_append, List.cons_append]
  gi_wp2_with (refine ⟨trivial, ?_⟩; gi_at_call 22; refine (callsIn_wide.2 (BD.out _ B0.out)).mono ?_; rintro e w1 ⟨rfl, hbw⟩)
  refine ⟨trivial, ?_⟩
  refine (callsIn_wide.2 (iPrimes _)).mono ?_
  rintro e w' ⟨rfl, rfl⟩
  gi_wp2
  have s1 := B0.out.size
  have J0 : Hid (imI w n N a m w1.heap.size b D [] (fun _ => False) ((((((w1.alloc (.cells #[.int .i64 b] 3)).alloc (.cells #[] 3)).alloc (.cells #[] 3)).alloc (.cells #[.slice (some ⟨w1.heap.size + 1, 0, none⟩) 0 0] 24)).alloc (.cells #[.slice (some ⟨w1.heap.size + 1 + 1, 0, none⟩) 0 0] 24)).alloc (.cells #[.int .i64 1] 3))) := by
    have l1 := (K0.out.step hbw).lt
    have T := TwoL.start (w1.alloc (.cells #[.int .i64 b] 3)) (B := w1.heap.size + 1) (by simp)
    rw [show (w1.alloc (.cells #[.int .i64 b] 3)).heap.size = w1.heap.size + 1 by simp] at T
    refine ⟨0, _, _, by omega, fun h => by omega, rfl, ((((((Blk1.at_ _ _ rfl).old _).old _).old _).old _).old _), ((((Blk1.at_ _ _ (by simp)).old _).old _)), (((Blk1.at_ _ _ (by simp)).old _)), (Blk1.at_ _ _ (by simp)), (((((((K0.out.step hbw).old _).old _).old _).old _).old _).old _), ?_, (((T.alloc _).alloc _).alloc _), fun g hg => ?_, fun g hg => ?_, l1⟩
    · have b1 := B0.out.trans (hbw.mono (by simp))
      have z := b1.size
      exact (((((b1.alloc z _).alloc (by simp; omega) _).alloc (by simp; omega) _).alloc (by simp; omega) _).alloc (by simp; omega) _).alloc (by simp; omega) _
    · injection hg with hg; exact .inl (by simp at hg; omega)
    · injection hg with hg; exact .inl (by simp at hg; omega)
  have SZ : ((((((w1.alloc (.cells #[.int .i64 b] 3)).alloc (.cells #[] 3)).alloc (.cells #[] 3)).alloc (.cells #[.slice (some ⟨w1.heap.size + 1, 0, none⟩) 0 0] 24)).alloc (.cells #[.slice (some ⟨w1.heap.size + 1 + 1, 0, none⟩) 0 0] 24)).alloc (.cells #[.int .i64 1] 3)).heap.size = w1.heap.size + 6 := by simp
  generalize ((((((w1.alloc (.cells #[.int .i64 b] 3)).alloc (.cells #[] 3)).alloc (.cells #[] 3)).alloc (.cells #[.slice (some ⟨w1.heap.size + 1, 0, none⟩) 0 0] 24)).alloc (.cells #[.slice (some ⟨w1.heap.size + 1 + 1, 0, none⟩) 0 0] 24)).alloc (.cells #[.int .i64 1] 3)) = W0 at J0 SZ ⊢
  refine wpIn_rangeY (F := Fence.wide) rfl (by omega) (gf := 84) rfl trivial (enters_of Try.func84 (by kernel_rfl) rfl) (seqPrimesY 3 (by omega)) (fun _ => rfl) (imI w n N a m w1.heap.size b D) (imE w n N a m w1.heap.size b D) (by rw [SZ]; exact imI.ab w n N a m w1.heap.size b D) (fun c => by rw [SZ]; exact imE.ab w n N a m w1.heap.size b D c) J0.out
    (fun x => { tmps := #[.agg #[.int .i64 n, .int .i64 n, .slice a N m], .pointer (some ⟨w.heap.size, 0, none⟩), .int .i64 0, .bool false, .pointer (some ⟨w1.heap.size, 0, none⟩), .bool true, .pointer (some ⟨w1.heap.size + 1 + 1 + 1, 0, none⟩), .pointer (some ⟨w1.heap.size + 1 + 1 + 1 + 1, 0, none⟩), .pointer (some ⟨w1.heap.size + 1 + 1 + 1 + 1 + 1, 0, none⟩), .int .i64 (x.1 : Int), undef, undef, undef, .tuple #[.int .i64 b, .bool true], .agg #[.int .i64 n, .int .i64 n, .slice a N m], .tuple #[.int .i64 b, .bool true], .int .i64 b, .bool true, .bool true, .bool false, .slice (some ⟨w1.heap.size + 1, 0, none⟩) 0 0, .slice (some ⟨w1.heap.size + 1 + 1, 0, none⟩) 0 0, .func (.func 84) #[] #[], .int .i64 (x.1 : Int), undef, undef, undef, undef, undef, undef, undef, undef, undef, undef, undef, undef, undef, undef, undef, undef, undef, undef, undef, undef, undef, undef, undef, undef, undef, undef, undef, undef, undef, undef, undef, undef, undef, undef, undef, undef, undef], defers := [] }) ?assign ?body ?done ?stop
  case assign =>
    intro l x W K hK
    gi_wp2
    exact hK
  case body =>
    rintro l pre x M W ⟨k, v6, v7, hk, h5, hbig, hJ⟩ hM hNx hSz
    rw [SZ] at hM hSz ⊢
    have J := Lib.hid hJ
    have HM := Lib.hid hM
    have NX := Lib.hid hNx
    have BG := Lib.hid hbig
    have H5 := Lib.hid h5
    obtain ⟨P, hP⟩ : ∃ P, pq9 k = P := ⟨_, rfl⟩
    have HP := Lib.hid hP
    have pn := pq9_num k
    rw [hP] at pn
    obtain ⟨pn1, pn2⟩ := pn
    have y0 := hJ.bnd.cell0
    have y1 := hJ.pr.cell0
    rw [hP] at y1
    have d1 : IntKind.i64.wrap (2 * b) = 2 * b := IntWalk.i64_in _ (by omega)
    clear hJ hM hNx hbig h5 hP J0
    by_cases hgo : 2 * b < P
    · gi_wp2
      exact ⟨M, ⟨Nat.le_refl _, fun _ _ _ _ => rfl, fun g hg => ⟨.inl hg, (HM.out g hg).2⟩⟩, rfl, k, v6, v7, hk, H5.out, by rw [HP.out]; exact hgo, J.out⟩
    · obtain ⟨d, hd⟩ : ∃ d : Nat, x.1 = d := ⟨_, rfl⟩
      have DD := Lib.hid hd
      have x1 := (prmB_says x.2.2).1.1
      have x2 := x.2.1
      rw [hd] at x1 x2
      have PR : Hid (prmB (d : Int) = true) := by show _ = _; rw [← hd]; exact x.2.2
      rw [hd]
      clear hd
      by_cases hs : d < 101
      · gi_wp2
        exact ⟨M, ⟨Nat.le_refl _, fun _ _ _ _ => rfl, fun g hg => ⟨.inl hg, (HM.out g hg).2⟩⟩, k, v6, v7, hk, H5.out, by rw [prmV_snoc, big9_snoc_small (by rw [DD.out]; omega)]; exact BG.out, J.out⟩
      · have k4 : k ≤ 4 := pq9_big (b := b) (by omega) (by rw [HP.out]; omega)
        have ED := Lib.hid (nx9 k4 PR.out (by omega) (by rw [← BG.out, NX.out, DD.out]))
        have y2 := J.out.mat.cell0
        have y3 := J.out.mat.cell1
        have y4 := J.out.mat.cell2
        obtain ⟨z, hz⟩ : ∃ z, D % (d : Int) = z := ⟨_, rfl⟩
        have DT2 := Lib.hid (DT.out (d : Int))
        rw [hz] at DT2
        have RS : Hid (re9 D (k + 1) = re9 D k ++ [z]) := by show _ = _; rw [re9_snoc, ← ED.out, hz]
        have MS : Hid (mo9 (k + 1) = mo9 k ++ [(d : Int)]) := by show _ = _; rw [mo9_snoc, ← ED.out]
        have n0 : decide ((d : Int) < 101) = false := by simp; omega
        clear hz
        gi_wp2_with (refine ⟨trivial, ?_⟩; gi_at_call 56; refine (callsIn_wide.2 (DT2.out _ PR.out J.out.bel)).mono ?_; rintro e w2 ⟨rfl, hb2⟩)
        have S2 := Lib.hid (J.out)
        have zz := hb2.size
        have c6 : Hid (Blk1 w2 (w1.heap.size + 1 + 1 + 1) 24 v6) := J.out.im.keep hb2 J.out.im.lt
        have c7 : Hid (Blk1 w2 (w1.heap.size + 1 + 1 + 1 + 1) 24 v7) := J.out.mo.keep hb2 J.out.mo.lt
        have t2 := J.out.two.keep hb2
        have T2 := Lib.hid t2
        have FAR : Hid (∀ q, v6.ownBlock = some q ∨ v7.ownBlock = some q → q < w2.heap.size ∧ q ≠ w1.heap.size + 1 + 1 + 1 ∧ q ≠ w1.heap.size + 1 + 1 + 1 + 1) := fun q hq => by
          have hl : q < w2.heap.size := hq.elim (fun h => (t2.r1.lt q h).2) (fun h => (t2.r2.lt q h).2)
          have hm : q < w1.heap.size + 3 ∨ M q := hq.elim (J.out.o6 q) (J.out.o7 q)
          refine ⟨hl, ?_⟩
          rcases hm with h | h
          · omega
          · have := HM.out q h
            omega
        have R0 : Hid (Rg10 (w1.heap.size + 1) (w1.heap.size + 1 + 1 + 1) (w1.heap.size + 1 + 1 + 1 + 1) v6 v7 w2 v6 v7 (re9 D k) (mo9 k) w2.drew) := Rg10.start t2 (fun g hg => (FAR.out g hg).2) ⟨c6.out.lt, c7.out.lt⟩
        have HB2 := Lib.hid hb2
        obtain ⟨fi, hfi, hz0, hz1, hz2⟩ := facts_int
        clear hb2 t2 y0 y1 y2 y3 y4
        refine wpIn_region_roundT (S := fun w' => w'.cell? ⟨w1.heap.size + 1 + 1 + 1, 0, none⟩ = some v6 ∧ w'.cell? ⟨w1.heap.size + 1 + 1 + 1 + 1, 0, none⟩ = some v7) (T := fun j => j == 8 || j == 9) (fun a' w' => ∃ u6 u7 t38 t42 : Value, a' = { tmps := #[.agg #[.int .i64 n, .int .i64 n, .slice a N m], .pointer (some ⟨w.heap.size, 0, none⟩), .int .i64 0, .bool false, .pointer (some ⟨w1.heap.size, 0, none⟩), .bool true, .pointer (some ⟨w1.heap.size + 1 + 1 + 1, 0, none⟩), .pointer (some ⟨w1.heap.size + 1 + 1 + 1 + 1, 0, none⟩), .pointer (some ⟨w1.heap.size + 1 + 1 + 1 + 1 + 1, 0, none⟩), .int .i64 (d : Int), .int .i64 z, .bool true, undef, .tuple #[.int .i64 b, .bool true], .agg #[.int .i64 n, .int .i64 n, .slice a N m], .tuple #[.int .i64 b, .bool true], .int .i64 b, .bool true, .bool true, .bool false, .slice (some ⟨w1.heap.size + 1, 0, none⟩) 0 0, .slice (some ⟨w1.heap.size + 1 + 1, 0, none⟩) 0 0, .func (.func 84) #[] #[], .int .i64 (d : Int), .int .i64 P, .int .i64 b, .int .i64 (2 * b), .bool false, .int .i64 (d : Int), .bool false, .tuple #[.int .i64 z, .bool true], .agg #[.int .i64 n, .int .i64 n, .slice a N m], .int .i64 (d : Int), .tuple #[.int .i64 z, .bool true], .int .i64 z, .bool true, v6, .int .i64 z, t38, u6, v7, .int .i64 (d : Int), t42, u7, undef, undef, undef, undef, undef, undef, undef, undef, undef, undef, undef, undef, undef, undef, undef, undef, undef], defers := [] } ∧ Rg10 (w1.heap.size + 1) (w1.heap.size + 1 + 1 + 1) (w1.heap.size + 1 + 1 + 1 + 1) v6 v7 w2 u6 u7 (re9 D k ++ [z]) (mo9 k ++ [(d : Int)]) w' ∧ Blk1 w' (w1.heap.size + 1 + 1 + 1) 24 u6 ∧ Blk1 w' (w1.heap.size + 1 + 1 + 1 + 1) 24 u7) (by kernel_rfl) (by kernel_rfl) ?_ ?_
        · have hH : w2.drew.cell? ⟨w1.heap.size + 1 + 1 + 1, 0, none⟩ = some v6 ∧ w2.drew.cell? ⟨w1.heap.size + 1 + 1 + 1 + 1, 0, none⟩ = some v7 := ⟨c6.out.cell0, c7.out.cell0⟩
          have A0 : Hid (Blk1 w2.drew (w1.heap.size + 1 + 1 + 1) 24 v6) := c6.out.drew
          have B0 : Hid (Blk1 w2.drew (w1.heap.size + 1 + 1 + 1 + 1) 24 v7) := c7.out.drew
          obtain ⟨W3, hW3⟩ : ∃ W3, w2.drew = W3 := ⟨_, rfl⟩
          rw [hW3] at hH A0 B0 R0 ⊢
          clear hW3
          refine wpAnyT_take (i := 0) (v := ?_) (by simp only [List.getElem?_toArray, List.getElem?_cons_zero]; rfl) (by kernel_rfl) (by kernel_rfl) (by kernel_rfl) (by kernel_rfl) (two_only 8 9 (by kernel_rfl) (by kernel_rfl)) (by rintro c a w ⟨h, -⟩; cases h) (Or.inl ⟨by rfl, ?_⟩) hH ?_
          rotate_left
          · (intro wS hS; (try dsimp only at hS); obtain ⟨q1, q2⟩ := hS; go_simp; try rfl)
          try simp only [Act.put, List.setIfInBounds_toArray, List.set_cons_zero, List.set_cons_succ]
          refine wpAnyT_take (i := 1) (v := ?_) (by simp only [List.getElem?_toArray, List.getElem?_cons_succ, List.getElem?_cons_zero]; rfl) (by kernel_rfl) (by kernel_rfl) (by kernel_rfl) (by kernel_rfl) (two_only 8 9 (by kernel_rfl) (by kernel_rfl)) (by rintro c a w ⟨h, -⟩; cases h) (Or.inl ⟨by rfl, ?_⟩) hH ?_
          rotate_left
          · (intro wS hS; clear hS; go_simp; try rfl)
          try simp only [Act.put, List.setIfInBounds_toArray, List.set_cons_zero, List.set_cons_succ]
          refine wpAnyT_take (i := 4) (v := ?_) (by simp only [List.getElem?_toArray, List.getElem?_cons_succ, List.getElem?_cons_zero]; rfl) (by kernel_rfl) (by kernel_rfl) (by kernel_rfl) (by kernel_rfl) (two_only 8 9 (by kernel_rfl) (by kernel_rfl)) (by rintro c a w ⟨h, -⟩; cases h) (Or.inl ⟨by rfl, ?_⟩) hH ?_
          rotate_left
          · (intro wS hS; (try dsimp only at hS); obtain ⟨q1, q2⟩ := hS; go_simp; try rfl)
          try simp only [Act.put, List.setIfInBounds_toArray, List.set_cons_zero, List.set_cons_succ]
          refine wpAnyT_take (i := 5) (v := ?_) (by simp only [List.getElem?_toArray, List.getElem?_cons_succ, List.getElem?_cons_zero]; rfl) (by kernel_rfl) (by kernel_rfl) (by kernel_rfl) (by kernel_rfl) (two_only 8 9 (by kernel_rfl) (by kernel_rfl)) (by rintro c a w ⟨h, -⟩; cases h) (Or.inl ⟨by rfl, ?_⟩) hH ?_
          rotate_left
          · (intro wS hS; clear hS; go_simp; try rfl)
          try simp only [Act.put, List.setIfInBounds_toArray, List.set_cons_zero, List.set_cons_succ]
          refine wpAnyT_ready (rs := [2, 6]) (by kernel_rfl) (by simp) ?_
          refine AllReadyT.cons (by simp only [List.getElem?_toArray, List.getElem?_cons_succ, List.getElem?_cons_zero]; rfl) (fun K hK => ?_) (AllReadyT.cons (by simp only [List.getElem?_toArray, List.getElem?_cons_succ, List.getElem?_cons_zero]; rfl) (fun K hK => ?_) (AllReadyT.nil))
          ·
            go_simp
            try dsimp only
            have R1 := Lib.hid (R0.out.alloc (.cells #[.int .i64 z] 3))
            have A1 := Lib.hid (A0.out.old (.cells #[.int .i64 z] 3))
            have B1 := Lib.hid (B0.out.old (.cells #[.int .i64 z] 3))
            have N21 : Hid (Blk1 (W3.alloc (.cells #[.int .i64 z] 3)) W3.heap.size 3 (.int .i64 z)) := Blk1.at_ _ _ rfl
            have l1 := R0.out.size
            refine hK.out _ _ (fun _ => ⟨A1.out.cell0, B1.out.cell0⟩) ?_
            have hH := (⟨A1.out.cell0, B1.out.cell0⟩ : _ ∧ _)
            clear hK K
            obtain ⟨g1, hg1⟩ : ∃ g, W3.heap.size = g := ⟨_, rfl⟩
            obtain ⟨W1, hw1⟩ : ∃ W, W3.alloc (.cells #[.int .i64 z] 3) = W := ⟨_, rfl⟩
            rw [hg1] at N21 l1 ⊢
            rw [hw1] at R1 A1 B1 N21 ⊢
            clear hg1 hw1
            try simp only [Act.put, List.setIfInBounds_toArray, List.set_cons_zero, List.set_cons_succ]
            refine wpAnyT_ready (rs := [3, 6]) (by kernel_rfl) (by simp) ?_
            refine AllReadyT.cons (by simp only [List.getElem?_toArray, List.getElem?_cons_succ, List.getElem?_cons_zero]; rfl) (fun K hK => ?_) (AllReadyT.cons (by simp only [List.getElem?_toArray, List.getElem?_cons_succ, List.getElem?_cons_zero]; rfl) (fun K hK => ?_) (AllReadyT.nil))
            ·
              have hx2 : W1.ownsRow (w1.heap.size + 1) 3 1 v6 k ((re9 D k).map (Value.int .i64)) := by
                have := R1.out.two.r1
                rw [re9_length] at this
                exact this
              have z2 := R1.out.size
              obtain ⟨u2, W2, hr2, ho2, hg2, -, hor2⟩ := run_append_own_at (P := Try.prog) W1 (w1.heap.size + 1) 24 24 3 fi (.int .i64 0) 1 8 underlying_ints hfi hz0 hz1 hz2 rfl (by decide) v6 k _ hx2 ⟨g1, 0, none⟩ 1 1 [.int .i64 z] rfl (news1 N21.out.cell0) (by intro v hv; simp at hv; subst hv; rfl) (by unfold maxLen; omega) (by omega) (by omega)
              refine step_append rfl _ _ 24 rfl _ _ rfl rfl _ _ hr2 ?_
              have R2 := Lib.hid (R1.out.app6 (x := z) (by rw [re9_length]; exact ho2) hg2 hor2)
              have far2 : ∀ q, (v6).ownBlock = some q → q < w2.heap.size ∧ q ≠ w1.heap.size + 1 + 1 + 1 ∧ q ≠ w1.heap.size + 1 + 1 + 1 + 1 := fun q hq => FAR.out q (.inl hq)
              have A2 : Hid (Blk1 W2 _ 24 v6) := (hg2.block _ A1.out.lt (fun e => (far2 _ e.symm).2.1 rfl)).trans A1.out
              have B2 : Hid (Blk1 W2 _ 24 v7) := (hg2.block _ B1.out.lt (fun e => (far2 _ e.symm).2.2 rfl)).trans B1.out
              try dsimp only
              refine hK.out _ _ (fun _ => ⟨A2.out.cell0, B2.out.cell0⟩) ?_
              have hH := (⟨A2.out.cell0, B2.out.cell0⟩ : _ ∧ _)
              obtain ⟨q2, e2, rfl⟩ := rowL_form ho2
              clear hK K hx2 hr2 ho2 hg2 hor2 far2
              try simp only [Act.put, List.setIfInBounds_toArray, List.set_cons_zero, List.set_cons_succ]
              refine wpAnyT_ready (rs := [6]) (by kernel_rfl) (by simp) ?_
              refine AllReadyT.cons (by simp only [List.getElem?_toArray, List.getElem?_cons_succ, List.getElem?_cons_zero]; rfl) (fun K hK => ?_) (AllReadyT.nil)
              go_simp
              try dsimp only
              have R3 := Lib.hid (R2.out.alloc (.cells #[.int .i64 (d : Int)] 3))
              have A3 := Lib.hid (A2.out.old (.cells #[.int .i64 (d : Int)] 3))
              have B3 := Lib.hid (B2.out.old (.cells #[.int .i64 (d : Int)] 3))
              have N63 : Hid (Blk1 (W2.alloc (.cells #[.int .i64 (d : Int)] 3)) W2.heap.size 3 (.int .i64 (d : Int))) := Blk1.at_ _ _ rfl
              have l3 := R2.out.size
              refine hK.out _ _ (fun _ => ⟨A3.out.cell0, B3.out.cell0⟩) ?_
              have hH := (⟨A3.out.cell0, B3.out.cell0⟩ : _ ∧ _)
              clear hK K
              obtain ⟨g3, hg3⟩ : ∃ g, W2.heap.size = g := ⟨_, rfl⟩
              obtain ⟨W3, hw3⟩ : ∃ W, W2.alloc (.cells #[.int .i64 (d : Int)] 3) = W := ⟨_, rfl⟩
              rw [hg3] at N63 l3 ⊢
              rw [hw3] at R3 A3 B3 N63 ⊢
              clear hg3 hw3
              try simp only [Act.put, List.setIfInBounds_toArray, List.set_cons_zero, List.set_cons_succ]
              refine wpAnyT_ready (rs := [7]) (by kernel_rfl) (by simp) ?_
              refine AllReadyT.cons (by simp only [List.getElem?_toArray, List.getElem?_cons_succ, List.getElem?_cons_zero]; rfl) (fun K hK => ?_) (AllReadyT.nil)
              have hx4 : W3.ownsRow (w1.heap.size + 1) 3 1 v7 k ((mo9 k).map (Value.int .i64)) := by
                have := R3.out.two.r2
                rw [mo9_length] at this
                exact this
              have z4 := R3.out.size
              obtain ⟨u4, W4, hr4, ho4, hg4, -, hor4⟩ := run_append_own_at (P := Try.prog) W3 (w1.heap.size + 1) 24 24 3 fi (.int .i64 0) 1 8 underlying_ints hfi hz0 hz1 hz2 rfl (by decide) v7 k _ hx4 ⟨g3, 0, none⟩ 1 1 [.int .i64 (d : Int)] rfl (news1 N63.out.cell0) (by intro v hv; simp at hv; subst hv; rfl) (by unfold maxLen; omega) (by omega) (by omega)
              refine step_append rfl _ _ 24 rfl _ _ rfl rfl _ _ hr4 ?_
              have R4 := Lib.hid (R3.out.app7 (x := (d : Int)) (by rw [mo9_length]; exact ho4) hg4 hor4)
              have far4 : ∀ q, (v7).ownBlock = some q → q < w2.heap.size ∧ q ≠ w1.heap.size + 1 + 1 + 1 ∧ q ≠ w1.heap.size + 1 + 1 + 1 + 1 := fun q hq => FAR.out q (.inr hq)
              have A4 : Hid (Blk1 W4 _ 24 v6) := (hg4.block _ A3.out.lt (fun e => (far4 _ e.symm).2.1 rfl)).trans A3.out
              have B4 : Hid (Blk1 W4 _ 24 v7) := (hg4.block _ B3.out.lt (fun e => (far4 _ e.symm).2.2 rfl)).trans B3.out
              try dsimp only
              refine hK.out _ _ (fun _ => ⟨A4.out.cell0, B4.out.cell0⟩) ?_
              have hH := (⟨A4.out.cell0, B4.out.cell0⟩ : _ ∧ _)
              obtain ⟨q4, e4, rfl⟩ := rowL_form ho4
              clear hK K hx4 hr4 ho4 hg4 hor4 far4
              try simp only [Act.put, List.setIfInBounds_toArray, List.set_cons_zero, List.set_cons_succ]
              refine wpAnyT_ready (rs := [8]) (by kernel_rfl) (by simp) ?_
              refine AllReadyT.cons (by simp only [List.getElem?_toArray, List.getElem?_cons_succ, List.getElem?_cons_zero]; rfl) (fun K hK => ?_) (AllReadyT.nil)
              have y5a := A4.out.cell0
              have y5b := A4.out.free 0
              go_simp
              try dsimp only
              have R5 := Lib.hid (R4.out.box (c := w1.heap.size + 1 + 1 + 1) (.inl rfl) (.slice q2 (k + 1) e2))
              have A5 := Lib.hid (A4.out.set0 (.slice q2 (k + 1) e2))
              have B5 := Lib.hid (B4.out.far (a := ⟨w1.heap.size + 1 + 1 + 1, 0, none⟩) (by show _ ≠ _; simp) (.slice q2 (k + 1) e2))
              clear y5a y5b
              refine hK.out _ _ (fun h => absurd h (by decide)) ?_
              clear hK K
              try simp only [Act.put, List.setIfInBounds_toArray, List.set_cons_zero, List.set_cons_succ]
              refine wpAnyT_ready (rs := [9]) (by kernel_rfl) (by simp) ?_
              refine AllReadyT.cons (by simp only [List.getElem?_toArray, List.getElem?_cons_succ, List.getElem?_cons_zero]; rfl) (fun K hK => ?_) (AllReadyT.nil)
              have y6a := B5.out.cell0
              have y6b := B5.out.free 0
              go_simp
              try dsimp only
              have R6 := Lib.hid (R5.out.box (c := w1.heap.size + 1 + 1 + 1 + 1) (.inr rfl) (.slice q4 (k + 1) e4))
              have B6 := Lib.hid (B5.out.set0 (.slice q4 (k + 1) e4))
              have A6 := Lib.hid (A5.out.far (a := ⟨w1.heap.size + 1 + 1 + 1 + 1, 0, none⟩) (by show _ ≠ _; simp) (.slice q4 (k + 1) e4))
              clear y6a y6b
              refine hK.out _ _ (fun h => absurd h (by decide)) ?_
              clear hK K
              try simp only [Act.put, List.setIfInBounds_toArray, List.set_cons_zero, List.set_cons_succ]
              refine wpAnyT_done (by kernel_rfl) ?_ _
              exact ⟨rfl, _, _, _, _, rfl, R6.out, A6.out, B6.out⟩
            ·
              go_simp
              try dsimp only
              have N27 := Lib.hid (N21.out.old (.cells #[.int .i64 (d : Int)] 3))
              have R7 := Lib.hid (R1.out.alloc (.cells #[.int .i64 (d : Int)] 3))
              have A7 := Lib.hid (A1.out.old (.cells #[.int .i64 (d : Int)] 3))
              have B7 := Lib.hid (B1.out.old (.cells #[.int .i64 (d : Int)] 3))
              have N67 : Hid (Blk1 (W1.alloc (.cells #[.int .i64 (d : Int)] 3)) W1.heap.size 3 (.int .i64 (d : Int))) := Blk1.at_ _ _ rfl
              have l7 := R1.out.size
              refine hK.out _ _ (fun _ => ⟨A7.out.cell0, B7.out.cell0⟩) ?_
              have hH := (⟨A7.out.cell0, B7.out.cell0⟩ : _ ∧ _)
              clear hK K
              obtain ⟨g7, hg7⟩ : ∃ g, W1.heap.size = g := ⟨_, rfl⟩
              obtain ⟨W7, hw7⟩ : ∃ W, W1.alloc (.cells #[.int .i64 (d : Int)] 3) = W := ⟨_, rfl⟩
              rw [hg7] at N67 l7 ⊢
              rw [hw7] at R7 A7 B7 N67 N27 ⊢
              clear hg7 hw7
              try simp only [Act.put, List.setIfInBounds_toArray, List.set_cons_zero, List.set_cons_succ]
              refine wpAnyT_ready (rs := [3]) (by kernel_rfl) (by simp) ?_
              refine AllReadyT.cons (by simp only [List.getElem?_toArray, List.getElem?_cons_succ, List.getElem?_cons_zero]; rfl) (fun K hK => ?_) (AllReadyT.nil)
              have hx8 : W7.ownsRow (w1.heap.size + 1) 3 1 v6 k ((re9 D k).map (Value.int .i64)) := by
                have := R7.out.two.r1
                rw [re9_length] at this
                exact this
              have z8 := R7.out.size
              obtain ⟨u8, W8, hr8, ho8, hg8, -, hor8⟩ := run_append_own_at (P := Try.prog) W7 (w1.heap.size + 1) 24 24 3 fi (.int .i64 0) 1 8 underlying_ints hfi hz0 hz1 hz2 rfl (by decide) v6 k _ hx8 ⟨g1, 0, none⟩ 1 1 [.int .i64 z] rfl (news1 N27.out.cell0) (by intro v hv; simp at hv; subst hv; rfl) (by unfold maxLen; omega) (by omega) (by omega)
              refine step_append rfl _ _ 24 rfl _ _ rfl rfl _ _ hr8 ?_
              have R8 := Lib.hid (R7.out.app6 (x := z) (by rw [re9_length]; exact ho8) hg8 hor8)
              have far8 : ∀ q, (v6).ownBlock = some q → q < w2.heap.size ∧ q ≠ w1.heap.size + 1 + 1 + 1 ∧ q ≠ w1.heap.size + 1 + 1 + 1 + 1 := fun q hq => FAR.out q (.inl hq)
              have A8 : Hid (Blk1 W8 _ 24 v6) := (hg8.block _ A7.out.lt (fun e => (far8 _ e.symm).2.1 rfl)).trans A7.out
              have B8 : Hid (Blk1 W8 _ 24 v7) := (hg8.block _ B7.out.lt (fun e => (far8 _ e.symm).2.2 rfl)).trans B7.out
              have N68 : Hid (Blk1 W8 g7 3 (.int .i64 (d : Int))) := (hg8.block _ N67.out.lt (fun e => by have := far8 _ e.symm; have := l7; omega)).trans N67.out
              try dsimp only
              refine hK.out _ _ (fun _ => ⟨A8.out.cell0, B8.out.cell0⟩) ?_
              have hH := (⟨A8.out.cell0, B8.out.cell0⟩ : _ ∧ _)
              obtain ⟨q8, e8, rfl⟩ := rowL_form ho8
              clear hK K hx8 hr8 ho8 hg8 hor8 far8
              try simp only [Act.put, List.setIfInBounds_toArray, List.set_cons_zero, List.set_cons_succ]
              refine wpAnyT_ready (rs := [7]) (by kernel_rfl) (by simp) ?_
              refine AllReadyT.cons (by simp only [List.getElem?_toArray, List.getElem?_cons_succ, List.getElem?_cons_zero]; rfl) (fun K hK => ?_) (AllReadyT.nil)
              have hx9 : W8.ownsRow (w1.heap.size + 1) 3 1 v7 k ((mo9 k).map (Value.int .i64)) := by
                have := R8.out.two.r2
                rw [mo9_length] at this
                exact this
              have z9 := R8.out.size
              obtain ⟨u9, W9, hr9, ho9, hg9, -, hor9⟩ := run_append_own_at (P := Try.prog) W8 (w1.heap.size + 1) 24 24 3 fi (.int .i64 0) 1 8 underlying_ints hfi hz0 hz1 hz2 rfl (by decide) v7 k _ hx9 ⟨g7, 0, none⟩ 1 1 [.int .i64 (d : Int)] rfl (news1 N68.out.cell0) (by intro v hv; simp at hv; subst hv; rfl) (by unfold maxLen; omega) (by omega) (by omega)
              refine step_append rfl _ _ 24 rfl _ _ rfl rfl _ _ hr9 ?_
              have R9 := Lib.hid (R8.out.app7 (x := (d : Int)) (by rw [mo9_length]; exact ho9) hg9 hor9)
              have far9 : ∀ q, (v7).ownBlock = some q → q < w2.heap.size ∧ q ≠ w1.heap.size + 1 + 1 + 1 ∧ q ≠ w1.heap.size + 1 + 1 + 1 + 1 := fun q hq => FAR.out q (.inr hq)
              have A9 : Hid (Blk1 W9 _ 24 v6) := (hg9.block _ A8.out.lt (fun e => (far9 _ e.symm).2.1 rfl)).trans A8.out
              have B9 : Hid (Blk1 W9 _ 24 v7) := (hg9.block _ B8.out.lt (fun e => (far9 _ e.symm).2.2 rfl)).trans B8.out
              try dsimp only
              refine hK.out _ _ (fun _ => ⟨A9.out.cell0, B9.out.cell0⟩) ?_
              have hH := (⟨A9.out.cell0, B9.out.cell0⟩ : _ ∧ _)
              obtain ⟨q9, e9, rfl⟩ := rowL_form ho9
              clear hK K hx9 hr9 ho9 hg9 hor9 far9
              try simp only [Act.put, List.setIfInBounds_toArray, List.set_cons_zero, List.set_cons_succ]
              refine wpAnyT_ready (rs := [8]) (by kernel_rfl) (by simp) ?_
              refine AllReadyT.cons (by simp only [List.getElem?_toArray, List.getElem?_cons_succ, List.getElem?_cons_zero]; rfl) (fun K hK => ?_) (AllReadyT.nil)
              have y10a := A9.out.cell0
              have y10b := A9.out.free 0
              go_simp
              try dsimp only
              have R10 := Lib.hid (R9.out.box (c := w1.heap.size + 1 + 1 + 1) (.inl rfl) (.slice q8 (k + 1) e8))
              have A10 := Lib.hid (A9.out.set0 (.slice q8 (k + 1) e8))
              have B10 := Lib.hid (B9.out.far (a := ⟨w1.heap.size + 1 + 1 + 1, 0, none⟩) (by show _ ≠ _; simp) (.slice q8 (k + 1) e8))
              clear y10a y10b
              refine hK.out _ _ (fun h => absurd h (by decide)) ?_
              clear hK K
              try simp only [Act.put, List.setIfInBounds_toArray, List.set_cons_zero, List.set_cons_succ]
              refine wpAnyT_ready (rs := [9]) (by kernel_rfl) (by simp) ?_
              refine AllReadyT.cons (by simp only [List.getElem?_toArray, List.getElem?_cons_succ, List.getElem?_cons_zero]; rfl) (fun K hK => ?_) (AllReadyT.nil)
              have y11a := B10.out.cell0
              have y11b := B10.out.free 0
              go_simp
              try dsimp only
              have R11 := Lib.hid (R10.out.box (c := w1.heap.size + 1 + 1 + 1 + 1) (.inr rfl) (.slice q9 (k + 1) e9))
              have B11 := Lib.hid (B10.out.set0 (.slice q9 (k + 1) e9))
              have A11 := Lib.hid (A10.out.far (a := ⟨w1.heap.size + 1 + 1 + 1 + 1, 0, none⟩) (by show _ ≠ _; simp) (.slice q9 (k + 1) e9))
              clear y11a y11b
              refine hK.out _ _ (fun h => absurd h (by decide)) ?_
              clear hK K
              try simp only [Act.put, List.setIfInBounds_toArray, List.set_cons_zero, List.set_cons_succ]
              refine wpAnyT_done (by kernel_rfl) ?_ _
              exact ⟨rfl, _, _, _, _, rfl, R11.out, A11.out, B11.out⟩
          ·
            go_simp
            try dsimp only
            have R12 := Lib.hid (R0.out.alloc (.cells #[.int .i64 (d : Int)] 3))
            have A12 := Lib.hid (A0.out.old (.cells #[.int .i64 (d : Int)] 3))
            have B12 := Lib.hid (B0.out.old (.cells #[.int .i64 (d : Int)] 3))
            have N612 : Hid (Blk1 (W3.alloc (.cells #[.int .i64 (d : Int)] 3)) W3.heap.size 3 (.int .i64 (d : Int))) := Blk1.at_ _ _ rfl
            have l12 := R0.out.size
            refine hK.out _ _ (fun _ => ⟨A12.out.cell0, B12.out.cell0⟩) ?_
            have hH := (⟨A12.out.cell0, B12.out.cell0⟩ : _ ∧ _)
            clear hK K
            obtain ⟨g12, hg12⟩ : ∃ g, W3.heap.size = g := ⟨_, rfl⟩
            obtain ⟨W12, hw12⟩ : ∃ W, W3.alloc (.cells #[.int .i64 (d : Int)] 3) = W := ⟨_, rfl⟩
            rw [hg12] at N612 l12 ⊢
            rw [hw12] at R12 A12 B12 N612 ⊢
            clear hg12 hw12
            try simp only [Act.put, List.setIfInBounds_toArray, List.set_cons_zero, List.set_cons_succ]
            refine wpAnyT_ready (rs := [2]) (by kernel_rfl) (by simp) ?_
            refine AllReadyT.cons (by simp only [List.getElem?_toArray, List.getElem?_cons_succ, List.getElem?_cons_zero]; rfl) (fun K hK => ?_) (AllReadyT.nil)
            go_simp
            try dsimp only
            have N613 := Lib.hid (N612.out.old (.cells #[.int .i64 z] 3))
            have R13 := Lib.hid (R12.out.alloc (.cells #[.int .i64 z] 3))
            have A13 := Lib.hid (A12.out.old (.cells #[.int .i64 z] 3))
            have B13 := Lib.hid (B12.out.old (.cells #[.int .i64 z] 3))
            have N213 : Hid (Blk1 (W12.alloc (.cells #[.int .i64 z] 3)) W12.heap.size 3 (.int .i64 z)) := Blk1.at_ _ _ rfl
            have l13 := R12.out.size
            refine hK.out _ _ (fun _ => ⟨A13.out.cell0, B13.out.cell0⟩) ?_
            have hH := (⟨A13.out.cell0, B13.out.cell0⟩ : _ ∧ _)
            clear hK K
            obtain ⟨g13, hg13⟩ : ∃ g, W12.heap.size = g := ⟨_, rfl⟩
            obtain ⟨W13, hw13⟩ : ∃ W, W12.alloc (.cells #[.int .i64 z] 3) = W := ⟨_, rfl⟩
            rw [hg13] at N213 l13 ⊢
            rw [hw13] at R13 A13 B13 N213 N613 ⊢
            clear hg13 hw13
            try simp only [Act.put, List.setIfInBounds_toArray, List.set_cons_zero, List.set_cons_succ]
            refine wpAnyT_ready (rs := [3]) (by kernel_rfl) (by simp) ?_
            refine AllReadyT.cons (by simp only [List.getElem?_toArray, List.getElem?_cons_succ, List.getElem?_cons_zero]; rfl) (fun K hK => ?_) (AllReadyT.nil)
            have hx14 : W13.ownsRow (w1.heap.size + 1) 3 1 v6 k ((re9 D k).map (Value.int .i64)) := by
              have := R13.out.two.r1
              rw [re9_length] at this
              exact this
            have z14 := R13.out.size
            obtain ⟨u14, W14, hr14, ho14, hg14, -, hor14⟩ := run_append_own_at (P := Try.prog) W13 (w1.heap.size + 1) 24 24 3 fi (.int .i64 0) 1 8 underlying_ints hfi hz0 hz1 hz2 rfl (by decide) v6 k _ hx14 ⟨g13, 0, none⟩ 1 1 [.int .i64 z] rfl (news1 N213.out.cell0) (by intro v hv; simp at hv; subst hv; rfl) (by unfold maxLen; omega) (by omega) (by omega)
            refine step_append rfl _ _ 24 rfl _ _ rfl rfl _ _ hr14 ?_
            have R14 := Lib.hid (R13.out.app6 (x := z) (by rw [re9_length]; exact ho14) hg14 hor14)
            have far14 : ∀ q, (v6).ownBlock = some q → q < w2.heap.size ∧ q ≠ w1.heap.size + 1 + 1 + 1 ∧ q ≠ w1.heap.size + 1 + 1 + 1 + 1 := fun q hq => FAR.out q (.inl hq)
            have A14 : Hid (Blk1 W14 _ 24 v6) := (hg14.block _ A13.out.lt (fun e => (far14 _ e.symm).2.1 rfl)).trans A13.out
            have B14 : Hid (Blk1 W14 _ 24 v7) := (hg14.block _ B13.out.lt (fun e => (far14 _ e.symm).2.2 rfl)).trans B13.out
            have N614 : Hid (Blk1 W14 g12 3 (.int .i64 (d : Int))) := (hg14.block _ N613.out.lt (fun e => by have := far14 _ e.symm; have := l12; omega)).trans N613.out
            try dsimp only
            refine hK.out _ _ (fun _ => ⟨A14.out.cell0, B14.out.cell0⟩) ?_
            have hH := (⟨A14.out.cell0, B14.out.cell0⟩ : _ ∧ _)
            obtain ⟨q14, e14, rfl⟩ := rowL_form ho14
            clear hK K hx14 hr14 ho14 hg14 hor14 far14
            try simp only [Act.put, List.setIfInBounds_toArray, List.set_cons_zero, List.set_cons_succ]
            refine wpAnyT_ready (rs := [7]) (by kernel_rfl) (by simp) ?_
            refine AllReadyT.cons (by simp only [List.getElem?_toArray, List.getElem?_cons_succ, List.getElem?_cons_zero]; rfl) (fun K hK => ?_) (AllReadyT.nil)
            have hx15 : W14.ownsRow (w1.heap.size + 1) 3 1 v7 k ((mo9 k).map (Value.int .i64)) := by
              have := R14.out.two.r2
              rw [mo9_length] at this
              exact this
            have z15 := R14.out.size
            obtain ⟨u15, W15, hr15, ho15, hg15, -, hor15⟩ := run_append_own_at (P := Try.prog) W14 (w1.heap.size + 1) 24 24 3 fi (.int .i64 0) 1 8 underlying_ints hfi hz0 hz1 hz2 rfl (by decide) v7 k _ hx15 ⟨g12, 0, none⟩ 1 1 [.int .i64 (d : Int)] rfl (news1 N614.out.cell0) (by intro v hv; simp at hv; subst hv; rfl) (by unfold maxLen; omega) (by omega) (by omega)
            refine step_append rfl _ _ 24 rfl _ _ rfl rfl _ _ hr15 ?_
            have R15 := Lib.hid (R14.out.app7 (x := (d : Int)) (by rw [mo9_length]; exact ho15) hg15 hor15)
            have far15 : ∀ q, (v7).ownBlock = some q → q < w2.heap.size ∧ q ≠ w1.heap.size + 1 + 1 + 1 ∧ q ≠ w1.heap.size + 1 + 1 + 1 + 1 := fun q hq => FAR.out q (.inr hq)
            have A15 : Hid (Blk1 W15 _ 24 v6) := (hg15.block _ A14.out.lt (fun e => (far15 _ e.symm).2.1 rfl)).trans A14.out
            have B15 : Hid (Blk1 W15 _ 24 v7) := (hg15.block _ B14.out.lt (fun e => (far15 _ e.symm).2.2 rfl)).trans B14.out
            try dsimp only
            refine hK.out _ _ (fun _ => ⟨A15.out.cell0, B15.out.cell0⟩) ?_
            have hH := (⟨A15.out.cell0, B15.out.cell0⟩ : _ ∧ _)
            obtain ⟨q15, e15, rfl⟩ := rowL_form ho15
            clear hK K hx15 hr15 ho15 hg15 hor15 far15
            try simp only [Act.put, List.setIfInBounds_toArray, List.set_cons_zero, List.set_cons_succ]
            refine wpAnyT_ready (rs := [8]) (by kernel_rfl) (by simp) ?_
            refine AllReadyT.cons (by simp only [List.getElem?_toArray, List.getElem?_cons_succ, List.getElem?_cons_zero]; rfl) (fun K hK => ?_) (AllReadyT.nil)
            have y16a := A15.out.cell0
            have y16b := A15.out.free 0
            go_simp
            try dsimp only
            have R16 := Lib.hid (R15.out.box (c := w1.heap.size + 1 + 1 + 1) (.inl rfl) (.slice q14 (k + 1) e14))
            have A16 := Lib.hid (A15.out.set0 (.slice q14 (k + 1) e14))
            have B16 := Lib.hid (B15.out.far (a := ⟨w1.heap.size + 1 + 1 + 1, 0, none⟩) (by show _ ≠ _; simp) (.slice q14 (k + 1) e14))
            clear y16a y16b
            refine hK.out _ _ (fun h => absurd h (by decide)) ?_
            clear hK K
            try simp only [Act.put, List.setIfInBounds_toArray, List.set_cons_zero, List.set_cons_succ]
            refine wpAnyT_ready (rs := [9]) (by kernel_rfl) (by simp) ?_
            refine AllReadyT.cons (by simp only [List.getElem?_toArray, List.getElem?_cons_succ, List.getElem?_cons_zero]; rfl) (fun K hK => ?_) (AllReadyT.nil)
            have y17a := B16.out.cell0
            have y17b := B16.out.free 0
            go_simp
            try dsimp only
            have R17 := Lib.hid (R16.out.box (c := w1.heap.size + 1 + 1 + 1 + 1) (.inr rfl) (.slice q15 (k + 1) e15))
            have B17 := Lib.hid (B16.out.set0 (.slice q15 (k + 1) e15))
            have A17 := Lib.hid (A16.out.far (a := ⟨w1.heap.size + 1 + 1 + 1 + 1, 0, none⟩) (by show _ ≠ _; simp) (.slice q15 (k + 1) e15))
            clear y17a y17b
            refine hK.out _ _ (fun h => absurd h (by decide)) ?_
            clear hK K
            try simp only [Act.put, List.setIfInBounds_toArray, List.set_cons_zero, List.set_cons_succ]
            refine wpAnyT_done (by kernel_rfl) ?_ _
            exact ⟨rfl, _, _, _, _, rfl, R17.out, A17.out, B17.out⟩
        · rintro a' w3 ⟨u6, u7, t38, t42, rfl, hr, ha, hb⟩
          obtain ⟨E, hE⟩ : ∃ E, P * (d : Int) = E := ⟨_, rfl⟩
          have eE : E = pq9 (k + 1) := by rw [← hE, ← HP.out, ED.out, pq9_step k4]
          have pe := pq9_num (k + 1)
          rw [← RS.out, ← MS.out] at hr
          obtain ⟨p5, -, M', kp, jn⟩ := S2.out.next HB2.out (fun g hg => HM.out g hg) hr ha hb eE
          rw [HP.out] at p5
          have JN : Hid (imI w n N a m w1.heap.size b D (pre ++ [x]) M' (w3.setCell ⟨w1.heap.size + 5, 0, none⟩ (.int .i64 E))) := ⟨k + 1, u6, u7, by omega, fun h5 => pq9_four (k := k) (by omega) (by rw [HP.out]; omega), by rw [prmV_snoc, big9_snoc (by rw [DD.out]; omega), BG.out, mo9_snoc, DD.out, ED.out], jn⟩
          have KP := Lib.hid kp
          have d5 : IntKind.i64.wrap (P * (d : Int)) = E := by rw [hE]; exact IntWalk.i64_in _ (by omega)
          have y5 := p5.cell0
          have y6 := p5.free 0
          have y5 : w3.cell? ⟨w1.heap.size + 1 + 1 + 1 + 1 + 1, 0, none⟩ = some (.int .i64 P) := y5
          have y6 : w3.frozen? ⟨w1.heap.size + 1 + 1 + 1 + 1 + 1, 0, none⟩ = false := y6
          clear hE eE pe hr ha hb p5 kp jn
          gi_wp2
          exact ⟨M', KP.out, JN.out⟩
  case done =>
    rintro ys M W hS ⟨k, v6, v7, hk, h5, hbig, hJ⟩ hM hK
    exact (last9 (k := k) (by rw [← hS]; exact hbig)).elim
  case stop =>
    rintro c pre M W - ⟨rfl, k, v6, v7, hk, h5, hgt, hJ⟩ hM hK
    rw [SZ] at hK hM ⊢
    clear J0
    obtain ⟨q6, e6, rfl⟩ := rowL_form hJ.two.r1
    obtain ⟨q7, e7, rfl⟩ := rowL_form hJ.two.r2
    have cap7 := row_cap hJ.two.r2
    obtain ⟨f6, g6, i6, R6, -⟩ := (Own.of_row hJ.two.r1 (by rw [re9_length]; omega)).form
    obtain ⟨f7, g7, i7, R7, -⟩ := (Own.of_row hJ.two.r2 (by rw [mo9_length]; omega)).form
    injection i6 with i6 i6' i6''
    injection i7 with i7 i7' i7''
    clear i6' i6'' i7' i7''
    subst i6 i7
    have CH : Hid (Calls Try.prog 12 #[.slice q6 k e6, .slice q7 k e7] W (Gives (.tuple #[.int .i64 (chiX (re9 D k) (mo9 k)).1, .int .i64 (chiX (re9 D k) (mo9 k)).2.1, .bool (chiX (re9 D k) (mo9 k)).2.2]) W)) := by
      have := iChin q6 q7 e6 e7 _ _ W R6 R7 (by rw [re9_length]; omega) (by rw [mo9_length]; omega) cap7
      rw [re9_length, mo9_length] at this
      exact this
    rw [re9_length, mo9_length] at hJ
    have J := Lib.hid hJ
    have y3 : W.cell? ⟨w1.heap.size + 1 + 1 + 1, 0, none⟩ = some (.slice q6 k e6) := hJ.im.cell0
    have y4 : W.cell? ⟨w1.heap.size + 1 + 1 + 1 + 1, 0, none⟩ = some (.slice q7 k e7) := hJ.mo.cell0
    have HK := Lib.hid hK
    have lK := (Array.getElem?_eq_some_iff.mp hK).1
    clear hJ hK hM cap7 R6 R7
    by_cases k4 : k ≤ 4
    · obtain ⟨x, e1, e2, e3, x0, x1⟩ := YS.out k k4 (by rw [← pq9_low k4]; exact hgt)
      rw [e1] at CH
      have E2 := Lib.hid e2
      have E3 := Lib.hid e3
      generalize pp9 k = P at CH E2
      clear e1 e2 e3 YS NO x0 x1 hgt
      gi_wp2_with (refine ⟨trivial, ?_⟩; first | (gi_at_call 12; refine (callsIn_wide.2 CH.out).mono ?_; rintro e w2 ⟨rfl, hb2⟩; have p5 := J.out.pr.keep hb2 J.out.pr.lt; have y5 : w2.cell? ⟨w1.heap.size + 1 + 1 + 1 + 1 + 1, 0, none⟩ = some (.int .i64 (pq9 k)) := p5.cell0; have y6 : w2.frozen? ⟨w1.heap.size + 1 + 1 + 1 + 1 + 1, 0, none⟩ = false := p5.free 0; have y7 : (w2.setCell ⟨w1.heap.size + 1 + 1 + 1 + 1 + 1, 0, none⟩ (.int .i64 P)).cell? ⟨w1.heap.size + 1 + 1 + 1 + 1 + 1, 0, none⟩ = some (.int .i64 P) := (p5.set0 (.int .i64 P)).cell0) | (gi_at_call 14; refine (callsIn_wide.2 (iSymm x P _)).mono ?_; rintro e w3 ⟨rfl, ns, rfl⟩; rw [E2.out]))
      have p8 : (w2.setCell ⟨w1.heap.size + 1 + 1 + 1 + 1 + 1, 0, none⟩ (.int .i64 P)).heap[w1.heap.size + 6]? = some (.deferred (some [])) := (Below.heap_setCell w2 ⟨w1.heap.size + 1 + 1 + 1 + 1 + 1, 0, none⟩ _ _ (by show w1.heap.size + 6 ≠ w1.heap.size + 1 + 1 + 1 + 1 + 1; omega)).trans ((hb2.block _ lK).trans HK.out)
      have b8 : Below w.heap.size w (w2.setCell ⟨w1.heap.size + 1 + 1 + 1 + 1 + 1, 0, none⟩ (.int .i64 P)) := (J.out.bel.trans (hb2.mono J.out.bel.size)).setCell (by have := J.out.lt; show w.heap.size ≤ w1.heap.size + 1 + 1 + 1 + 1 + 1; omega) _
      have lw := J.out.lt
      have s8 := b8.size
      refine ⟨by simp, .inl ⟨_, _, rfl, run_takeDeferred (by first | exact p8 | (rw [show ∀ (W : World) n, (W.drewN n).heap = W.heap from fun _ _ => rfl]; exact p8)), ?_⟩⟩
      refine ⟨.tuple #[.int .i64 RES.1, .bool RES.2], by simp [results, Try.f21, go_sem], rfl, ?_⟩
      exact (by first | exact below_drewN b8 _ | exact b8 : Below w.heap.size w _).grown (grownBy_putObj' _ _ _) (by first | exact s8 | (simp; omega)) (fun k e => by cases e; omega)
    · obtain rfl : k = 5 := by omega
      rw [chi9_five] at CH
      have V := Lib.hid (NO.out (h5 rfl))
      clear YS NO hgt h5
      gi_wp2_with (refine ⟨trivial, ?_⟩; first | (gi_at_call 12; refine (callsIn_wide.2 CH.out).mono ?_; rintro e w2 ⟨rfl, hb2⟩; have p5 := J.out.pr.keep hb2 J.out.pr.lt; have y5 : w2.cell? ⟨w1.heap.size + 1 + 1 + 1 + 1 + 1, 0, none⟩ = some (.int .i64 (pq9 5)) := p5.cell0; have y6 : w2.frozen? ⟨w1.heap.size + 1 + 1 + 1 + 1 + 1, 0, none⟩ = false := p5.free 0; have y7 : (w2.setCell ⟨w1.heap.size + 1 + 1 + 1 + 1 + 1, 0, none⟩ (.int .i64 0)).cell? ⟨w1.heap.size + 1 + 1 + 1 + 1 + 1, 0, none⟩ = some (.int .i64 0) := (p5.set0 (.int .i64 0)).cell0))
      have p8 : (w2.setCell ⟨w1.heap.size + 1 + 1 + 1 + 1 + 1, 0, none⟩ (.int .i64 0)).heap[w1.heap.size + 6]? = some (.deferred (some [])) := (Below.heap_setCell w2 ⟨w1.heap.size + 1 + 1 + 1 + 1 + 1, 0, none⟩ _ _ (by show w1.heap.size + 6 ≠ w1.heap.size + 1 + 1 + 1 + 1 + 1; omega)).trans ((hb2.block _ lK).trans HK.out)
      have b8 : Below w.heap.size w (w2.setCell ⟨w1.heap.size + 1 + 1 + 1 + 1 + 1, 0, none⟩ (.int .i64 0)) := (J.out.bel.trans (hb2.mono J.out.bel.size)).setCell (by have := J.out.lt; show w.heap.size ≤ w1.heap.size + 1 + 1 + 1 + 1 + 1; omega) _
      have lw := J.out.lt
      have s8 := b8.size
      refine ⟨by simp, .inl ⟨_, _, rfl, run_takeDeferred (by first | exact p8 | (rw [show ∀ (W : World) n, (W.drewN n).heap = W.heap from fun _ _ => rfl]; exact p8)), ?_⟩⟩
      refine ⟨.tuple #[.int .i64 0, .bool false], by simp [results, Try.f21, go_sem], by rw [V.out], ?_⟩
      exact (by first | exact below_drewN b8 _ | exact b8 : Below w.heap.size w _).grown (grownBy_putObj' _ _ _) (by first | exact s8 | (simp; omega)) (fun k e => by cases e; omega)
end Go.Proofs.Ytgemkfcapkfdbaa
end

section
/-
  Chapter 9, in the program: DeterminantByImages of any matrix.
-/
namespace Go.Proofs.Ytgemkfcapkfdbaa
set_option maxRecDepth 100000
open Go.RowKit

theorem iImg_no (r c : Int) (a : Option Addr) (m : Nat) (xs : List Int) (w : World) (h : Rd w a xs) (hn : xs.length ≤ 16777216) (e1 : bndX r c xs = (0, false)) (e2 : imX r c xs = (0, false)) :
    Calls Try.prog 21 #[.agg #[.int .i64 r, .int .i64 c, .slice a xs.length m]] w (Gives (.tuple #[.int .i64 (imX r c xs).1, .bool (imX r c xs).2]) w) := by
  have BD : Hid (∀ w', Below w.heap.size w w' → Calls Try.prog 22 #[.agg #[.int .i64 r, .int .i64 c, .slice a xs.length m]] w' (Gives (.tuple #[.int .i64 0, .bool false]) w')) := fun w' hb => by
    have := iBnd r c a m xs w' (h.below hb) hn
    rw [e1] at this
    exact this
  have B0 : Hid (Below w.heap.size w (w.alloc (.cells #[.int .i64 r, .int .i64 c, .slice a xs.length m] 34))) := (Below.refl _ _).alloc (Nat.le_refl _) _
  rw [e2]
  generalize xs.length = L at BD B0 ⊢
  clear h hn e1 e2
  go_enter Try.func21, Try.ntmps21
  go_wp2_with fail
  refine (BD.out _ B0.out).mono ?_
  rintro e w1 ⟨rfl, hb⟩
  have B1 := B0.out.trans (hb.mono (by simp))
  have B2 := Lib.hid (B1.alloc B1.size (.cells #[.int .i64 0] 3))
  clear B1 hb
  go_wp2_with fail
  exact bodyPost_ret (v := .tuple #[.int .i64 0, .bool false]) (by simp [results, Try.results21, go_sem]) rfl ⟨rfl, B2.out⟩
theorem iImg (r c : Int) (a : Option Addr) (m : Nat) (xs : List Int) (w : World) (h : Rd w a xs) (hn : xs.length ≤ 16777216) :
    Calls Try.prog 21 #[.agg #[.int .i64 r, .int .i64 c, .slice a xs.length m]] w (Gives (.tuple #[.int .i64 (imX r c xs).1, .bool (imX r c xs).2]) w) := by
  rcases Bool.eq_false_or_eq_true (isSq r c xs) with hs | hs
  · obtain ⟨n, rfl, rfl, h6, hl, hnum⟩ := isSq_says hs
    rcases bnd_case hs with ⟨e1, e2⟩ | ⟨b, e1, b0, b1⟩
    · exact iImg_no n n a m xs w h hn e1 e2
    · exact iImg_in n a m xs.length xs w h rfl hs b e1 b0 b1
  · obtain ⟨e1, e2⟩ := imX_sq hs
    exact iImg_no r c a m xs w h hn e1 e2
end Go.Proofs.Ytgemkfcapkfdbaa
end
