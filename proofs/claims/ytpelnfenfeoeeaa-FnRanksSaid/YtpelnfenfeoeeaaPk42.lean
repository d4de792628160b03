/-
  Texts of this seat, joined: ZBHbI · ZBFoldM · ZBSwR · ZBNumGcd · ZBClI · ZBEcI · ZBEcJ · ZBErI · ZBModM · ZBModD · ZBChiM · ZBMinM · ZBMinS
-/
import Derived.StillTailTactics
import Derived.IntWalk
import Derived.Deep.RegionHeld3
import Derived.BigQuiet
import Derived.Test.YtpelnfenfeoeeaaPk35
import Derived.Test.YtpelnfenfeoeeaaPk37
import Derived.Test.YtpelnfenfeoeeaaPk38
import Derived.Test.YtpelnfenfeoeeaaPk39
import Derived.Test.YtpelnfenfeoeeaaPk41

section
/-
  Chapter 12, in the program: BasisOf.
-/
namespace Go.Proofs.Ytpelnfenfeoeeaa
set_option maxRecDepth 100000
open Go.RowKit
theorem bas_rows {R C T : Nat} {xs : List Int} {p : Nat → Nat} (h : HerP R C (mxC C xs) p T) : T ≤ R ∧ rowsN C xs R = T ∧ (∀ i, i < T → leadC C (mxC C xs i) < C) ∧ (∀ i, T ≤ i → i < R → leadC C (mxC C xs i) = C) := by
  have h1 := rowsN_her h R (Nat.le_refl _)
  have h2 := h.le
  refine ⟨h2, by omega, fun i hi => ?_, fun i h3 h4 => h.lead_no h3 h4⟩
  rw [h.lead_at hi]
  exact h.col i hi
theorem Own.front {B n m P : Nat} {w : World} {q : Option Addr} {zs : List Int} (h : Own B w (.slice q n m) zs) (hP : P ≤ zs.length) : Own B w (.slice q P m) (zs.take P) := by
  have hl : (zs.take P).length = P := by rw [List.length_take]; omega
  rcases h with ⟨e, h0⟩ | ⟨g, c, e, hB, ⟨rest, hg⟩, h1, h2⟩
  · injection e with e1 e2 e3
    subst e1 e2 e3 h0
    have : P = 0 := by simpa using hP
    subst this
    exact .inl ⟨rfl, rfl⟩
  · injection e with e1 e2 e3
    subst e1 e2 e3
    refine .inr ⟨g, m, by rw [hl], hB, ⟨(zs.drop P).map (Value.int .i64) ++ rest, ?_⟩, by omega, by omega⟩
    rw [hg, ← List.append_assoc, ← List.map_append, List.take_append_drop]
set_option maxHeartbeats 8000000 in
theorem iBasis (r c : Int) (a : Option Addr) (m : Nat) (xs : List Int) (w : World) (h : Rd w a xs) (hn : xs.length ≤ 16777216) (ha : Spot a) :
    Calls Try.prog 32 #[.agg #[.int .i64 r, .int .i64 c, .slice a xs.length m]] w (MatRes (basR r c xs) w) := by
  have HF : Hid (∀ w', Below w.heap.size w w' → Calls Try.prog 37 #[.agg #[.int .i64 r, .int .i64 c, .slice a xs.length m]] w' (HerG w' (herR r c xs))) := fun w' hb => iHerm r c a m xs w' (h.below hb) hn ha
  cases hok : (herR r c xs).ok with
  | false =>
    have RN : Hid (basR r c xs = ⟨false, 0, 0, []⟩) := by show _ = _; unfold basR; rw [if_neg (by rw [hok]; decide)]
    generalize basR r c xs = RES at RN ⊢
    generalize herR r c xs = HH at HF hok
    generalize xs.length = L at HF ⊢
    clear h hn ha
    go_enter Try.func32, Try.ntmps32
    go_upto_region 1 with fail
    have K0 : Hid (Blk3 ((w.alloc (.cells #[.int .i64 r, .int .i64 c, .slice a L m] 26)).alloc (.cells #[.int .i64 0, .int .i64 0, .slice none 0 0] 26)) w.heap.size 26 (.int .i64 r) (.int .i64 c) (.slice a L m)) := (Blk3.at_ _ _ _ _ rfl).old _
    have R0 : Hid (Blk3 ((w.alloc (.cells #[.int .i64 r, .int .i64 c, .slice a L m] 26)).alloc (.cells #[.int .i64 0, .int .i64 0, .slice none 0 0] 26)) (w.heap.size + 1) 26 (.int .i64 0) (.int .i64 0) (.slice none 0 0)) := Blk3.at_ _ _ _ _ (by simp)
    have B0 : Hid (Below w.heap.size w ((w.alloc (.cells #[.int .i64 r, .int .i64 c, .slice a L m] 26)).alloc (.cells #[.int .i64 0, .int .i64 0, .slice none 0 0] 26))) := ((Below.refl _ _).alloc (Nat.le_refl _) _).alloc (by simp) _
    have S0 : Hid (((w.alloc (.cells #[.int .i64 r, .int .i64 c, .slice a L m] 26)).alloc (.cells #[.int .i64 0, .int .i64 0, .slice none 0 0] 26)).heap.size = w.heap.size + 2) := by show _ = _; simp
    generalize (w.alloc (.cells #[.int .i64 r, .int .i64 c, .slice a L m] 26)).alloc (.cells #[.int .i64 0, .int .i64 0, .slice none 0 0] 26) = W0 at K0 R0 B0 S0 ⊢
    obtain ⟨p0, p1, p2, -, -, -⟩ := K0.out.all
    go_wp2_with fail
    refine (HF.out _ B0.out).mono ?_
    rintro e w1 ⟨va, vb, rfl, oa, ob, -, hb⟩
    obtain ⟨qa, ca, rfl, -, -⟩ := oa.form
    obtain ⟨qb, cb, rfl, -, -⟩ := ob.form
    rw [hok]
    have R1 := Lib.hid (((R0.out.step hb).old (.cells #[.int .i64 HH.r1, .int .i64 HH.c1, .slice qa HH.zs.length ca] 26)).old (.cells #[.int .i64 HH.r2, .int .i64 HH.c2, .slice qb HH.us.length cb] 26))
    have B1 := Lib.hid (((B0.out.trans (hb.mono (by have := S0.out; omega))).alloc (by have := S0.out; have := hb.size; omega) (.cells #[.int .i64 HH.r1, .int .i64 HH.c1, .slice qa HH.zs.length ca] 26)).alloc (by have := S0.out; have := hb.size; simp; omega) (.cells #[.int .i64 HH.r2, .int .i64 HH.c2, .slice qb HH.us.length cb] 26))
    clear hb oa ob p0 p1 p2 K0 R0 B0
    go_upto_region 2 with fail
    generalize (w1.alloc (.cells #[.int .i64 HH.r1, .int .i64 HH.c1, .slice qa HH.zs.length ca] 26)).alloc (.cells #[.int .i64 HH.r2, .int .i64 HH.c2, .slice qb HH.us.length cb] 26) = W1 at R1 B1 ⊢
    obtain ⟨r0, r1, r2, f0, f1, f2⟩ := R1.out.all
    go_wp2_with fail
    obtain ⟨E0, E1, E2, -, -, -⟩ := (((R1.out.set0 (.int .i64 0)).set1 (.int .i64 0)).set2 (.slice none 0 0)).all
    refine bodyPost_ret (v := .tuple #[.agg #[.int .i64 0, .int .i64 0, .slice none 0 0], .bool false]) (by simp [results, Try.results32, go_sem, E0, E1, E2]) rfl ?_
    rw [RN.out]
    exact ⟨_, rfl, .inl ⟨rfl, rfl⟩, ((B1.out.setCell (by show w.heap.size ≤ w.heap.size + 1; omega) _).setCell (by show w.heap.size ≤ w.heap.size + 1; omega) _).setCell (by show w.heap.size ≤ w.heap.size + 1; omega) _⟩
  | true =>
    obtain ⟨R, C, s, rfl, rfl, R24, C24, ex, eh, SZ⟩ := herR_ok hok
    have hm : isMat R C xs = true := by
      cases hm : isMat (R : Int) C xs with
      | true => rfl
      | false => unfold herR at hok; rw [if_neg (by rw [hm]; decide)] at hok; cases hok
    obtain ⟨-, -, hl, nx⟩ := isMat_says hm
    have hl : xs.length = R * C := by rw [← Int.natCast_mul] at hl; omega
    obtain ⟨p, T, hP⟩ := (herX_says hl nx ex).2
    obtain ⟨tR, tN, tL, tZ⟩ := bas_rows hP
    have RY : Hid (basR R C xs = ⟨true, T, C, s.1.take (T * C)⟩) := by show _ = _; unfold basR; rw [if_pos hok, eh]; show (⟨true, ((rowsN C s.1 R : Nat) : Int), C, s.1.take (rowsN C s.1 R * C)⟩ : MR) = _; rw [tN]
    have hbd : R * C ≤ 24 * 24 := Nat.mul_le_mul R24 C24
    have hTC : T * C ≤ R * C := Nat.mul_le_mul_right C tR
    have RW : Hid (∀ i (q : Option Addr) (m' : Nat) w', i < R → CelA q (R * C) m' → Calls Try.prog 83 #[.agg #[.int .i64 R, .int .i64 C, .slice q (R * C) m'], .int .i64 i] w' (RowAt q (i * C) C w')) := fun i q m' w' hi hq => iRowIn R C i (i * C) (R * C) m' q w' hq.spot rfl (by rw [← Nat.succ_mul]; exact Nat.mul_le_mul_right _ hi) hq.le hq.nil (by omega) (by omega)
    have RD : Hid (∀ i (q q' : Option Addr) w', i < R → Rd w' q s.1 → (∀ g o : Nat, q = some ⟨g, o, none⟩ → 0 < C → q' = some ⟨g, o + i * C, none⟩) → Rd w' q' (rwL C (mxC C s.1 i))) := fun i q q' w' hi h' hq => h'.row SZ.l1 hi hq
    have LDC : Hid (∀ i q' m' w', Rd w' q' (rwL C (mxC C s.1 i)) → Calls Try.prog 82 #[.slice q' C m'] w' (Gives (.int .i64 (leadC C (mxC C s.1 i) : Int)) w')) := fun i q' m' w' h1 => by
      refine (iLead C m' q' _ w' h1 C24).mono ?_
      rintro e w2 ⟨rfl, rfl⟩
      exact ⟨rfl, Below.refl _ _⟩
    have L1 := Lib.hid SZ.l1
    have LT := Lib.hid tL
    have LZ := Lib.hid tZ
    rw [eh] at HF
    rw [RY.out]
    have v1 : IntKind.i64.wrap ((T : Int) * (C : Int)) = ((T * C : Nat) : Int) := by rw [← Int.natCast_mul]; exact IntWalk.i64_in _ (by omega)
    obtain ⟨P, hP9⟩ : ∃ P, T * C = P := ⟨_, rfl⟩
    rw [hP9] at hTC v1 ⊢
    obtain ⟨N, hN9⟩ : ∃ N, R * C = N := ⟨_, rfl⟩
    rw [hN9] at RW L1 hTC hbd
    generalize xs.length = L at HF ⊢
    clear h hn ha hok eh SZ RY hP9 hN9 hm hl nx hP tN tL tZ ex
    go_enter Try.func32, Try.ntmps32
    go_upto_region 1 with fail
    have K0 : Hid (Blk3 ((w.alloc (.cells #[.int .i64 R, .int .i64 C, .slice a L m] 26)).alloc (.cells #[.int .i64 0, .int .i64 0, .slice none 0 0] 26)) w.heap.size 26 (.int .i64 R) (.int .i64 C) (.slice a L m)) := (Blk3.at_ _ _ _ _ rfl).old _
    have R0 : Hid (Blk3 ((w.alloc (.cells #[.int .i64 R, .int .i64 C, .slice a L m] 26)).alloc (.cells #[.int .i64 0, .int .i64 0, .slice none 0 0] 26)) (w.heap.size + 1) 26 (.int .i64 0) (.int .i64 0) (.slice none 0 0)) := Blk3.at_ _ _ _ _ (by simp)
    have B0 : Hid (Below w.heap.size w ((w.alloc (.cells #[.int .i64 R, .int .i64 C, .slice a L m] 26)).alloc (.cells #[.int .i64 0, .int .i64 0, .slice none 0 0] 26))) := ((Below.refl _ _).alloc (Nat.le_refl _) _).alloc (by simp) _
    have S0 : Hid (((w.alloc (.cells #[.int .i64 R, .int .i64 C, .slice a L m] 26)).alloc (.cells #[.int .i64 0, .int .i64 0, .slice none 0 0] 26)).heap.size = w.heap.size + 2) := by show _ = _; simp
    generalize (w.alloc (.cells #[.int .i64 R, .int .i64 C, .slice a L m] 26)).alloc (.cells #[.int .i64 0, .int .i64 0, .slice none 0 0] 26) = W0 at K0 R0 B0 S0 ⊢
    obtain ⟨p0, p1, p2, -, -, -⟩ := K0.out.all
    go_wp2_with fail
    refine (HF.out _ B0.out).mono ?_
    rintro e w1 ⟨va, vb, rfl, oa, ob, -, hb⟩
    dsimp only at oa ob ⊢
    obtain ⟨qa, ca, rfl, -, -⟩ := oa.form
    obtain ⟨qb, cb, rfl, -, -⟩ := ob.form
    rw [L1.out] at oa ⊢
    have R1 := Lib.hid (((R0.out.step hb).old (.cells #[.int .i64 R, .int .i64 C, .slice qa N ca] 26)).old (.cells #[.int .i64 R, .int .i64 R, .slice qb s.2.length cb] 26))
    have A1 : Hid (Blk3 ((w1.alloc (.cells #[.int .i64 R, .int .i64 C, .slice qa N ca] 26)).alloc (.cells #[.int .i64 R, .int .i64 R, .slice qb s.2.length cb] 26)) w1.heap.size 26 (.int .i64 R) (.int .i64 C) (.slice qa N ca)) := (Blk3.at_ _ _ _ _ rfl).old _
    have nb : Below w1.heap.size w1 ((w1.alloc (.cells #[.int .i64 R, .int .i64 C, .slice qa N ca] 26)).alloc (.cells #[.int .i64 R, .int .i64 R, .slice qb s.2.length cb] 26)) := ((Below.refl _ _).alloc (Nat.le_refl _) _).alloc (by simp) _
    have O1 := Lib.hid ((oa.keep nb).le (show w.heap.size ≤ _ by have := S0.out; omega))
    have B1 := Lib.hid ((B0.out.trans (hb.mono (by have := S0.out; omega))).trans (nb.mono (by have := S0.out; have := hb.size; omega)))
    have n1 : Hid (w.heap.size + 1 < w1.heap.size) := by show _ < _; have := S0.out; have := hb.size; omega
    clear hb oa ob p0 p1 p2 K0 R0 B0 S0 HF
    go_upto_region 2 with fail
    generalize (w1.alloc (.cells #[.int .i64 R, .int .i64 C, .slice qa N ca] 26)).alloc (.cells #[.int .i64 R, .int .i64 R, .slice qb s.2.length cb] 26) = W1 at R1 A1 O1 B1 nb ⊢
    clear nb
    obtain ⟨bf, hbf⟩ : ∃ b, w1.heap.size = b := ⟨_, rfl⟩
    rw [hbf] at A1 n1 ⊢
    clear hbf
    have CQ := Lib.hid O1.out.celA
    go_wp2_with fail
    go_loopw [7] (fun v7 wq => ∃ k : Nat, v7 = .int .i64 k ∧ k ≤ T ∧ Blk3 wq (w.heap.size + 1) 26 (.int .i64 0) (.int .i64 0) (.slice none 0 0) ∧ Blk3 wq bf 26 (.int .i64 R) (.int .i64 C) (.slice qa N ca) ∧ Own w.heap.size wq (.slice qa N ca) s.1 ∧ Below w.heap.size w wq) (fun v7 _ => T - (intOf v7).toNat)
    case atStart => exact ⟨0, rfl, Nat.zero_le _, R1.out, A1.out, O1.out, B1.out⟩
    case round =>
      clear R1 A1 O1 B1
      obtain ⟨k, rfl, hk, hr, ha, ho, hb⟩ := hrel
      have RR := Lib.hid hr
      have AA := Lib.hid ha
      have OO := Lib.hid ho
      have BB := Lib.hid hb
      clear hr ha ho hb
      by_cases hkR : k < R
      · have b3 : (k : Int) < (R : Int) := by omega
        have RW1 : Hid (∀ w', Calls Try.prog 83 #[.agg #[.int .i64 R, .int .i64 C, .slice qa N ca], .int .i64 k] w' (RowAt qa (k * C) C w')) := fun w' => RW.out k qa ca w' hkR CQ.out
        have LC1 : Hid (leadC C (mxC C s.1 k) ≤ C) := (leadC_says C (mxC C s.1 k)).1
        have LT1 := Lib.hid (LT.out k)
        have LZ1 := Lib.hid (fun h9 => LZ.out k h9 hkR)
        have LD1 := Lib.hid (LDC.out k)
        obtain ⟨ld, hld⟩ : ∃ ld, leadC C (mxC C s.1 k) = ld := ⟨_, rfl⟩
        rw [hld] at LC1 LT1 LZ1 LD1
        clear hld
        by_cases hlc : ld < C
        · have b4 : (ld : Int) < (C : Int) := by omega
          have hkT : k < T := Classical.byContradiction fun h9 => by have := LZ1.out (by omega); omega
          go_wp2_with fail
          refine wp_region_held_drew (S := fun w' => Below wr.heap.size wr w') (by kernel_rfl) (Below.refl _ _).drew (fun hH => ?_)
          refine wpAnyH_take (i := 0) (v := ?_) (by simp only [List.getElem?_toArray, List.getElem?_cons_zero]; rfl) (by kernel_rfl) (by kernel_rfl) (by kernel_rfl) (by exact fun _ _ _ h => h) (Or.inl ⟨by rfl, ?_⟩) hH ?_
          rotate_left
          · (intro wS hS; clear hS; go_simp; try rfl)
          try simp only [Act.put, List.setIfInBounds_toArray, List.set_cons_zero, List.set_cons_succ]
          refine wpAnyH_take (i := 1) (v := ?_) (by simp only [List.getElem?_toArray, List.getElem?_cons_succ, List.getElem?_cons_zero]; rfl) (by kernel_rfl) (by kernel_rfl) (by kernel_rfl) (by exact fun _ _ _ h => h) (Or.inl ⟨by rfl, ?_⟩) hH ?_
          rotate_left
          · (intro wS hS; clear hS; go_simp; try rfl)
          try simp only [Act.put, List.setIfInBounds_toArray, List.set_cons_zero, List.set_cons_succ]
          refine wpAnyH_take (i := 2) (v := ?_) (by simp only [List.getElem?_toArray, List.getElem?_cons_succ, List.getElem?_cons_zero]; rfl) (by kernel_rfl) (by kernel_rfl) (by kernel_rfl) (by exact fun _ _ _ h => h) (Or.inl ⟨by rfl, ?_⟩) hH ?_
          rotate_left
          · (intro wS hS; (try dsimp only at hS); obtain ⟨k1, k2, k3⟩ := leF AA.out hS; go_simp; try rfl)
          try simp only [Act.put, List.setIfInBounds_toArray, List.set_cons_zero, List.set_cons_succ]
          refine wpAnyH_take (i := 3) (v := ?_) (by simp only [List.getElem?_toArray, List.getElem?_cons_succ, List.getElem?_cons_zero]; rfl) (by kernel_rfl) (by kernel_rfl) (by kernel_rfl) (by exact fun _ _ _ h => h) (Or.inl ⟨by rfl, ?_⟩) hH ?_
          rotate_left
          · (intro wS hS; clear hS; go_simp; try rfl)
          try simp only [Act.put, List.setIfInBounds_toArray, List.set_cons_zero, List.set_cons_succ]
          refine wpAnyH_take (i := 4) (v := ?_) (by simp only [List.getElem?_toArray, List.getElem?_cons_succ, List.getElem?_cons_zero]; rfl) (by kernel_rfl) (by kernel_rfl) (by kernel_rfl) (by exact fun _ _ _ h => h) (Or.inl ⟨by rfl, ?_⟩) hH ?_
          rotate_left
          · (intro wS hS; clear hS; go_simp; try rfl)
          try simp only [Act.put, List.setIfInBounds_toArray, List.set_cons_zero, List.set_cons_succ]
          refine wpAnyH_take (i := 5) (v := ?_) (by simp only [List.getElem?_toArray, List.getElem?_cons_succ, List.getElem?_cons_zero]; rfl) (by kernel_rfl) (by kernel_rfl) (by kernel_rfl) (by exact fun _ _ _ h => h) (Or.inl ⟨by rfl, ?_⟩) hH ?_
          rotate_left
          · (intro wS hS; (try dsimp only at hS); obtain ⟨k1, k2, k3⟩ := leF AA.out hS; go_simp; try rfl)
          try simp only [Act.put, List.setIfInBounds_toArray, List.set_cons_zero, List.set_cons_succ]
          refine wpAnyH_take (i := 6) (v := ?_) (by simp only [List.getElem?_toArray, List.getElem?_cons_succ, List.getElem?_cons_zero]; rfl) (by kernel_rfl) (by kernel_rfl) (by kernel_rfl) (by exact fun _ _ _ h => h) (Or.inl ⟨by rfl, ?_⟩) hH ?_
          rotate_left
          · (intro wS hS; clear hS; go_simp; try rfl)
          try simp only [Act.put, List.setIfInBounds_toArray, List.set_cons_zero, List.set_cons_succ]
          refine wpAnyH_take (i := 9) (v := ?_) (by simp only [List.getElem?_toArray, List.getElem?_cons_succ, List.getElem?_cons_zero]; rfl) (by kernel_rfl) (by kernel_rfl) (by kernel_rfl) (by exact fun _ _ _ h => h) (Or.inl ⟨by rfl, ?_⟩) hH ?_
          rotate_left
          · (intro wS hS; clear hS; go_simp; try rfl)
          try simp only [Act.put, List.setIfInBounds_toArray, List.set_cons_zero, List.set_cons_succ]
          refine wpAnyH_take (i := 10) (v := ?_) (by simp only [List.getElem?_toArray, List.getElem?_cons_succ, List.getElem?_cons_zero]; rfl) (by kernel_rfl) (by kernel_rfl) (by kernel_rfl) (by exact fun _ _ _ h => h) (Or.inl ⟨by rfl, ?_⟩) hH ?_
          rotate_left
          · (intro wS hS; (try dsimp only at hS); obtain ⟨k1, k2, k3⟩ := leF AA.out hS; go_simp; try rfl)
          try simp only [Act.put, List.setIfInBounds_toArray, List.set_cons_zero, List.set_cons_succ]
          refine wpAnyH_ready (rs := [7]) (by kernel_rfl) (by simp) ?_
          refine AllReadyH.cons (by simp only [List.getElem?_toArray, List.getElem?_cons_succ, List.getElem?_cons_zero]; rfl) (fun K hK => ?_) AllReadyH.nil
          go_simp
          (with_reducible refine (RW1.out _).mono ?_)
          rintro e v1 ⟨q1, m1, rfl, -, hq1, -, hb1⟩
          try dsimp only
          refine hK.out _ _ ?_ (fun hH2 => ?_)
          · exact hH.trans (hb1.mono hH.size)
          clear hK K hH
          have hH := hH2
          clear hH2
          try simp only [Act.put, List.setIfInBounds_toArray, List.set_cons_zero, List.set_cons_succ]
          refine wpAnyH_ready (rs := [8]) (by kernel_rfl) (by simp) ?_
          refine AllReadyH.cons (by simp only [List.getElem?_toArray, List.getElem?_cons_succ, List.getElem?_cons_zero]; rfl) (fun K hK => ?_) AllReadyH.nil
          go_simp
          (with_reducible refine (LD1.out q1 m1 _ (RD.out k qa q1 _ hkR (Own.rd2 (OO.out.keep hH)) hq1)).mono ?_)
          rintro e v2 ⟨rfl, hb2⟩
          try dsimp only
          refine hK.out _ _ ?_ (fun hH2 => ?_)
          · exact hH.trans (hb2.mono hH.size)
          clear hK K hH
          have hH := hH2
          clear hH2
          try simp only [Act.put, List.setIfInBounds_toArray, List.set_cons_zero, List.set_cons_succ]
          refine wpAnyH_take (i := 11) (v := ?_) (by simp only [List.getElem?_toArray, List.getElem?_cons_succ, List.getElem?_cons_zero]; rfl) (by kernel_rfl) (by kernel_rfl) (by kernel_rfl) (by exact fun _ _ _ h => h) (Or.inl ⟨by rfl, ?_⟩) hH ?_
          rotate_left
          · (intro wS hS; clear hS; go_simp; try rfl)
          try simp only [Act.put, List.setIfInBounds_toArray, List.set_cons_zero, List.set_cons_succ]
          refine wpAnyH_take (i := 12) (v := ?_) (by simp only [List.getElem?_toArray, List.getElem?_cons_succ, List.getElem?_cons_zero]; rfl) (by kernel_rfl) (by kernel_rfl) (by kernel_rfl) (by exact fun _ _ _ h => h) (Or.inl ⟨by rfl, ?_⟩) hH ?_
          rotate_left
          · (intro wS hS; clear hS; go_simp; try rfl)
          try simp only [Act.put, List.setIfInBounds_toArray, List.set_cons_zero, List.set_cons_succ]
          refine wpAnyH_done (by kernel_rfl) ?_ _
          have RR := Lib.hid (RR.out.step hH)
          have AA := Lib.hid (AA.out.step hH)
          have OO := Lib.hid (OO.out.keep hH)
          have BB := Lib.hid (BB.out.trans (hH.mono BB.out.size))
          go_wp2_with fail
          go_roundw
          case rel => exact ⟨k + 1, by go_num, by omega, RR.out, AA.out, OO.out, BB.out⟩
          case measure => simp [intOf]; omega
        · have b4 : decide ((ld : Int) < (C : Int)) = false := decide_eq_false (by omega)
          have hkT : Hid (k = T) := by
            refine Lib.hid ?_
            rcases Nat.lt_or_ge k T with h9 | h9
            · exact absurd (LT1.out h9) hlc
            · omega
          go_wp2_with fail
          refine wp_region_held_drew (S := fun w' => Below wr.heap.size wr w') (by kernel_rfl) (Below.refl _ _).drew (fun hH => ?_)
          refine wpAnyH_take (i := 0) (v := ?_) (by simp only [List.getElem?_toArray, List.getElem?_cons_zero]; rfl) (by kernel_rfl) (by kernel_rfl) (by kernel_rfl) (by exact fun _ _ _ h => h) (Or.inl ⟨by rfl, ?_⟩) hH ?_
          rotate_left
          · (intro wS hS; clear hS; go_simp; try rfl)
          try simp only [Act.put, List.setIfInBounds_toArray, List.set_cons_zero, List.set_cons_succ]
          refine wpAnyH_take (i := 1) (v := ?_) (by simp only [List.getElem?_toArray, List.getElem?_cons_succ, List.getElem?_cons_zero]; rfl) (by kernel_rfl) (by kernel_rfl) (by kernel_rfl) (by exact fun _ _ _ h => h) (Or.inl ⟨by rfl, ?_⟩) hH ?_
          rotate_left
          · (intro wS hS; clear hS; go_simp; try rfl)
          try simp only [Act.put, List.setIfInBounds_toArray, List.set_cons_zero, List.set_cons_succ]
          refine wpAnyH_take (i := 2) (v := ?_) (by simp only [List.getElem?_toArray, List.getElem?_cons_succ, List.getElem?_cons_zero]; rfl) (by kernel_rfl) (by kernel_rfl) (by kernel_rfl) (by exact fun _ _ _ h => h) (Or.inl ⟨by rfl, ?_⟩) hH ?_
          rotate_left
          · (intro wS hS; (try dsimp only at hS); obtain ⟨k1, k2, k3⟩ := leF AA.out hS; go_simp; try rfl)
          try simp only [Act.put, List.setIfInBounds_toArray, List.set_cons_zero, List.set_cons_succ]
          refine wpAnyH_take (i := 3) (v := ?_) (by simp only [List.getElem?_toArray, List.getElem?_cons_succ, List.getElem?_cons_zero]; rfl) (by kernel_rfl) (by kernel_rfl) (by kernel_rfl) (by exact fun _ _ _ h => h) (Or.inl ⟨by rfl, ?_⟩) hH ?_
          rotate_left
          · (intro wS hS; clear hS; go_simp; try rfl)
          try simp only [Act.put, List.setIfInBounds_toArray, List.set_cons_zero, List.set_cons_succ]
          refine wpAnyH_take (i := 4) (v := ?_) (by simp only [List.getElem?_toArray, List.getElem?_cons_succ, List.getElem?_cons_zero]; rfl) (by kernel_rfl) (by kernel_rfl) (by kernel_rfl) (by exact fun _ _ _ h => h) (Or.inl ⟨by rfl, ?_⟩) hH ?_
          rotate_left
          · (intro wS hS; clear hS; go_simp; try rfl)
          try simp only [Act.put, List.setIfInBounds_toArray, List.set_cons_zero, List.set_cons_succ]
          refine wpAnyH_take (i := 5) (v := ?_) (by simp only [List.getElem?_toArray, List.getElem?_cons_succ, List.getElem?_cons_zero]; rfl) (by kernel_rfl) (by kernel_rfl) (by kernel_rfl) (by exact fun _ _ _ h => h) (Or.inl ⟨by rfl, ?_⟩) hH ?_
          rotate_left
          · (intro wS hS; (try dsimp only at hS); obtain ⟨k1, k2, k3⟩ := leF AA.out hS; go_simp; try rfl)
          try simp only [Act.put, List.setIfInBounds_toArray, List.set_cons_zero, List.set_cons_succ]
          refine wpAnyH_take (i := 6) (v := ?_) (by simp only [List.getElem?_toArray, List.getElem?_cons_succ, List.getElem?_cons_zero]; rfl) (by kernel_rfl) (by kernel_rfl) (by kernel_rfl) (by exact fun _ _ _ h => h) (Or.inl ⟨by rfl, ?_⟩) hH ?_
          rotate_left
          · (intro wS hS; clear hS; go_simp; try rfl)
          try simp only [Act.put, List.setIfInBounds_toArray, List.set_cons_zero, List.set_cons_succ]
          refine wpAnyH_take (i := 9) (v := ?_) (by simp only [List.getElem?_toArray, List.getElem?_cons_succ, List.getElem?_cons_zero]; rfl) (by kernel_rfl) (by kernel_rfl) (by kernel_rfl) (by exact fun _ _ _ h => h) (Or.inl ⟨by rfl, ?_⟩) hH ?_
          rotate_left
          · (intro wS hS; clear hS; go_simp; try rfl)
          try simp only [Act.put, List.setIfInBounds_toArray, List.set_cons_zero, List.set_cons_succ]
          refine wpAnyH_take (i := 10) (v := ?_) (by simp only [List.getElem?_toArray, List.getElem?_cons_succ, List.getElem?_cons_zero]; rfl) (by kernel_rfl) (by kernel_rfl) (by kernel_rfl) (by exact fun _ _ _ h => h) (Or.inl ⟨by rfl, ?_⟩) hH ?_
          rotate_left
          · (intro wS hS; (try dsimp only at hS); obtain ⟨k1, k2, k3⟩ := leF AA.out hS; go_simp; try rfl)
          try simp only [Act.put, List.setIfInBounds_toArray, List.set_cons_zero, List.set_cons_succ]
          refine wpAnyH_ready (rs := [7]) (by kernel_rfl) (by simp) ?_
          refine AllReadyH.cons (by simp only [List.getElem?_toArray, List.getElem?_cons_succ, List.getElem?_cons_zero]; rfl) (fun K hK => ?_) AllReadyH.nil
          go_simp
          (with_reducible refine (RW1.out _).mono ?_)
          rintro e v1 ⟨q1, m1, rfl, -, hq1, -, hb1⟩
          try dsimp only
          refine hK.out _ _ ?_ (fun hH2 => ?_)
          · exact hH.trans (hb1.mono hH.size)
          clear hK K hH
          have hH := hH2
          clear hH2
          try simp only [Act.put, List.setIfInBounds_toArray, List.set_cons_zero, List.set_cons_succ]
          refine wpAnyH_ready (rs := [8]) (by kernel_rfl) (by simp) ?_
          refine AllReadyH.cons (by simp only [List.getElem?_toArray, List.getElem?_cons_succ, List.getElem?_cons_zero]; rfl) (fun K hK => ?_) AllReadyH.nil
          go_simp
          (with_reducible refine (LD1.out q1 m1 _ (RD.out k qa q1 _ hkR (Own.rd2 (OO.out.keep hH)) hq1)).mono ?_)
          rintro e v2 ⟨rfl, hb2⟩
          try dsimp only
          refine hK.out _ _ ?_ (fun hH2 => ?_)
          · exact hH.trans (hb2.mono hH.size)
          clear hK K hH
          have hH := hH2
          clear hH2
          try simp only [Act.put, List.setIfInBounds_toArray, List.set_cons_zero, List.set_cons_succ]
          refine wpAnyH_take (i := 11) (v := ?_) (by simp only [List.getElem?_toArray, List.getElem?_cons_succ, List.getElem?_cons_zero]; rfl) (by kernel_rfl) (by kernel_rfl) (by kernel_rfl) (by exact fun _ _ _ h => h) (Or.inl ⟨by rfl, ?_⟩) hH ?_
          rotate_left
          · (intro wS hS; clear hS; go_simp; try rfl)
          try simp only [Act.put, List.setIfInBounds_toArray, List.set_cons_zero, List.set_cons_succ]
          refine wpAnyH_take (i := 12) (v := ?_) (by simp only [List.getElem?_toArray, List.getElem?_cons_succ, List.getElem?_cons_zero]; rfl) (by kernel_rfl) (by kernel_rfl) (by kernel_rfl) (by exact fun _ _ _ h => h) (Or.inl ⟨by rfl, ?_⟩) hH ?_
          rotate_left
          · (intro wS hS; clear hS; go_simp; try rfl)
          try simp only [Act.put, List.setIfInBounds_toArray, List.set_cons_zero, List.set_cons_succ]
          refine wpAnyH_done (by kernel_rfl) ?_ _
          have RR := Lib.hid (RR.out.step hH)
          have AA := Lib.hid (AA.out.step hH)
          have OO := Lib.hid (OO.out.keep hH)
          have BB := Lib.hid (BB.out.trans (hH.mono BB.out.size))
          obtain rfl := hkT.out
          clear hH hkT
          go_wp2_with fail
          obtain ⟨b0, b1, b2, -, -, -⟩ := AA.out.all
          obtain ⟨r0, r1, r2, f0, f1, f2⟩ := RR.out.all
          have OF := Lib.hid (OO.out.front (P := P) (by rw [L1.out]; exact hTC))
          have hca : N ≤ ca := CQ.out.le
          have nca := CQ.out.nil
          have spo := CQ.out.spot
          have c1 : (0 : Int) ≤ (P : Int) := by omega
          have c2 : (P : Int) ≤ (ca : Int) := by omega
          clear CQ OO AA RD LDC RW LT LZ
          rcases spo with rfl | ⟨g, o, rfl⟩
          · obtain rfl : ca = 0 := nca rfl
            obtain rfl : P = 0 := by omega
            go_region
            go_wp2_with fail
            obtain ⟨E0, E1, E2, -, -, -⟩ := (((RR.out.set0 (.int .i64 k)).set1 (.int .i64 C)).set2 (.slice none 0 0)).all
            have OG := (OF.out.setA (b := w.heap.size + 1) (OF.out.ne_box RR.out) (.int .i64 k) (.int .i64 C) (.slice none 0 0))
            refine bodyPost_ret (v := .tuple #[.agg #[.int .i64 k, .int .i64 C, .slice none 0 0], .bool true]) (by simp [results, Try.results32, go_sem, E0, E1, E2]) rfl ?_
            exact ⟨_, rfl, OG.moveA fun _ _ => rfl, below_drewN (((BB.out.setCell (p := ⟨w.heap.size + 1, 0, none⟩) (by show w.heap.size ≤ w.heap.size + 1; omega) _).setCell (p := ⟨w.heap.size + 1, 1, none⟩) (by show w.heap.size ≤ w.heap.size + 1; omega) _).setCell (p := ⟨w.heap.size + 1, 2, none⟩) (by show w.heap.size ≤ w.heap.size + 1; omega) _) 1⟩
          · by_cases hc0 : ca = 0
            · subst hc0
              obtain rfl : P = 0 := by omega
              go_region
              go_wp2_with fail
              obtain ⟨E0, E1, E2, -, -, -⟩ := (((RR.out.set0 (.int .i64 k)).set1 (.int .i64 C)).set2 (.slice (some ⟨g, o, none⟩) 0 0)).all
              have OG := (OF.out.setA (b := w.heap.size + 1) (OF.out.ne_box RR.out) (.int .i64 k) (.int .i64 C) (.slice (some ⟨g, o, none⟩) 0 0))
              refine bodyPost_ret (v := .tuple #[.agg #[.int .i64 k, .int .i64 C, .slice (some ⟨g, o, none⟩) 0 0], .bool true]) (by simp [results, Try.results32, go_sem, E0, E1, E2]) rfl ?_
              exact ⟨_, rfl, OG.moveA fun _ _ => rfl, below_drewN (((BB.out.setCell (p := ⟨w.heap.size + 1, 0, none⟩) (by show w.heap.size ≤ w.heap.size + 1; omega) _).setCell (p := ⟨w.heap.size + 1, 1, none⟩) (by show w.heap.size ≤ w.heap.size + 1; omega) _).setCell (p := ⟨w.heap.size + 1, 2, none⟩) (by show w.heap.size ≤ w.heap.size + 1; omega) _) 1⟩
            · go_region
              go_wp2_with fail
              obtain ⟨E0, E1, E2, -, -, -⟩ := (((RR.out.set0 (.int .i64 k)).set1 (.int .i64 C)).set2 (.slice (some ⟨g, o, none⟩) P ca)).all
              have OG := (OF.out.setA (b := w.heap.size + 1) (OF.out.ne_box RR.out) (.int .i64 k) (.int .i64 C) (.slice (some ⟨g, o, none⟩) P ca))
              refine bodyPost_ret (v := .tuple #[.agg #[.int .i64 k, .int .i64 C, .slice (some ⟨g, o, none⟩) P ca], .bool true]) (by simp [results, Try.results32, go_sem, E0, E1, E2]) rfl ?_
              exact ⟨_, rfl, OG.moveA fun _ _ => rfl, below_drewN (((BB.out.setCell (p := ⟨w.heap.size + 1, 0, none⟩) (by show w.heap.size ≤ w.heap.size + 1; omega) _).setCell (p := ⟨w.heap.size + 1, 1, none⟩) (by show w.heap.size ≤ w.heap.size + 1; omega) _).setCell (p := ⟨w.heap.size + 1, 2, none⟩) (by show w.heap.size ≤ w.heap.size + 1; omega) _) 1⟩
      · have b3 : decide ((k : Int) < (R : Int)) = false := decide_eq_false (by omega)
        have hkT : Hid (k = T) := by show _ = _; omega
        go_wp2_with fail
        refine wp_region_held_drew (S := fun w' => Below wr.heap.size wr w') (by kernel_rfl) (Below.refl _ _).drew (fun hH => ?_)
        refine wpAnyH_take (i := 0) (v := ?_) (by simp only [List.getElem?_toArray, List.getElem?_cons_zero]; rfl) (by kernel_rfl) (by kernel_rfl) (by kernel_rfl) (by exact fun _ _ _ h => h) (Or.inl ⟨by rfl, ?_⟩) hH ?_
        rotate_left
        · (intro wS hS; clear hS; go_simp; try rfl)
        try simp only [Act.put, List.setIfInBounds_toArray, List.set_cons_zero, List.set_cons_succ]
        refine wpAnyH_take (i := 1) (v := ?_) (by simp only [List.getElem?_toArray, List.getElem?_cons_succ, List.getElem?_cons_zero]; rfl) (by kernel_rfl) (by kernel_rfl) (by kernel_rfl) (by exact fun _ _ _ h => h) (Or.inl ⟨by rfl, ?_⟩) hH ?_
        rotate_left
        · (intro wS hS; clear hS; go_simp; try rfl)
        try simp only [Act.put, List.setIfInBounds_toArray, List.set_cons_zero, List.set_cons_succ]
        refine wpAnyH_take (i := 2) (v := ?_) (by simp only [List.getElem?_toArray, List.getElem?_cons_succ, List.getElem?_cons_zero]; rfl) (by kernel_rfl) (by kernel_rfl) (by kernel_rfl) (by exact fun _ _ _ h => h) (Or.inl ⟨by rfl, ?_⟩) hH ?_
        rotate_left
        · (intro wS hS; (try dsimp only at hS); obtain ⟨k1, k2, k3⟩ := leF AA.out hS; go_simp; try rfl)
        try simp only [Act.put, List.setIfInBounds_toArray, List.set_cons_zero, List.set_cons_succ]
        refine wpAnyH_take (i := 3) (v := ?_) (by simp only [List.getElem?_toArray, List.getElem?_cons_succ, List.getElem?_cons_zero]; rfl) (by kernel_rfl) (by kernel_rfl) (by kernel_rfl) (by exact fun _ _ _ h => h) (Or.inl ⟨by rfl, ?_⟩) hH ?_
        rotate_left
        · (intro wS hS; clear hS; go_simp; try rfl)
        try simp only [Act.put, List.setIfInBounds_toArray, List.set_cons_zero, List.set_cons_succ]
        refine wpAnyH_take (i := 4) (v := ?_) (by simp only [List.getElem?_toArray, List.getElem?_cons_succ, List.getElem?_cons_zero]; rfl) (by kernel_rfl) (by kernel_rfl) (by kernel_rfl) (by exact fun _ _ _ h => h) (Or.inl ⟨by rfl, ?_⟩) hH ?_
        rotate_left
        · (intro wS hS; clear hS; go_simp; try rfl)
        try simp only [Act.put, List.setIfInBounds_toArray, List.set_cons_zero, List.set_cons_succ]
        refine wpAnyH_take (i := 5) (v := undef) (by simp only [List.getElem?_toArray, List.getElem?_cons_succ, List.getElem?_cons_zero]; rfl) (by kernel_rfl) (by kernel_rfl) (by kernel_rfl) (by exact fun _ _ _ h => h) (Or.inr ⟨by rfl, rfl⟩) hH ?_
        try simp only [Act.put, List.setIfInBounds_toArray, List.set_cons_zero, List.set_cons_succ]
        refine wpAnyH_take (i := 6) (v := undef) (by simp only [List.getElem?_toArray, List.getElem?_cons_succ, List.getElem?_cons_zero]; rfl) (by kernel_rfl) (by kernel_rfl) (by kernel_rfl) (by exact fun _ _ _ h => h) (Or.inr ⟨by rfl, rfl⟩) hH ?_
        try simp only [Act.put, List.setIfInBounds_toArray, List.set_cons_zero, List.set_cons_succ]
        refine wpAnyH_take (i := 7) (v := undef) (by simp only [List.getElem?_toArray, List.getElem?_cons_succ, List.getElem?_cons_zero]; rfl) (by kernel_rfl) (by kernel_rfl) (by kernel_rfl) (by exact fun _ _ _ h => h) (Or.inr ⟨by rfl, rfl⟩) hH ?_
        try simp only [Act.put, List.setIfInBounds_toArray, List.set_cons_zero, List.set_cons_succ]
        refine wpAnyH_take (i := 8) (v := undef) (by simp only [List.getElem?_toArray, List.getElem?_cons_succ, List.getElem?_cons_zero]; rfl) (by kernel_rfl) (by kernel_rfl) (by kernel_rfl) (by exact fun _ _ _ h => h) (Or.inr ⟨by rfl, rfl⟩) hH ?_
        try simp only [Act.put, List.setIfInBounds_toArray, List.set_cons_zero, List.set_cons_succ]
        refine wpAnyH_take (i := 9) (v := undef) (by simp only [List.getElem?_toArray, List.getElem?_cons_succ, List.getElem?_cons_zero]; rfl) (by kernel_rfl) (by kernel_rfl) (by kernel_rfl) (by exact fun _ _ _ h => h) (Or.inr ⟨by rfl, rfl⟩) hH ?_
        try simp only [Act.put, List.setIfInBounds_toArray, List.set_cons_zero, List.set_cons_succ]
        refine wpAnyH_take (i := 10) (v := undef) (by simp only [List.getElem?_toArray, List.getElem?_cons_succ, List.getElem?_cons_zero]; rfl) (by kernel_rfl) (by kernel_rfl) (by kernel_rfl) (by exact fun _ _ _ h => h) (Or.inr ⟨by rfl, rfl⟩) hH ?_
        try simp only [Act.put, List.setIfInBounds_toArray, List.set_cons_zero, List.set_cons_succ]
        refine wpAnyH_take (i := 11) (v := undef) (by simp only [List.getElem?_toArray, List.getElem?_cons_succ, List.getElem?_cons_zero]; rfl) (by kernel_rfl) (by kernel_rfl) (by kernel_rfl) (by exact fun _ _ _ h => h) (Or.inr ⟨by rfl, rfl⟩) hH ?_
        try simp only [Act.put, List.setIfInBounds_toArray, List.set_cons_zero, List.set_cons_succ]
        refine wpAnyH_take (i := 12) (v := ?_) (by simp only [List.getElem?_toArray, List.getElem?_cons_succ, List.getElem?_cons_zero]; rfl) (by kernel_rfl) (by kernel_rfl) (by kernel_rfl) (by exact fun _ _ _ h => h) (Or.inl ⟨by rfl, ?_⟩) hH ?_
        rotate_left
        · (intro wS hS; clear hS; go_simp; try rfl)
        try simp only [Act.put, List.setIfInBounds_toArray, List.set_cons_zero, List.set_cons_succ]
        refine wpAnyH_done (by kernel_rfl) ?_ _
        have RR := Lib.hid (RR.out.step hH)
        have AA := Lib.hid (AA.out.step hH)
        have OO := Lib.hid (OO.out.keep hH)
        have BB := Lib.hid (BB.out.trans (hH.mono BB.out.size))
        obtain ⟨v2, hv2⟩ : ∃ v, wr.drew = v := ⟨_, rfl⟩
        rw [hv2] at RR AA OO BB hH ⊢
        clear hv2
        obtain rfl := hkT.out
        clear hH hkT
        go_wp2_with fail
        obtain ⟨b0, b1, b2, -, -, -⟩ := AA.out.all
        obtain ⟨r0, r1, r2, f0, f1, f2⟩ := RR.out.all
        have OF := Lib.hid (OO.out.front (P := P) (by rw [L1.out]; exact hTC))
        have hca : N ≤ ca := CQ.out.le
        have nca := CQ.out.nil
        have spo := CQ.out.spot
        have c1 : (0 : Int) ≤ (P : Int) := by omega
        have c2 : (P : Int) ≤ (ca : Int) := by omega
        clear CQ OO AA RD LDC RW LT LZ
        rcases spo with rfl | ⟨g, o, rfl⟩
        · obtain rfl : ca = 0 := nca rfl
          obtain rfl : P = 0 := by omega
          go_region
          go_wp2_with fail
          obtain ⟨E0, E1, E2, -, -, -⟩ := (((RR.out.set0 (.int .i64 k)).set1 (.int .i64 C)).set2 (.slice none 0 0)).all
          have OG := (OF.out.setA (b := w.heap.size + 1) (OF.out.ne_box RR.out) (.int .i64 k) (.int .i64 C) (.slice none 0 0))
          refine bodyPost_ret (v := .tuple #[.agg #[.int .i64 k, .int .i64 C, .slice none 0 0], .bool true]) (by simp [results, Try.results32, go_sem, E0, E1, E2]) rfl ?_
          exact ⟨_, rfl, OG.moveA fun _ _ => rfl, below_drewN (((BB.out.setCell (p := ⟨w.heap.size + 1, 0, none⟩) (by show w.heap.size ≤ w.heap.size + 1; omega) _).setCell (p := ⟨w.heap.size + 1, 1, none⟩) (by show w.heap.size ≤ w.heap.size + 1; omega) _).setCell (p := ⟨w.heap.size + 1, 2, none⟩) (by show w.heap.size ≤ w.heap.size + 1; omega) _) 1⟩
        · by_cases hc0 : ca = 0
          · subst hc0
            obtain rfl : P = 0 := by omega
            go_region
            go_wp2_with fail
            obtain ⟨E0, E1, E2, -, -, -⟩ := (((RR.out.set0 (.int .i64 k)).set1 (.int .i64 C)).set2 (.slice (some ⟨g, o, none⟩) 0 0)).all
            have OG := (OF.out.setA (b := w.heap.size + 1) (OF.out.ne_box RR.out) (.int .i64 k) (.int .i64 C) (.slice (some ⟨g, o, none⟩) 0 0))
            refine bodyPost_ret (v := .tuple #[.agg #[.int .i64 k, .int .i64 C, .slice (some ⟨g, o, none⟩) 0 0], .bool true]) (by simp [results, Try.results32, go_sem, E0, E1, E2]) rfl ?_
            exact ⟨_, rfl, OG.moveA fun _ _ => rfl, below_drewN (((BB.out.setCell (p := ⟨w.heap.size + 1, 0, none⟩) (by show w.heap.size ≤ w.heap.size + 1; omega) _).setCell (p := ⟨w.heap.size + 1, 1, none⟩) (by show w.heap.size ≤ w.heap.size + 1; omega) _).setCell (p := ⟨w.heap.size + 1, 2, none⟩) (by show w.heap.size ≤ w.heap.size + 1; omega) _) 1⟩
          · go_region
            go_wp2_with fail
            obtain ⟨E0, E1, E2, -, -, -⟩ := (((RR.out.set0 (.int .i64 k)).set1 (.int .i64 C)).set2 (.slice (some ⟨g, o, none⟩) P ca)).all
            have OG := (OF.out.setA (b := w.heap.size + 1) (OF.out.ne_box RR.out) (.int .i64 k) (.int .i64 C) (.slice (some ⟨g, o, none⟩) P ca))
            refine bodyPost_ret (v := .tuple #[.agg #[.int .i64 k, .int .i64 C, .slice (some ⟨g, o, none⟩) P ca], .bool true]) (by simp [results, Try.results32, go_sem, E0, E1, E2]) rfl ?_
            exact ⟨_, rfl, OG.moveA fun _ _ => rfl, below_drewN (((BB.out.setCell (p := ⟨w.heap.size + 1, 0, none⟩) (by show w.heap.size ≤ w.heap.size + 1; omega) _).setCell (p := ⟨w.heap.size + 1, 1, none⟩) (by show w.heap.size ≤ w.heap.size + 1; omega) _).setCell (p := ⟨w.heap.size + 1, 2, none⟩) (by show w.heap.size ≤ w.heap.size + 1; omega) _) 1⟩
end Go.Proofs.Ytpelnfenfeoeeaa
end

section
/-
  Chapter 3, in the program: a fold whose closure writes into its value (MultiplyMatrices).
-/
namespace Go.Proofs.Ytpelnfenfeoeeaa
set_option maxRecDepth 100000
open Go.RowKit
theorem far_of {w : World} {a : Option Addr} {zs : List Int} {n : Nat} (h : Rd w a zs) (hn : zs.length = n) : ∀ b o : Nat, a = some ⟨b, o, none⟩ → 0 < n → b ≠ w.heap.size := by
  intro b o e hz
  obtain ⟨b', o', e', hc⟩ := h 0 (by omega)
  rw [e] at e'
  injection e' with e'
  injection e' with e1 e2
  have := World.block_lt_of_cell? w _ hc
  simp at this
  omega
end Go.Proofs.Ytpelnfenfeoeeaa
end

section
/-
  Chapter 7, in the program: two rows of any matrix swapped in place.
-/
namespace Go.Proofs.Ytpelnfenfeoeeaa
set_option maxRecDepth 100000
open Go.RowKit
theorem keepC {W : World} {b g : Nat} {p q v : Value} (h : W.cell? ⟨b, 0, none⟩ = some p ∧ W.cell? ⟨b, 1, none⟩ = some q ∧ W.cell? ⟨b, 2, none⟩ = some v) (hne : b ≠ g) (o : Nat) (u : Value) :
    (W.setCell ⟨g, o, none⟩ u).cell? ⟨b, 0, none⟩ = some p ∧ (W.setCell ⟨g, o, none⟩ u).cell? ⟨b, 1, none⟩ = some q ∧ (W.setCell ⟨g, o, none⟩ u).cell? ⟨b, 2, none⟩ = some v := by
  have e : ∀ k, (W.setCell ⟨g, o, none⟩ u).cell? ⟨b, k, none⟩ = W.cell? ⟨b, k, none⟩ := fun k => World.cell?_setCell_other W _ _ _ (fun e => hne (by injection e with e; exact e.symm))
  exact ⟨(e 0).trans h.1, (e 1).trans h.2.1, (e 2).trans h.2.2⟩
def swTo (p t c : Nat) (xs : List Int) (q : Nat) : List Int := if p = t then xs else opTo 0 p t 0 c xs q
theorem swTo_length (p t c : Nat) (xs : List Int) (q : Nat) : (swTo p t c xs q).length = xs.length := by
  unfold swTo
  split
  · rfl
  · exact opTo_length _ _ _ _ _ _ _
theorem swTo_zero (p t c : Nat) (xs : List Int) : swTo p t c xs 0 = xs := by
  unfold swTo
  split
  · rfl
  · exact opTo_zero _ _ _ _ _ _
theorem swTo_all {p t c : Nat} {xs : List Int} (h : 0 < c) : swTo p t c xs c = swC p t c xs := by
  unfold swTo swC
  split
  · rfl
  · exact opTo_all _ _ _ _ _ _ (.inr h)
theorem set_self (xs : List Int) (i : Nat) : xs.set i (xs.getD i 0) = xs := by
  rcases Nat.lt_or_ge i xs.length with h | h
  · simp [List.getD, h]
  · exact List.set_eq_of_length_le h
theorem swTo_step {r p t c q : Nat} {xs : List Int} (hx : xs.length = r * c) (hp : p < r) (ht : t < r) (hq : q < c) : ((swTo p t c xs q).set (p * c + q) (xs.getD (t * c + q) 0)).set (t * c + q) (xs.getD (p * c + q) 0) = swTo p t c xs (q + 1) := by
  unfold swTo
  by_cases e : p = t
  · rw [if_pos e, if_pos e, e, set_self, set_self]
  · rw [if_neg e, if_neg e]
    exact (op_swap p t 0 c r xs q hx hp ht hq).resolve_right e
theorem swTo_at {r p t c q i : Nat} {xs : List Int} (hx : xs.length = r * c) (hi : i < r) (hq : q < c) : (swTo p t c xs q).getD (i * c + q) 0 = xs.getD (i * c + q) 0 := by
  unfold swTo
  split
  · rfl
  · exact opTo_at _ _ _ _ _ _ _ _ hq (by rw [hx]; exact idx_lt hi hq)
set_option maxHeartbeats 2000000 in
theorem iSwR (r c p t N cap g : Nat) (xs : List Int) (w : World) (hN : N = r * c) (hx : xs.length = N) (hr : r ≤ 24) (hc : c ≤ 24) (hc0 : 0 < c) (hp : p < r) (ht : t < r) (hi : Ints w g xs) :
    Calls Try.prog 135 #[.agg #[.int .i64 r, .int .i64 c, .slice (some ⟨g, 0, none⟩) N cap], .int .i64 p, .int .i64 t] w (fun e w' => Void e ∧ Ints w' g (swC p t c xs) ∧ w.grownBy w' (some g)) := by
  have hle : r * c ≤ 24 * 24 := Nat.mul_le_mul hr hc
  rw [← hN] at hle
  have hl : xs.length = r * c := by rw [hx, hN]
  have SL : Hid (∀ q, (swTo p t c xs q).length = N) := fun q => by rw [swTo_length, hx]
  have SS : Hid (∀ q, q < c → ((swTo p t c xs q).set (p * c + q) (xs.getD (t * c + q) 0)).set (t * c + q) (xs.getD (p * c + q) 0) = swTo p t c xs (q + 1)) := fun q hq => swTo_step hl hp ht hq
  have SA : Hid (∀ i q, i < r → q < c → (swTo p t c xs q).getD (i * c + q) 0 = xs.getD (i * c + q) 0) := fun i q hi hq => swTo_at hl hi hq
  have SZ : Hid (swTo p t c xs 0 = xs) := swTo_zero _ _ _ _
  have SE : Hid (swTo p t c xs c = swC p t c xs) := swTo_all hc0
  have IL : Hid (∀ i q, i < r → q < c → i * c + q < N) := fun i q hi hq => by rw [hN]; exact idx_lt hi hq
  have lg := hi.lt
  have GW : Hid (w.grownBy (w.alloc (.cells #[.int .i64 r, .int .i64 c, .slice (some ⟨g, 0, none⟩) N cap] 26)) (some g)) := World.grownBy_alloc _ _ _
  have K0 : Hid (Blk3 (w.alloc (.cells #[.int .i64 r, .int .i64 c, .slice (some ⟨g, 0, none⟩) N cap] 26)) w.heap.size 26 (.int .i64 r) (.int .i64 c) (.slice (some ⟨g, 0, none⟩) N cap)) := Blk3.at_ _ _ _ _ rfl
  have I := Lib.hid (hi.old (.cells #[.int .i64 r, .int .i64 c, .slice (some ⟨g, 0, none⟩) N cap] 26))
  clear hN hx hi hl
  go_enter Try.func135, Try.ntmps135
  go_wp2_with fail
  generalize w.alloc (.cells #[.int .i64 r, .int .i64 c, .slice (some ⟨g, 0, none⟩) N cap] 26) = W at GW K0 I
  obtain ⟨z0, z1, z2, -, -, -⟩ := K0.out.all
  go_loopw [6, 7, 8, 11] (fun _ _ _ v11 wr => ∃ q : Nat, v11 = .int .i64 q ∧ q ≤ c ∧ Ints wr g (swTo p t c xs q) ∧ W.grownBy wr (some g)) (fun _ _ _ v11 _ => c - (intOf v11).toNat)
  case atStart => exact ⟨0, rfl, by omega, by rw [SZ.out]; exact I.out, World.grownBy.refl _ _⟩
  case round =>
    clear z0 z1 z2
    obtain ⟨q, rfl, hq, hi, hgr⟩ := hrel
    have I := Lib.hid hi
    have G := Lib.hid hgr
    clear hi hgr
    have R0 := Lib.hid (K0.out.keepOne G.out (by omega))
    obtain ⟨r0, r1, r2, -, -, -⟩ := R0.out.all
    by_cases hlt : q < c
    · have ja := IL.out p q hp hlt
      have jb := IL.out t q ht hlt
      have ca : (p : Int) * (c : Int) = ((p * c : Nat) : Int) := (Int.natCast_mul _ _).symm
      have cb : (t : Int) * (c : Int) = ((t * c : Nat) : Int) := (Int.natCast_mul _ _).symm
      obtain ⟨A, hA⟩ : ∃ A, p * c + q = A := ⟨_, rfl⟩
      obtain ⟨C, hC⟩ : ∃ C, t * c + q = C := ⟨_, rfl⟩
      have va0 : IntKind.i64.wrap ((p : Int) * (c : Int)) = (p : Int) * (c : Int) := IntWalk.i64_in _ (by rw [ca]; omega)
      have va1 : IntKind.i64.wrap ((p : Int) * (c : Int) + (q : Int)) = (A : Int) := by
        rw [show (p : Int) * (c : Int) + (q : Int) = (A : Int) by rw [ca, ← hA]; omega]
        exact IntWalk.i64_in _ (by omega)
      have vb0 : IntKind.i64.wrap ((t : Int) * (c : Int)) = (t : Int) * (c : Int) := IntWalk.i64_in _ (by rw [cb]; omega)
      have vb1 : IntKind.i64.wrap ((t : Int) * (c : Int) + (q : Int)) = (C : Int) := by
        rw [show (t : Int) * (c : Int) + (q : Int) = (C : Int) by rw [cb, ← hC]; omega]
        exact IntWalk.i64_in _ (by omega)
      have a0 : (0 : Int) ≤ (A : Int) := by omega
      have a1 : (A : Int) < (N : Int) := by omega
      have b0 : (0 : Int) ≤ (C : Int) := by omega
      have b1 : (C : Int) < (N : Int) := by omega
      have s0 := SS.out q hlt
      have oa := SA.out p q hp hlt
      have ob := SA.out t q ht hlt
      rw [hA] at oa s0
      rw [hC] at ob s0
      have h1 := I.out.cell (i := A) (by rw [SL.out]; omega)
      have h2 := I.out.cell (i := C) (by rw [SL.out]; omega)
      rw [oa] at h1
      rw [ob] at h2
      obtain ⟨x, hxx⟩ : ∃ x, xs.getD A 0 = x := ⟨_, rfl⟩
      obtain ⟨y, hyy⟩ : ∃ y, xs.getD C 0 = y := ⟨_, rfl⟩
      rw [hxx, hyy] at s0
      rw [hxx] at h1
      rw [hyy] at h2
      have S0 := Lib.hid s0
      have OY : Hid (A = C → x = y) := fun h => by rw [← hxx, ← hyy, h]
      have f1 := I.out.free A
      have C36 : C < N := by omega
      clear ca cb hA hC s0 oa ob hxx hyy ja jb
      go_wp2_with fail
      go_quiet (fail)
      have I := Lib.hid (I.out.drewN nq)
      have G := Lib.hid (grown_drewN_one G.out nq)
      have ng : w.heap.size ≠ g := by omega
      replace h1 : (wr.drewN nq).cell? ⟨g, A, none⟩ = some (.int .i64 x) := h1
      replace h2 : (wr.drewN nq).cell? ⟨g, C, none⟩ = some (.int .i64 y) := h2
      replace f1 : (wr.drewN nq).frozen? ⟨g, A, none⟩ = false := f1
      replace r0 : (wr.drewN nq).cell? ⟨w.heap.size, 0, none⟩ = some (.int .i64 r) := r0
      replace r1 : (wr.drewN nq).cell? ⟨w.heap.size, 1, none⟩ = some (.int .i64 c) := r1
      replace r2 : (wr.drewN nq).cell? ⟨w.heap.size, 2, none⟩ = some (.slice (some ⟨g, 0, none⟩) N cap) := r2
      generalize wr.drewN nq = wd at I G h1 h2 f1 r0 r1 r2
      go_upto_region 5 with fail
      have hS := Lib.hid (show wd.drew.cell? ⟨w.heap.size, 0, none⟩ = some (.int .i64 r) ∧ wd.drew.cell? ⟨w.heap.size, 1, none⟩ = some (.int .i64 c) ∧ wd.drew.cell? ⟨w.heap.size, 2, none⟩ = some (.slice (some ⟨g, 0, none⟩) N cap) from ⟨r0, r1, r2⟩)
      have G := Lib.hid (grown_drew_one G.out)
      have ID := I.out.drew
      have IS := ID.set A y
      have f2 := IS.free C
      have h3 := IS.cell (i := C) (by rw [List.length_set, SL.out]; omega)
      have IS2 := Lib.hid (IS.set C x)
      replace h1 : wd.drew.cell? ⟨g, A, none⟩ = some (.int .i64 x) := h1
      replace h2 : wd.drew.cell? ⟨g, C, none⟩ = some (.int .i64 y) := h2
      replace f1 : wd.drew.frozen? ⟨g, A, none⟩ = false := f1
      clear r0 r1 r2 I ID IS
      refine wp_region_held_drew (S := fun w' => w'.cell? ⟨w.heap.size, 0, none⟩ = some (.int .i64 r) ∧ w'.cell? ⟨w.heap.size, 1, none⟩ = some (.int .i64 c) ∧ w'.cell? ⟨w.heap.size, 2, none⟩ = some (.slice (some ⟨g, 0, none⟩) N cap)) (by kernel_rfl) hS.out (fun hH => ?_)
      (try dsimp only at hH)
      generalize wd.drew = we at hS G f2 h3 IS2 h1 h2 f1 hH ⊢
      refine wpAnyH_take (i := 0) (v := ?_) (by simp only [List.getElem?_toArray, List.getElem?_cons_zero]; rfl) (by kernel_rfl) (by kernel_rfl) (by kernel_rfl) (by exact fun _ _ _ h => h) (Or.inl ⟨by rfl, ?_⟩) hH ?_
      rotate_left
      · (intro wS hS; clear hS; go_simp; try rfl)
      try simp only [Act.put, List.setIfInBounds_toArray, List.set_cons_zero, List.set_cons_succ]
      refine wpAnyH_take (i := 1) (v := ?_) (by simp only [List.getElem?_toArray, List.getElem?_cons_succ, List.getElem?_cons_zero]; rfl) (by kernel_rfl) (by kernel_rfl) (by kernel_rfl) (by exact fun _ _ _ h => h) (Or.inl ⟨by rfl, ?_⟩) hH ?_
      rotate_left
      · (intro wS hS; (try dsimp only at hS); obtain ⟨k0, k1, k2⟩ := hS; go_simp; try rfl)
      try simp only [Act.put, List.setIfInBounds_toArray, List.set_cons_zero, List.set_cons_succ]
      refine wpAnyH_take (i := 2) (v := ?_) (by simp only [List.getElem?_toArray, List.getElem?_cons_succ, List.getElem?_cons_zero]; rfl) (by kernel_rfl) (by kernel_rfl) (by kernel_rfl) (by exact fun _ _ _ h => h) (Or.inl ⟨by rfl, ?_⟩) hH ?_
      rotate_left
      · (intro wS hS; clear hS; go_simp; try rfl)
      try simp only [Act.put, List.setIfInBounds_toArray, List.set_cons_zero, List.set_cons_succ]
      refine wpAnyH_take (i := 3) (v := ?_) (by simp only [List.getElem?_toArray, List.getElem?_cons_succ, List.getElem?_cons_zero]; rfl) (by kernel_rfl) (by kernel_rfl) (by kernel_rfl) (by exact fun _ _ _ h => h) (Or.inl ⟨by rfl, ?_⟩) hH ?_
      rotate_left
      · (intro wS hS; clear hS; go_simp; try rfl)
      try simp only [Act.put, List.setIfInBounds_toArray, List.set_cons_zero, List.set_cons_succ]
      refine wpAnyH_take (i := 4) (v := ?_) (by simp only [List.getElem?_toArray, List.getElem?_cons_succ, List.getElem?_cons_zero]; rfl) (by kernel_rfl) (by kernel_rfl) (by kernel_rfl) (by exact fun _ _ _ h => h) (Or.inl ⟨by rfl, ?_⟩) hH ?_
      rotate_left
      · (intro wS hS; (try dsimp only at hS); obtain ⟨k0, k1, k2⟩ := hS; go_simp; try rfl)
      try simp only [Act.put, List.setIfInBounds_toArray, List.set_cons_zero, List.set_cons_succ]
      refine wpAnyH_take (i := 5) (v := ?_) (by simp only [List.getElem?_toArray, List.getElem?_cons_succ, List.getElem?_cons_zero]; rfl) (by kernel_rfl) (by kernel_rfl) (by kernel_rfl) (by exact fun _ _ _ h => h) (Or.inl ⟨by rfl, ?_⟩) hH ?_
      rotate_left
      · (intro wS hS; clear hS; go_simp; try rfl)
      try simp only [Act.put, List.setIfInBounds_toArray, List.set_cons_zero, List.set_cons_succ]
      refine wpAnyH_take (i := 6) (v := ?_) (by simp only [List.getElem?_toArray, List.getElem?_cons_succ, List.getElem?_cons_zero]; rfl) (by kernel_rfl) (by kernel_rfl) (by kernel_rfl) (by exact fun _ _ _ h => h) (Or.inl ⟨by rfl, ?_⟩) hH ?_
      rotate_left
      · (intro wS hS; clear hS; go_simp; try rfl)
      try simp only [Act.put, List.setIfInBounds_toArray, List.set_cons_zero, List.set_cons_succ]
      refine wpAnyH_take (i := 7) (v := ?_) (by simp only [List.getElem?_toArray, List.getElem?_cons_succ, List.getElem?_cons_zero]; rfl) (by kernel_rfl) (by kernel_rfl) (by kernel_rfl) (by exact fun _ _ _ h => h) (Or.inl ⟨by rfl, ?_⟩) hH ?_
      rotate_left
      · (intro wS hS; (try dsimp only at hS); obtain ⟨k0, k1, k2⟩ := hS; go_simp; try rfl)
      try simp only [Act.put, List.setIfInBounds_toArray, List.set_cons_zero, List.set_cons_succ]
      refine wpAnyH_take (i := 8) (v := ?_) (by simp only [List.getElem?_toArray, List.getElem?_cons_succ, List.getElem?_cons_zero]; rfl) (by kernel_rfl) (by kernel_rfl) (by kernel_rfl) (by exact fun _ _ _ h => h) (Or.inl ⟨by rfl, ?_⟩) hH ?_
      rotate_left
      · (intro wS hS; clear hS; go_simp; try rfl)
      try simp only [Act.put, List.setIfInBounds_toArray, List.set_cons_zero, List.set_cons_succ]
      refine wpAnyH_take (i := 9) (v := ?_) (by simp only [List.getElem?_toArray, List.getElem?_cons_succ, List.getElem?_cons_zero]; rfl) (by kernel_rfl) (by kernel_rfl) (by kernel_rfl) (by exact fun _ _ _ h => h) (Or.inl ⟨by rfl, ?_⟩) hH ?_
      rotate_left
      · (intro wS hS; (try dsimp only at hS); obtain ⟨k0, k1, k2⟩ := hS; go_simp; try rfl)
      try simp only [Act.put, List.setIfInBounds_toArray, List.set_cons_zero, List.set_cons_succ]
      refine wpAnyH_take (i := 11) (v := ?_) (by simp only [List.getElem?_toArray, List.getElem?_cons_succ, List.getElem?_cons_zero]; rfl) (by kernel_rfl) (by kernel_rfl) (by kernel_rfl) (by exact fun _ _ _ h => h) (Or.inl ⟨by rfl, ?_⟩) hH ?_
      rotate_left
      · (intro wS hS; clear hS; go_simp; try rfl)
      try simp only [Act.put, List.setIfInBounds_toArray, List.set_cons_zero, List.set_cons_succ]
      refine wpAnyH_take (i := 12) (v := ?_) (by simp only [List.getElem?_toArray, List.getElem?_cons_succ, List.getElem?_cons_zero]; rfl) (by kernel_rfl) (by kernel_rfl) (by kernel_rfl) (by exact fun _ _ _ h => h) (Or.inl ⟨by rfl, ?_⟩) hH ?_
      rotate_left
      · (intro wS hS; (try dsimp only at hS); obtain ⟨k0, k1, k2⟩ := hS; go_simp; try rfl)
      try simp only [Act.put, List.setIfInBounds_toArray, List.set_cons_zero, List.set_cons_succ]
      refine wpAnyH_take (i := 13) (v := ?_) (by simp only [List.getElem?_toArray, List.getElem?_cons_succ, List.getElem?_cons_zero]; rfl) (by kernel_rfl) (by kernel_rfl) (by kernel_rfl) (by exact fun _ _ _ h => h) (Or.inl ⟨by rfl, ?_⟩) hH ?_
      rotate_left
      · (intro wS hS; clear hS; go_simp; try rfl)
      try simp only [Act.put, List.setIfInBounds_toArray, List.set_cons_zero, List.set_cons_succ]
      refine wpAnyH_take (i := 14) (v := ?_) (by simp only [List.getElem?_toArray, List.getElem?_cons_succ, List.getElem?_cons_zero]; rfl) (by kernel_rfl) (by kernel_rfl) (by kernel_rfl) (by exact fun _ _ _ h => h) (Or.inl ⟨by rfl, ?_⟩) hH ?_
      rotate_left
      · (intro wS hS; (try dsimp only at hS); obtain ⟨k0, k1, k2⟩ := hS; go_simp; try rfl)
      try simp only [Act.put, List.setIfInBounds_toArray, List.set_cons_zero, List.set_cons_succ]
      refine wpAnyH_ready (rs := [10, 15]) (by kernel_rfl) (by simp) ?_
      refine AllReadyH.cons (by simp only [List.getElem?_toArray, List.getElem?_cons_succ, List.getElem?_cons_zero]; rfl) (fun KK hKK => ?_) (AllReadyH.cons (by simp only [List.getElem?_toArray, List.getElem?_cons_succ, List.getElem?_cons_zero]; rfl) (fun KK hKK => ?_) AllReadyH.nil)
      · go_simp
        try dsimp only
        refine hKK.out _ _ ?_ (fun hH2 => ?_)
        · exact hH
        clear hKK KK
        have hO := hH
        clear hH
        have hH := hH2
        clear hH2
        try simp only [Act.put, List.setIfInBounds_toArray, List.set_cons_zero, List.set_cons_succ]
        refine wpAnyH_ready (rs := [15]) (by kernel_rfl) (by simp) ?_
        refine AllReadyH.cons (by simp only [List.getElem?_toArray, List.getElem?_cons_succ, List.getElem?_cons_zero]; rfl) (fun KK hKK => ?_) AllReadyH.nil
        go_simp
        try dsimp only
        refine hKK.out _ _ ?_ (fun hH2 => ?_)
        · exact hH
        clear hKK KK
        have hO := hH
        clear hH
        have hH := hH2
        clear hH2
        try simp only [Act.put, List.setIfInBounds_toArray, List.set_cons_zero, List.set_cons_succ]
        refine wpAnyH_take (i := 16) (v := ?_) (by simp only [List.getElem?_toArray, List.getElem?_cons_succ, List.getElem?_cons_zero]; rfl) (by kernel_rfl) (by kernel_rfl) (by kernel_rfl) (by exact fun _ _ _ h => h) (Or.inl ⟨by rfl, ?_⟩) hH ?_
        rotate_left
        · (intro wS hS; (try dsimp only at hS); obtain ⟨k0, k1, k2⟩ := hS; go_simp; try rfl)
        try simp only [Act.put, List.setIfInBounds_toArray, List.set_cons_zero, List.set_cons_succ]
        refine wpAnyH_ready (rs := [17]) (by kernel_rfl) (by simp) ?_
        refine AllReadyH.cons (by simp only [List.getElem?_toArray, List.getElem?_cons_succ, List.getElem?_cons_zero]; rfl) (fun KK hKK => ?_) AllReadyH.nil
        go_simp
        try dsimp only
        refine hKK.out _ _ ?_ (fun hH2 => ?_)
        · exact keepC hH ng _ _
        clear hKK KK
        have hO := hH
        clear hH
        have hH := hH2
        clear hH2
        try simp only [Act.put, List.setIfInBounds_toArray, List.set_cons_zero, List.set_cons_succ]
        refine wpAnyH_take (i := 18) (v := ?_) (by simp only [List.getElem?_toArray, List.getElem?_cons_succ, List.getElem?_cons_zero]; rfl) (by kernel_rfl) (by kernel_rfl) (by kernel_rfl) (by exact fun _ _ _ h => h) (Or.inl ⟨by rfl, ?_⟩) hH ?_
        rotate_left
        · (intro wS hS; (try dsimp only at hS); obtain ⟨k0, k1, k2⟩ := hS; go_simp; try rfl)
        try simp only [Act.put, List.setIfInBounds_toArray, List.set_cons_zero, List.set_cons_succ]
        refine wpAnyH_ready (rs := [19]) (by kernel_rfl) (by simp) ?_
        refine AllReadyH.cons (by simp only [List.getElem?_toArray, List.getElem?_cons_succ, List.getElem?_cons_zero]; rfl) (fun KK hKK => ?_) AllReadyH.nil
        go_simp
        try dsimp only
        refine hKK.out _ _ ?_ (fun hH2 => ?_)
        · exact keepC hH ng _ _
        clear hKK KK
        have hO := hH
        clear hH
        have hH := hH2
        clear hH2
        try simp only [Act.put, List.setIfInBounds_toArray, List.set_cons_zero, List.set_cons_succ]
        refine wpAnyH_done (by kernel_rfl) ?_ _
        go_wp2_with fail
        go_roundw
        case rel => exact ⟨q + 1, by go_num, by omega, by rw [← S0.out]; exact IS2.out, grown_set_one (a := ⟨g, C, none⟩) (grown_set_one (a := ⟨g, A, none⟩) G.out rfl _) rfl _⟩
        case measure => simp [intOf]; omega
      · go_simp
        try dsimp only
        refine hKK.out _ _ ?_ (fun hH2 => ?_)
        · exact hH
        clear hKK KK
        have hO := hH
        clear hH
        have hH := hH2
        clear hH2
        try simp only [Act.put, List.setIfInBounds_toArray, List.set_cons_zero, List.set_cons_succ]
        refine wpAnyH_ready (rs := [10]) (by kernel_rfl) (by simp) ?_
        refine AllReadyH.cons (by simp only [List.getElem?_toArray, List.getElem?_cons_succ, List.getElem?_cons_zero]; rfl) (fun KK hKK => ?_) AllReadyH.nil
        go_simp
        try dsimp only
        refine hKK.out _ _ ?_ (fun hH2 => ?_)
        · exact hH
        clear hKK KK
        have hO := hH
        clear hH
        have hH := hH2
        clear hH2
        try simp only [Act.put, List.setIfInBounds_toArray, List.set_cons_zero, List.set_cons_succ]
        refine wpAnyH_take (i := 16) (v := ?_) (by simp only [List.getElem?_toArray, List.getElem?_cons_succ, List.getElem?_cons_zero]; rfl) (by kernel_rfl) (by kernel_rfl) (by kernel_rfl) (by exact fun _ _ _ h => h) (Or.inl ⟨by rfl, ?_⟩) hH ?_
        rotate_left
        · (intro wS hS; (try dsimp only at hS); obtain ⟨k0, k1, k2⟩ := hS; go_simp; try rfl)
        try simp only [Act.put, List.setIfInBounds_toArray, List.set_cons_zero, List.set_cons_succ]
        refine wpAnyH_ready (rs := [17]) (by kernel_rfl) (by simp) ?_
        refine AllReadyH.cons (by simp only [List.getElem?_toArray, List.getElem?_cons_succ, List.getElem?_cons_zero]; rfl) (fun KK hKK => ?_) AllReadyH.nil
        go_simp
        try dsimp only
        refine hKK.out _ _ ?_ (fun hH2 => ?_)
        · exact keepC hH ng _ _
        clear hKK KK
        have hO := hH
        clear hH
        have hH := hH2
        clear hH2
        try simp only [Act.put, List.setIfInBounds_toArray, List.set_cons_zero, List.set_cons_succ]
        refine wpAnyH_take (i := 18) (v := ?_) (by simp only [List.getElem?_toArray, List.getElem?_cons_succ, List.getElem?_cons_zero]; rfl) (by kernel_rfl) (by kernel_rfl) (by kernel_rfl) (by exact fun _ _ _ h => h) (Or.inl ⟨by rfl, ?_⟩) hH ?_
        rotate_left
        · (intro wS hS; (try dsimp only at hS); obtain ⟨k0, k1, k2⟩ := hS; go_simp; try rfl)
        try simp only [Act.put, List.setIfInBounds_toArray, List.set_cons_zero, List.set_cons_succ]
        refine wpAnyH_ready (rs := [19]) (by kernel_rfl) (by simp) ?_
        refine AllReadyH.cons (by simp only [List.getElem?_toArray, List.getElem?_cons_succ, List.getElem?_cons_zero]; rfl) (fun KK hKK => ?_) AllReadyH.nil
        go_simp
        try dsimp only
        refine hKK.out _ _ ?_ (fun hH2 => ?_)
        · exact keepC hH ng _ _
        clear hKK KK
        have hO := hH
        clear hH
        have hH := hH2
        clear hH2
        try simp only [Act.put, List.setIfInBounds_toArray, List.set_cons_zero, List.set_cons_succ]
        refine wpAnyH_done (by kernel_rfl) ?_ _
        go_wp2_with fail
        go_roundw
        case rel => exact ⟨q + 1, by go_num, by omega, by rw [← S0.out]; exact IS2.out, grown_set_one (a := ⟨g, C, none⟩) (grown_set_one (a := ⟨g, A, none⟩) G.out rfl _) rfl _⟩
        case measure => simp [intOf]; omega
    · obtain rfl : c = q := by omega
      clear hlt
      go_wp2_with fail
      go_end0
      exact ⟨rfl, by rw [← SE.out]; exact I.out, GW.out.trans G.out⟩
end Go.Proofs.Ytpelnfenfeoeeaa
end

section
/-
  Chapter 1, in the program: GcdOf.
-/
namespace Go.Proofs.Ytpelnfenfeoeeaa
open Go.RowKit
theorem iGcd (a b : Int) (w : World) (ha : -400000000 ≤ a ∧ a ≤ 400000000) (hb : -400000000 ≤ b ∧ b ≤ 400000000) :
    Calls Try.prog 159 #[.int .i64 a, .int .i64 b] w fun e w' => e = .returned (.int .i64 (Int.gcd a b : Int)) ∧ ∃ n, w' = w.drewN n := by
  go_enter Try.func159, Try.ntmps159
  go_wp2_with fail
  refine (iIsNum_t _ _ ha.1 ha.2).mono ?_
  rintro e w' ⟨rfl, rfl⟩
  go_wp2_with fail
  refine (iIsNum_t _ _ hb.1 hb.2).mono ?_
  rintro e w' ⟨rfl, rfl⟩
  go_wp2_with fail
  refine (iGD a b _ (by omega) (by omega)).mono ?_
  rintro e w' ⟨rfl, n, rfl⟩
  go_wp2_with fail
  go_ret
  exact ⟨rfl, n, rfl⟩
end Go.Proofs.Ytpelnfenfeoeeaa
end

section
/-
  Chapter 7, in the program: a row without its cell in the pivot's column.
-/
namespace Go.Proofs.Ytpelnfenfeoeeaa
set_option maxRecDepth 100000
open Go.RowKit
set_option maxHeartbeats 2000000 in
theorem iClear (r c i t j N g mi mt : Nat) (xs : List Int) (w : World) (hN : N = r * c) (hx : xs.length = N) (hr : r ≤ 24) (hc : c ≤ 24) (hir : i < r) (htr : t < r) (hit : i ≠ t) (hj : j < c) (nx : nums xs = true) (hy0 : mxC c xs t j ≠ 0) (hi : Ints w g xs) :
    Calls Try.prog 136 #[.slice (some ⟨g, i * c, none⟩) c mi, .slice (some ⟨g, t * c, none⟩) c mt, .int .i64 j] w (fun e w' => ((e = .returned (.bool true) ∧ rowN c (rdV j (mxC c xs i) (mxC c xs t)) = true ∧ Ints w' g (rowL r c i (rdV j (mxC c xs i) (mxC c xs t)) xs)) ∨ (e = .returned (.bool false) ∧ rowN c (rdV j (mxC c xs i) (mxC c xs t)) ≠ true)) ∧ w.grownBy w' (some g)) := by
  have hl : xs.length = r * c := by rw [hx, hN]
  have hle : r * c ≤ 24 * 24 := Nat.mul_le_mul hr hc
  rw [← hN] at hle
  have IL : Hid (∀ i q, i < r → q < c → i * c + q < N) := fun i q hi hq => by rw [hN]; exact idx_lt hi hq
  have NI : Hid (∀ k, k < c → NumP (mxC c xs i k)) := fun k hk => mx_nums hl nx hir hk
  have NT : Hid (∀ k, k < c → NumP (mxC c xs t k)) := fun k hk => mx_nums hl nx htr hk
  have CI : Hid (∀ k, k < c → w.cell? ⟨g, i * c + k, none⟩ = some (.int .i64 (mxC c xs i k))) := fun k hk => hi.cell (by rw [hl]; exact idx_lt hir hk)
  have CT : Hid (∀ k, k < c → w.cell? ⟨g, t * c + k, none⟩ = some (.int .i64 (mxC c xs t k))) := fun k hk => hi.cell (by rw [hl]; exact idx_lt htr hk)
  have RT : Hid (∀ k, k < c → (rowTo r c i (rdV j (mxC c xs i) (mxC c xs t)) xs k).set (i * c + k) (rdV j (mxC c xs i) (mxC c xs t) k) = rowTo r c i (rdV j (mxC c xs i) (mxC c xs t)) xs (k + 1)) := fun k hk => rowTo_step hir hk
  have RX : Hid (∀ k, k < c → (rowTo r c i (rdV j (mxC c xs i) (mxC c xs t)) xs k).getD (i * c + k) 0 = mxC c xs i k) := fun k hk => rowTo_old hir hk (.inr (Nat.le_refl _))
  have RY : Hid (∀ k, k < c → (rowTo r c i (rdV j (mxC c xs i) (mxC c xs t)) xs k).getD (t * c + k) 0 = mxC c xs t k) := fun k hk => rowTo_old htr hk (.inl (fun e => hit e.symm))
  have RL : Hid (∀ k, (rowTo r c i (rdV j (mxC c xs i) (mxC c xs t)) xs k).length = N) := fun k => by rw [rowTo_length, hN]
  have RZ : Hid (rowTo r c i (rdV j (mxC c xs i) (mxC c xs t)) xs 0 = xs) := rowTo_zero hl
  have RA : Hid (rowTo r c i (rdV j (mxC c xs i) (mxC c xs t)) xs c = rowL r c i (rdV j (mxC c xs i) (mxC c xs t)) xs) := rowTo_all
  have hxn := NI.out j hj
  have hyn := NT.out j hj
  have hcx := CI.out j hj
  have hcy := CT.out j hj
  have UV : Hid (∀ h, rdV j (mxC c xs i) (mxC c xs t) h = (mxC c xs t j).tdiv ((mxC c xs i j).gcd (mxC c xs t j)) * mxC c xs i h - (mxC c xs i j).tdiv ((mxC c xs i j).gcd (mxC c xs t j)) * mxC c xs t h) := fun _ => rfl
  have I := Lib.hid hi
  have lg := hi.lt
  generalize rdV j (mxC c xs i) (mxC c xs t) = u at RT RX RY RL RZ RA UV ⊢
  generalize mxC c xs i j = x at hxn hcx UV
  generalize mxC c xs t j = y at hyn hcy UV hy0
  obtain ⟨Di, hDi⟩ : ∃ D, i * c = D := ⟨_, rfl⟩
  obtain ⟨Dt, hDt⟩ : ∃ D, t * c = D := ⟨_, rfl⟩
  have LI : Hid (∀ q, q < c → Di + q < N) := fun q hq => by rw [← hDi]; exact IL.out i q hir hq
  have LT : Hid (∀ q, q < c → Dt + q < N) := fun q hq => by rw [← hDt]; exact IL.out t q htr hq
  rw [hDi] at CI RT RX hcx ⊢
  rw [hDt] at CT RY hcy ⊢
  have hxn' := hxn
  have hyn' := hyn
  unfold NumP at hxn' hyn'
  clear hl hx hN hDi hDt hi nx IL
  go_enter Try.func136, Try.ntmps136
  go_wp2_with fail
  go_quiet (fail)
  have I := Lib.hid (I.out.drewN nq)
  have G := Lib.hid (grown_drewN_one (World.grownBy.refl w (some g)) nq)
  generalize w.drewN nq = w2 at I G ⊢
  go_wp2_with fail
  refine (iGcd x y _ (by omega) (by omega)).mono ?_
  rintro e w3 ⟨rfl, n, rfl⟩
  have I := Lib.hid (I.out.drewN n)
  have G := Lib.hid (grown_drewN_one G.out n)
  generalize w2.drewN n = w3 at I G ⊢
  have hgp : 0 < x.gcd y := Int.gcd_pos_of_ne_zero_right x hy0
  obtain ⟨gg, hgg⟩ : ∃ gg : Int, (x.gcd y : Int) = gg := ⟨_, rfl⟩
  rw [hgg] at UV ⊢
  have g1 : gg ≠ 0 := by omega
  have g2 : (gg == 0) = false := by simpa using g1
  have b1 := tdiv_bb (y := gg) hxn.1 hxn.2
  have b2 := tdiv_bb (y := gg) hyn.1 hyn.2
  obtain ⟨qx, hqx⟩ : ∃ qx, x.tdiv gg = qx := ⟨_, rfl⟩
  obtain ⟨qy, hqy⟩ : ∃ qy, y.tdiv gg = qy := ⟨_, rfl⟩
  rw [hqx] at UV b1
  rw [hqy] at UV b2
  have wx : IntKind.i64.wrap qx = qx := IntWalk.i64_in _ (by omega)
  have wy : IntKind.i64.wrap qy = qy := IntWalk.i64_in _ (by omega)
  clear hgp hgg hcx hcy hxn hyn
  go_wp2_with fail
  go_loopw [10, 24] (fun _ v24 wr => ∃ h : Nat, v24 = .int .i64 h ∧ h ≤ c ∧ (∀ k, k < h → NumP (u k)) ∧ Ints wr g (rowTo r c i u xs h) ∧ w.grownBy wr (some g)) (fun _ v24 _ => c - (intOf v24).toNat)
  case atStart => exact ⟨0, rfl, by omega, fun k hk => by omega, by rw [RZ.out]; exact I.out, G.out⟩
  case round =>
    clear I G
    obtain ⟨h, rfl, hh, hhn, hi, hgr⟩ := hrel
    have I := Lib.hid hi
    have G := Lib.hid hgr
    have HH := Lib.hid hhn
    clear hi hgr hhn
    by_cases hlt : h < c
    · have hca := I.out.cell (i := Di + h) (by rw [RL.out]; exact LI.out h hlt)
      have hcb := I.out.cell (i := Dt + h) (by rw [RL.out]; exact LT.out h hlt)
      have hfr := I.out.free (Di + h)
      rw [RX.out h hlt] at hca
      rw [RY.out h hlt] at hcb
      have na := NI.out h hlt
      have nb := NT.out h hlt
      have uv := UV.out h
      have RS := Lib.hid (RT.out h hlt)
      generalize mxC c xs i h = ea at hca na uv
      generalize mxC c xs t h = eb at hcb nb uv
      have m1 := mul_num qy ea b2 na
      have m2 := mul_num qx eb b1 nb
      have v1 : IntKind.i64.wrap (qy * ea) = qy * ea := IntWalk.i64_in _ (by omega)
      have v2 : IntKind.i64.wrap (qx * eb) = qx * eb := IntWalk.i64_in _ (by omega)
      have v3 : IntKind.i64.wrap (qy * ea - qx * eb) = qy * ea - qx * eb := IntWalk.i64_in _ (by omega)
      obtain ⟨z, hz⟩ : ∃ z, u h = z := ⟨_, rfl⟩
      have Z := Lib.hid hz
      rw [hz] at uv RS
      have q0 : qy * ea - qx * eb = z := uv.symm
      rw [q0] at v3
      have IS := Lib.hid (I.out.set (Di + h) z)
      have GS := Lib.hid (grown_set_one (a := ⟨g, Di + h, none⟩) G.out rfl (.int .i64 z))
      clear na nb m1 m2 hz uv
      go_wp2_with fail
      go_still_tail 20, (by kernel_rfl)
      go_wp2_with fail
      refine (iIsNum z _).mono ?_
      rintro e w6 ⟨rfl, rfl⟩
      have I6 := Lib.hid IS.out.drew
      have G6 := Lib.hid (grown_drew_one GS.out)
      by_cases hzn : NumP z
      · have HH2 : Hid (∀ k, k < h + 1 → NumP (u k)) := fun k hk => by
          rcases Nat.lt_or_ge k h with h3 | h3
          · exact HH.out k h3
          · obtain rfl : k = h := by omega
            rw [Z.out]; exact hzn
        rw [decide_eq_true hzn]
        clear hzn
        go_wp2_with fail
        go_roundw
        case rel => exact ⟨h + 1, by go_num, by omega, HH2.out, by rw [← RS.out]; exact I6.out, G6.out⟩
        case measure => simp [intOf]; omega
      · have RB : Hid (rowN c u ≠ true) := fun h1 => hzn (by rw [← Z.out]; exact rowN_iff.mp h1 h hlt)
        rw [decide_eq_false hzn]
        clear hzn
        go_wp2_with fail
        go_ret
        exact ⟨.inr ⟨rfl, RB.out⟩, G6.out⟩
    · obtain rfl : c = h := by omega
      clear hlt
      have RW : Hid (rowN c u = true) := rowN_iff.mpr HH.out
      go_wp2_with fail
      go_ret
      exact ⟨.inl ⟨rfl, RW.out, by rw [← RA.out]; exact I.out⟩, G.out⟩
end Go.Proofs.Ytpelnfenfeoeeaa
end

section
/-
  Chapter 7, in the program: the elimination.
-/
namespace Go.Proofs.Ytpelnfenfeoeeaa
set_option maxRecDepth 100000
open Go.RowKit
theorem OwnQ.ne_blk {B b : Nat} {w : World} {v : Value} {zs : List Int} {x y z : Value} (h : OwnQ B w v zs) (k : Blk3 w b 26 x y z) : v.ownBlock ≠ some b := fun e => by
  obtain ⟨h1, ⟨h2, h3⟩ | ⟨g, cap, cur, rfl, hB, hg, rest⟩⟩ := h
  · rw [h2] at e; cases e
  · simp only [Value.ownBlock, Option.some.injEq] at e
    subst e
    unfold Blk3 at k
    rw [hg] at k
    injection k with k
    injection k with _ k2 _
    exact absurd k2 (by decide)
structure EpSt (w : World) (B b rb r c N cap g : Nat) (q : Option Addr) (ys : List Int) (v : Value) (pv : List Nat) (wr : World) : Prop where
  blk : Blk3 wr b 26 (.int .i64 r) (.int .i64 c) (.slice q N cap)
  ret : Blk3 wr rb 26 (.int .i64 0) (.int .i64 0) (.slice none 0 0)
  cel : Cel wr q N cap g ys
  own : OwnQ B wr v (pvI pv)
  bel : Below w.heap.size w wr
  le : B ≤ wr.heap.size
theorem EpSt.one {w : World} {B b rb r c N cap g : Nat} {q : Option Addr} {ys ys' : List Int} {v : Value} {pv : List Nat} {wr w' : World} (h : EpSt w B b rb r c N cap g q ys v pv wr) (hi : Cel w' q N cap g ys') (hg : wr.grownBy w' (some g)) (hb : b ≠ g) (hr : rb ≠ g) (hB : g < B) (hw : w.heap.size ≤ g) : EpSt w B b rb r c N cap g q ys' v pv w' :=
  ⟨h.blk.keepOne hg hb, h.ret.keepOne hg hr, hi, h.own.one hg hB, h.bel.trans (below_of_one hg hw h.bel.size), Nat.le_trans h.le hg.size⟩
theorem EpSt.below {w : World} {B b rb r c N cap g : Nat} {q : Option Addr} {ys : List Int} {v : Value} {pv : List Nat} {wr w' : World} (h : EpSt w B b rb r c N cap g q ys v pv wr) (hb : Below wr.heap.size wr w') : EpSt w B b rb r c N cap g q ys v pv w' :=
  ⟨h.blk.step hb, h.ret.step hb, h.cel.keep hb, h.own.keep hb, h.bel.trans (hb.mono h.bel.size), Nat.le_trans h.le hb.size⟩
theorem EpSt.drewN {w : World} {B b rb r c N cap g : Nat} {q : Option Addr} {ys : List Int} {v : Value} {pv : List Nat} {wr : World} (h : EpSt w B b rb r c N cap g q ys v pv wr) (n : Nat) : EpSt w B b rb r c N cap g q ys v pv (wr.drewN n) :=
  ⟨h.blk.drewN n, h.ret.drewN n, h.cel.drewN n, h.own.drewN n, below_drewN h.bel n, h.le⟩
theorem EpSt.drew {w : World} {B b rb r c N cap g : Nat} {q : Option Addr} {ys : List Int} {v : Value} {pv : List Nat} {wr : World} (h : EpSt w B b rb r c N cap g q ys v pv wr) : EpSt w B b rb r c N cap g q ys v pv wr.drew := h.drewN 1
theorem EpSt.app {w : World} {B b rb r c N cap g : Nat} {q : Option Addr} {ys : List Int} {v v' : Value} {pv pv' : List Nat} {wr w' : World} (h : EpSt w B b rb r c N cap g q ys v pv wr) {o : Obj} (hg : (wr.alloc o).grownBy w' v.ownBlock) (ho : OwnQ B w' v' (pvI pv')) (hgB : g < B) (hw : w.heap.size ≤ B) : EpSt w B b rb r c N cap g q ys v' pv' w' := by
  have keep : ∀ k, v.ownBlock ≠ some k → k < wr.heap.size → w'.heap[k]? = wr.heap[k]? := fun k hk hl => (hg.block k (by simp; omega) (fun e => hk e.symm)).trans (Below.heap_alloc wr o k hl)
  have hs := hg.size
  simp at hs
  have hl := h.le
  exact ⟨(keep b (h.own.ne_blk h.blk) h.blk.lt).trans h.blk, (keep rb (h.own.ne_blk h.ret) h.ret.lt).trans h.ret, h.cel.move fun hl => keep g (fun e => by have := h.own.le e; omega) hl, ho, h.bel.trans ⟨hg.os, hg.tape, hg.output, by omega, fun k hk => keep k (fun e => by have := h.own.le e; omega) (by omega)⟩, by omega⟩
theorem OwnQ.far_ne {B : Nat} {w : World} {v : Value} {zs : List Int} (h : OwnQ B w v zs) {a : Addr} (ha : v.ownBlock ≠ some a.block) (u : Value) : OwnQ B (w.setCell a u) v zs :=
  h.move fun k hk => Below.heap_setCell w a u k (fun e => ha (by rw [hk, e]))
theorem EpSt.end_ {w : World} {B b rb r c N cap g : Nat} {q : Option Addr} {ys : List Int} {qv : Option Addr} {n qc : Nat} {pv : List Nat} {wr : World} (h : EpSt w B b rb r c N cap g q ys (.slice qv n qc) pv wr) (hN : N ≤ 576) (hpv : pv.length ≤ 24) (hgB : g < B) (hw : w.heap.size ≤ g) (hrw : w.heap.size ≤ rb) (hrg : rb ≠ g) (x y z : Value) :
    EchP w r c (some (ys, pv)) (.returned (.tuple #[.agg #[.int .i64 r, .int .i64 c, .slice q N cap], .slice qv n qc, .bool true])) (((wr.setCell ⟨rb, 0, none⟩ x).setCell ⟨rb, 1, none⟩ y).setCell ⟨rb, 2, none⟩ z) := by
  have hne := h.own.ne_blk h.ret
  refine .inl ⟨_, _, ys, pv, rfl, rfl, ?_, ?_, fun k hk e => ?_, ?_⟩
  · refine Cel.own (g := g) (h.cel.move fun _ => ?_) hw (by omega)
    exact ((Below.heap_setCell _ _ z g (by show g ≠ rb; omega)).trans (Below.heap_setCell _ _ y g (by show g ≠ rb; omega))).trans (Below.heap_setCell _ _ x g (by show g ≠ rb; omega))
  · exact ((((h.own.far_ne (a := ⟨rb, 0, none⟩) hne x).far_ne (a := ⟨rb, 1, none⟩) hne y).far_ne (a := ⟨rb, 2, none⟩) hne z).lower (by omega)).own (by rw [pvI_length]; omega)
  · have h1 := h.own.le e
    rcases h.cel with ⟨rfl, -⟩ | ⟨rfl, -⟩
    · cases hk
    · simp only [Value.ownBlock, Option.some.injEq] at hk
      omega
  · exact ((h.bel.setCell hrw x).setCell hrw y).setCell hrw z
theorem ep_bad {w wr : World} {rb r c : Nat} (hb : Below w.heap.size w wr) (hrw : w.heap.size ≤ rb) (x y z : Value) :
    EchP w r c none (.returned (.tuple #[.agg #[.int .i64 0, .int .i64 0, .slice none 0 0], .slice none 0 0, .bool false])) (((wr.setCell ⟨rb, 0, none⟩ x).setCell ⟨rb, 1, none⟩ y).setCell ⟨rb, 2, none⟩ z) :=
  .inr ⟨_, rfl, rfl, .inl ⟨rfl, rfl⟩, ((hb.setCell hrw x).setCell hrw y).setCell hrw z⟩
theorem cel3 {w : World} {b : Nat} {x y z : Value} (h : Blk3 w b 26 x y z) : w.cell? ⟨b, 0, none⟩ = some x ∧ w.cell? ⟨b, 1, none⟩ = some y ∧ w.cell? ⟨b, 2, none⟩ = some z := ⟨h.all.1, h.all.2.1, h.all.2.2.1⟩
end Go.Proofs.Ytpelnfenfeoeeaa
end

section
/-
  Chapter 7, in the program: the elimination, walked.
-/
namespace Go.Proofs.Ytpelnfenfeoeeaa
set_option maxRecDepth 100000
open Go.RowKit
set_option maxHeartbeats 4000000 in
theorem iEch (r c N : Nat) (a : Option Addr) (m : Nat) (xs : List Int) (w : World) (h : Rd w a xs) (hx : xs.length = N) (hN : N = r * c) (hr : r ≤ 24) (hc : c ≤ 24) (nx : nums xs = true) (hm : isMat r c xs = true) :
    Calls Try.prog 85 #[.agg #[.int .i64 r, .int .i64 c, .slice a N m]] w (EchP w r c (echM r c xs)) := by
  have hle : r * c ≤ 24 * 24 := Nat.mul_le_mul hr hc
  rw [← hN] at hle
  have IM : Hid (∀ w', Below w.heap.size w w' → Calls Try.prog 58 #[.agg #[.int .i64 r, .int .i64 c, .slice a N m]] w' (Gives (.bool true) w')) := fun w' hb => by
    have := iIsMat r c a m xs w' (h.below hb) (by omega)
    rw [hx, hm] at this
    exact this
  have CP : Hid (∀ w', Below w.heap.size w w' → Calls Try.prog 60 #[.agg #[.int .i64 r, .int .i64 c, .slice a N m]] w' (CopyM r c N xs w')) := fun w' hb => iCopyOf r c a m N xs hx w' (h.below hb) (by omega)
  have EI : Hid (EInv r c (mxC c xs) (prTo r c r xs) [] 0) := EInv.start (by rw [hx, hN]) nx
  have HR : Hid (echC r c c 0 (prTo r c r xs) [] = echM r c xs) := rfl
  generalize echM r c xs = RES at HR ⊢
  have PZ : Hid (prTo r c 0 xs = xs) := prTo_zero (by rw [hx, hN])
  have PN : Hid (∀ i, nums (prTo r c i xs) = true) := fun i => prTo_nums (by rw [hx, hN]) nx
  have PS : Hid (∀ i, i < r → prL r c i (prTo r c i xs) = prTo r c (i + 1) xs) := fun i hi => prTo_step hi
  have HN := Lib.hid hN
  have DL : Hid (∀ i, i < r → i * c + c ≤ N) := fun i hi => by rw [hN, ← Nat.succ_mul]; exact Nat.mul_le_mul_right _ hi
  clear hN hx nx h hm
  go_enter Try.func85, Try.ntmps85
  go_upto_region 1 with fail
  have K0 : Hid (Blk3 ((w.alloc (.cells #[.int .i64 r, .int .i64 c, .slice a N m] 26)).alloc (.cells #[.int .i64 0, .int .i64 0, .slice none 0 0] 26)) w.heap.size 26 (.int .i64 r) (.int .i64 c) (.slice a N m)) := (Blk3.at_ _ _ _ _ rfl).old _
  have R0 : Hid (Blk3 ((w.alloc (.cells #[.int .i64 r, .int .i64 c, .slice a N m] 26)).alloc (.cells #[.int .i64 0, .int .i64 0, .slice none 0 0] 26)) (w.heap.size + 1) 26 (.int .i64 0) (.int .i64 0) (.slice none 0 0)) := Blk3.at_ _ _ _ _ (by simp)
  have B0 : Hid (Below w.heap.size w ((w.alloc (.cells #[.int .i64 r, .int .i64 c, .slice a N m] 26)).alloc (.cells #[.int .i64 0, .int .i64 0, .slice none 0 0] 26))) := ((Below.refl _ _).alloc (Nat.le_refl _) _).alloc (by simp) _
  have S0 : Hid (((w.alloc (.cells #[.int .i64 r, .int .i64 c, .slice a N m] 26)).alloc (.cells #[.int .i64 0, .int .i64 0, .slice none 0 0] 26)).heap.size = w.heap.size + 2) := by show _ = _; simp
  generalize (w.alloc (.cells #[.int .i64 r, .int .i64 c, .slice a N m] 26)).alloc (.cells #[.int .i64 0, .int .i64 0, .slice none 0 0] 26) = W0 at K0 R0 B0 S0 ⊢
  obtain ⟨p0, p1, p2, -, -, -⟩ := K0.out.all
  go_wp2_with fail
  refine (IM.out _ B0.out).mono ?_
  rintro e w1 ⟨rfl, hb⟩
  have s0 := S0.out
  have sb := hb.size
  have K1 := Lib.hid (K0.out.step hb)
  have R1 := Lib.hid (R0.out.step hb)
  have B1 := Lib.hid (B0.out.trans (hb.mono (by omega)))
  clear hb K0 R0 B0 S0 p0 p1 p2 IM
  obtain ⟨p0, p1, p2, -, -, -⟩ := K1.out.all
  go_wp2_with fail
  refine (CP.out _ B1.out).mono ?_
  rintro e w2 ⟨q, cap, rfl, own, hb⟩
  have R2 := Lib.hid (R1.out.step hb)
  have B2 := Lib.hid (B1.out.trans (hb.mono (by omega)))
  have sb2 := hb.size
  obtain ⟨g, C2, g1, g2, g3⟩ : ∃ g, Cel w2 q N cap g xs ∧ w.heap.size ≤ g ∧ g < w2.heap.size ∧ g ≠ w.heap.size + 1 := by
    rcases own with ⟨e, e2⟩ | ⟨g, c', e, hB, hi, hl, -⟩
    · injection e with e1 e3 e4
      exact ⟨w.heap.size, .inl ⟨e1, e4, e3, e2⟩, by omega, by omega, by omega⟩
    · injection e with e1 e3 e4
      subst e1
      exact ⟨g, .inr ⟨rfl, by omega, e3.symm, hi⟩, by omega, hi.lt, by omega⟩
  clear own hb p0 p1 p2 K1 R1 B1 CP
  obtain ⟨rb, hrb⟩ : ∃ rb, w.heap.size + 1 = rb := ⟨_, rfl⟩
  have lrb : w.heap.size ≤ rb := by omega
  rw [hrb] at R2 g3 ⊢
  obtain ⟨B, hB⟩ : ∃ B, w2.heap.size = B := ⟨_, rfl⟩
  have ST : Hid (EpSt w B (B + 1) rb r c N cap g q xs (.slice (some ⟨B, 0, none⟩) 0 0) [] ((w2.alloc (.cells #[] 3)).alloc (.cells #[.int .i64 r, .int .i64 c, .slice q N cap] 26))) :=
    ⟨Blk3.at_ _ _ _ _ (by simp; omega), (R2.out.old _).old _, (C2.keep (Below.alloc (Below.refl _ _) (Nat.le_refl _) _)).keep (Below.alloc (Below.refl _ _) (Nat.le_refl _) _),
      (OwnQ.none_ (Nat.le_refl _) ⟨Nat.zero_le _, [], rfl, by rw [← hB]; exact heap_alloc_new w2 _⟩).keep (Below.alloc (Below.refl _ _) (Nat.le_refl _) _), (B2.out.alloc B2.out.size _).alloc (by have := B2.out.size; simp; omega) _, by simp; omega⟩
  have lgB : g < B := by omega
  have lwB : w.heap.size ≤ B := by omega
  have S2 : Hid ((w2.alloc (.cells #[] 3)).heap.size = B + 1) := by show _ = _; simp; omega
  go_upto_region 4 with fail
  generalize (w2.alloc (.cells #[] 3)).alloc (.cells #[.int .i64 r, .int .i64 c, .slice q N cap] 26) = W at ST ⊢
  clear S2 hB R2 B2 C2 g2 sb sb2 s0 hrb w2 w1 W0
  obtain ⟨b, hb⟩ : ∃ b, B + 1 = b := ⟨_, rfl⟩
  rw [hb] at ST ⊢
  have lb : b ≠ g := by omega
  clear hb
  have PM : Hid (∀ (i : Nat) (ys : List Int) (w' : World), i < r → nums ys = true → Blk3 w' b 26 (.int .i64 r) (.int .i64 c) (.slice q N cap) → Cel w' q N cap g ys → Calls Try.prog 133 #[.int .i64 i, .pointer (some ⟨b, 0, none⟩)] w' (fun e w2 => Void e ∧ Cel w2 q N cap g (prL r c i ys) ∧ w'.grownBy w2 (some g))) := fun i ys w' hi hn K C => iPrim r c i N b cap g q ys w' HN.out hr hc hi hn K C
  obtain ⟨p0, p1, p2, -, -, -⟩ := ST.out.blk.all
  go_wp2_with fail
  clear p0 p1 p2
  go_loopw [8, 23] (fun _ v23 wr => ∃ i : Nat, v23 = .int .i64 i ∧ i ≤ r ∧ EpSt w B b rb r c N cap g q (prTo r c i xs) (.slice (some ⟨B, 0, none⟩) 0 0) [] wr) (fun _ v23 _ => r - (intOf v23).toNat)
  case atStart => exact ⟨0, rfl, by omega, by rw [PZ.out]; exact ST.out⟩
  case round =>
    clear ST
    obtain ⟨i, rfl, hi, hst⟩ := hrel
    have ST := Lib.hid hst
    clear hst
    by_cases hlt : i < r
    · go_wp2_with fail
      refine (PM.out i _ _ hlt (PN.out i) ST.out.blk ST.out.cel).mono ?_
      rintro e w2 ⟨rfl, hc2, hg2⟩
      rw [PS.out i hlt] at hc2
      have S2 := Lib.hid (ST.out.one hc2 hg2 lb g3.symm lgB g1)
      clear hc2 hg2
      go_wp2_with fail
      go_roundw
      case rel => exact ⟨i + 1, by go_num, by omega, S2.out⟩
      case measure => simp [intOf]; omega
    · obtain rfl : r = i := by omega
      clear hlt
      obtain ⟨p0, p1, p2, -, -, -⟩ := ST.out.blk.all
      generalize prTo r c r xs = y0 at ST HR EI
      go_wp2_with fail
      clear p0 p1 p2
      go_loopw [3, 4, 6, 9, 10, 11, 12, 32, 49] (fun _ _ v6 _ _ _ _ v32 _ wr => ∃ (j k : Nat) (ys : List Int) (qv : Option Addr) (qc : Nat) (pv : List Nat), v6 = .slice qv pv.length qc ∧ v32 = .int .i64 j ∧ j + k = c ∧ EInv r c (mxC c xs) ys pv j ∧ echC r c k j ys pv = RES ∧ EpSt w B b rb r c N cap g q ys (.slice qv pv.length qc) pv wr) (fun _ _ _ _ _ _ _ v32 _ _ => c - (intOf v32).toNat)
      case atStart => exact ⟨0, c, y0, _, _, [], rfl, rfl, by omega, EI.out, HR.out, ST.out⟩
      case round =>
        clear ST EI HR
        obtain ⟨j, k, ys, qv, qc, pv, rfl, rfl, hjk, he, hR, hst⟩ := hrel
        have ST := Lib.hid hst
        have EI := Lib.hid he
        have HR := Lib.hid hR
        clear hst he hR
        obtain ⟨t, ht⟩ : ∃ t, pv.length = t := ⟨_, rfl⟩
        have PT := Lib.hid ht
        have htr : t ≤ r := by rw [← ht]; exact EI.out.le
        rw [ht] at ST ⊢
        clear ht
        obtain ⟨p0, p1, p2, -, -, -⟩ := ST.out.blk.all
        by_cases hjc : j < c
        · obtain ⟨k, rfl⟩ : ∃ k', k = k' + 1 := ⟨k - 1, by omega⟩
          obtain ⟨f1, f2, f3, f4⟩ := fstR_says (c := c) (j := j) (xs := ys) (k := r - t) (p := t)
          go_wp2_with fail
          refine (iPivR r c t j N cap g q ys _ HN.out hr hc htr hjc ST.out.cel).mono ?_
          rintro e w5 ⟨rfl, hb5⟩
          have ST := Lib.hid (ST.out.below hb5)
          clear hb5 p0 p1 p2
          by_cases hf : fstR c j ys (r - t) t = r
          · have n1 : pvR r c j t ys = -1 := if_pos hf
            have EI2 : Hid (EInv r c (mxC c xs) ys pv (j + 1)) := EI.out.skip hjc fun i h1 h2 => f3 i (by rw [← PT.out]; exact h1) (by omega)
            have HE : Hid (echC r c k (j + 1) ys pv = RES) := by
              have h1 := HR.out
              by_cases htl : t < r
              · rw [echC_skip (by rw [PT.out]; exact htl) (by rw [PT.out]; exact hf)] at h1
                exact h1
              · have hp : ¬ pv.length < r := by rw [PT.out]; exact htl
                show _ = _
                rw [echC_full hp]
                rw [echC_full hp] at h1
                exact h1
            rw [n1]
            clear n1 hf f1 f2 f3 f4
            go_wp2_with fail
            go_roundw
            case rel => exact ⟨j + 1, k, ys, qv, qc, pv, by rw [PT.out], by go_num, by omega, EI2.out, HE.out, by rw [PT.out]; exact ST.out⟩
            case measure => simp [intOf]; omega
          · have n1 : pvR r c j t ys = (fstR c j ys (r - t) t : Int) := if_neg hf
            obtain ⟨p, hp⟩ : ∃ p, fstR c j ys (r - t) t = p := ⟨_, rfl⟩
            rw [hp] at n1 hf f1 f2 f3 f4
            have hpr : p < r := by omega
            have htl : t < r := by omega
            have N0 : 0 < N := by have := DL.out t htl; omega
            have FS : Hid (fstR c j ys (r - pv.length) pv.length = p) := by show _ = _; rw [PT.out]; exact hp
            have hs := EI.out.swap (p := p) (by rw [PT.out]; exact f1) hpr
            have hyz : mxC c (swC p t c ys) t j ≠ 0 := by
              rw [swC_at EI.out.len htl hjc]
              by_cases e : t = p
              · rw [if_pos e, e]; exact f4 (by omega)
              · rw [if_neg e, if_pos rfl]; exact f4 (by omega)
            rw [PT.out] at hs
            have EN : Hid (elimR r c t j r 0 (swC p t c ys) = none → RES = none) := fun h => by
              have h1 := HR.out
              rw [echC_none (p := p) (by rw [PT.out]; exact htl) FS.out (by omega) (by rw [PT.out]; exact h)] at h1
              exact h1.symm
            have EO : Hid (∀ us, elimR r c t j r 0 (swC p t c ys) = some us → echC r c k (j + 1) us (pv ++ [j]) = RES) := fun us h => by
              have h1 := HR.out
              rw [echC_on (p := p) (by rw [PT.out]; exact htl) FS.out (by omega) (by rw [PT.out]; exact h)] at h1
              exact h1
            have ZL : Hid ((swC p t c ys).length = N) := by show _ = _; rw [swC_length, ST.out.cel.len]
            obtain ⟨rfl, hI⟩ := ST.out.cel.ints N0
            have II := Lib.hid hI
            have n2 : decide ((p : Int) < 0) = false := decide_eq_false (by omega)
            rw [n1]
            clear n1 hf f1 f2 f3 f4 hI hp FS
            obtain ⟨p0, p1, p2, -, -, -⟩ := ST.out.blk.all
            go_wp2_with fail
            refine (iSwR r c p t N cap g ys _ HN.out ST.out.cel.len hr hc (by omega) hpr htl II.out).mono ?_
            rintro e w6 ⟨rfl, hi6, hg6⟩
            have ST := Lib.hid (ST.out.one (ST.out.cel.put N0 ZL.out hi6) hg6 lb g3.symm lgB g1)
            clear II hi6 hg6 p0 p1 p2
            have EZ := Lib.hid hs
            have YZ := Lib.hid hyz
            clear hs hyz EI HR
            generalize swC p t c ys = zs at EN EO ZL EZ YZ ST
            obtain ⟨E, hE⟩ : ∃ E, elimR r c t j r 0 zs = E := ⟨_, rfl⟩
            rw [hE] at EN EO
            have EE := Lib.hid hE
            clear hE
            obtain ⟨p0, p1, p2, -, -, -⟩ := ST.out.blk.all
            go_wp2_with fail
            clear p0 p1 p2
            have RW : Hid (∀ i, i < r → ∀ w', Calls Try.prog 83 #[.agg #[.int .i64 r, .int .i64 c, .slice (some ⟨g, 0, none⟩) N cap], .int .i64 i] w' (RowAt (some ⟨g, 0, none⟩) (i * c) c w')) := fun i hi w' => iRowIn r c i (i * c) N cap _ w' (.inr ⟨g, 0, rfl⟩) rfl (DL.out i hi) ST.out.cel.le (fun h => by cases h) (by omega) (by omega)
            go_loopw [3, 4, 12, 49] (fun _ _ _ v49 wu => ∃ (i l : Nat) (us : List Int), v49 = .int .i64 i ∧ i + l = r ∧ EInv r c (mxC c xs) us pv j ∧ mxC c us t j ≠ 0 ∧ (∀ p, p < i → p ≠ t → mxC c us p j = 0) ∧ elimR r c t j l i us = E ∧ EpSt w B b rb r c N cap g (some ⟨g, 0, none⟩) us (.slice qv t qc) pv wu) (fun _ _ _ v49 _ => r - (intOf v49).toNat)
            case atStart => exact ⟨0, r, zs, rfl, by omega, EZ.out, YZ.out, fun p hp => by omega, EE.out, ST.out⟩
            case round =>
              clear ST EZ YZ EE ZL
              obtain ⟨i, l, us, rfl, hil, he, hy, hz, hue, hst⟩ := hrel
              have ST := Lib.hid hst
              have EI := Lib.hid he
              have HY := Lib.hid hy
              have HZ := Lib.hid hz
              have UE := Lib.hid hue
              clear hst he hy hz hue
              by_cases hir : i < r
              · obtain ⟨l, rfl⟩ : ∃ l', l = l' + 1 := ⟨l - 1, by omega⟩
                by_cases hit : i = t
                · have n2 : ((i : Int) == (t : Int)) = true := by simp [hit]
                  have UE2 : Hid (elimR r c t j l (i + 1) us = E) := by
                    have h1 := UE.out
                    rw [elimR_skip (.inl hit)] at h1
                    exact h1
                  have HZ2 : Hid (∀ p, p < i + 1 → p ≠ t → mxC c us p j = 0) := fun p h1 h2 => HZ.out p (by omega) h2
                  clear hit
                  go_wp2_with fail
                  go_roundw
                  case rel => exact ⟨i + 1, l, us, by go_num, by omega, EI.out, HY.out, HZ2.out, UE2.out, ST.out⟩
                  case measure => simp [intOf]; omega
                · have n2 : ((i : Int) == (t : Int)) = false := by simp; omega
                  have ypos : 0 < mxC c us t j := (EI.out.norm t htl).pos hjc (fun q hq => EI.out.rest t q (by rw [PT.out]; exact Nat.le_refl _) htl hq) HY.out
                  obtain ⟨go1, go2⟩ := elimR_go (k := l) EI.out.len EI.out.num hir hit ypos (EI.out.norm i hir)
                  have ON : Hid (rowN c (rdV j (mxC c us i) (mxC c us t)) = true → EInv r c (mxC c xs) (rdL r c t j i us) pv j ∧ mxC c (rdL r c t j i us) t j ≠ 0 ∧ (∀ p, p < i + 1 → p ≠ t → mxC c (rdL r c t j i us) p j = 0) ∧ elimR r c t j l (i + 1) (rdL r c t j i us) = E) := fun h => by
                    have h1 := UE.out
                    rw [go1 h] at h1
                    obtain ⟨e1, e2, e3⟩ := EI.out.reduce (i := i) (by rw [PT.out]; exact htl) hjc hir (by rw [PT.out]; exact hit) (by rw [PT.out]; exact HY.out) (by rw [PT.out]; exact h)
                    rw [PT.out] at e1 e2 e3
                    refine ⟨e1, by rw [e2 t j htl hjc (fun e => hit e.symm)]; exact HY.out, fun p hp hpt => ?_, h1⟩
                    by_cases e : p = i
                    · rw [e]; exact e3
                    · rw [e2 p j (by omega) hjc e]; exact HZ.out p (by omega) hpt
                  have OF : Hid (rowN c (rdV j (mxC c us i) (mxC c us t)) ≠ true → RES = none) := fun h => EN.out (by
                    have h1 := UE.out
                    rw [go2 h] at h1
                    exact h1.symm)
                  have CL : Hid (∀ mi mt w', Ints w' g us → Calls Try.prog 136 #[.slice (some ⟨g, i * c, none⟩) c mi, .slice (some ⟨g, t * c, none⟩) c mt, .int .i64 j] w' (fun e w2 => ((e = .returned (.bool true) ∧ rowN c (rdV j (mxC c us i) (mxC c us t)) = true ∧ Ints w2 g (rowL r c i (rdV j (mxC c us i) (mxC c us t)) us)) ∨ (e = .returned (.bool false) ∧ rowN c (rdV j (mxC c us i) (mxC c us t)) ≠ true)) ∧ w'.grownBy w2 (some g))) := fun mi mt w' h => iClear r c i t j N g mi mt us w' HN.out ST.out.cel.len hr hc hir htl hit hjc EI.out.num HY.out h
                  have RP : Hid (prL r c i (rowL r c i (rdV j (mxC c us i) (mxC c us t)) us) = rdL r c t j i us) := rdL_prim hir
                  have RN : Hid (rowN c (rdV j (mxC c us i) (mxC c us t)) = true → nums (rowL r c i (rdV j (mxC c us i) (mxC c us t)) us) = true) := fun h => rowL_nums EI.out.len EI.out.num (rowN_iff.mp h)
                  have RL : Hid ((rowL r c i (rdV j (mxC c us i) (mxC c us t)) us).length = N) := by show _ = _; rw [rowL_length, HN.out]
                  clear go1 go2 ypos EI HY HZ UE hit
                  generalize rowL r c i (rdV j (mxC c us i) (mxC c us t)) us = rs at CL RP RN RL
                  generalize rdL r c t j i us = vs at ON RP
                  generalize rowN c (rdV j (mxC c us i) (mxC c us t)) = okr at ON OF CL RN
                  go_upto_region 21 with fail
                  refine wp_region_held_drew (S := fun w' => Blk3 w' b 26 (.int .i64 r) (.int .i64 c) (.slice (some ⟨g, 0, none⟩) N cap)) (by kernel_rfl) ST.out.drew.blk (fun hH => ?_)
                  have SD := Lib.hid ST.out.drew
                  clear ST
                  generalize wr.drew = wd at SD hH ⊢
                  refine wpAnyH_take (i := 0) (v := ?_) (by simp only [List.getElem?_toArray, List.getElem?_cons_zero]; rfl) (by kernel_rfl) (by kernel_rfl) (by kernel_rfl) (by exact fun _ _ _ h => h) (Or.inl ⟨by rfl, ?_⟩) hH ?_
                  rotate_left
                  · (intro wS hS; (try dsimp only at hS); obtain ⟨k0, k1, k2⟩ := cel3 hS; go_simp; try rfl)
                  try simp only [Act.put, List.setIfInBounds_toArray, List.set_cons_zero, List.set_cons_succ]
                  refine wpAnyH_take (i := 1) (v := ?_) (by simp only [List.getElem?_toArray, List.getElem?_cons_succ, List.getElem?_cons_zero]; rfl) (by kernel_rfl) (by kernel_rfl) (by kernel_rfl) (by exact fun _ _ _ h => h) (Or.inl ⟨by rfl, ?_⟩) hH ?_
                  rotate_left
                  · (intro wS hS; clear hS; go_simp; try rfl)
                  try simp only [Act.put, List.setIfInBounds_toArray, List.set_cons_zero, List.set_cons_succ]
                  refine wpAnyH_take (i := 3) (v := ?_) (by simp only [List.getElem?_toArray, List.getElem?_cons_succ, List.getElem?_cons_zero]; rfl) (by kernel_rfl) (by kernel_rfl) (by kernel_rfl) (by exact fun _ _ _ h => h) (Or.inl ⟨by rfl, ?_⟩) hH ?_
                  rotate_left
                  · (intro wS hS; (try dsimp only at hS); obtain ⟨k0, k1, k2⟩ := cel3 hS; go_simp; try rfl)
                  try simp only [Act.put, List.setIfInBounds_toArray, List.set_cons_zero, List.set_cons_succ]
                  refine wpAnyH_take (i := 4) (v := ?_) (by simp only [List.getElem?_toArray, List.getElem?_cons_succ, List.getElem?_cons_zero]; rfl) (by kernel_rfl) (by kernel_rfl) (by kernel_rfl) (by exact fun _ _ _ h => h) (Or.inl ⟨by rfl, ?_⟩) hH ?_
                  rotate_left
                  · (intro wS hS; clear hS; go_simp; try rfl)
                  try simp only [Act.put, List.setIfInBounds_toArray, List.set_cons_zero, List.set_cons_succ]
                  refine wpAnyH_take (i := 6) (v := ?_) (by simp only [List.getElem?_toArray, List.getElem?_cons_succ, List.getElem?_cons_zero]; rfl) (by kernel_rfl) (by kernel_rfl) (by kernel_rfl) (by exact fun _ _ _ h => h) (Or.inl ⟨by rfl, ?_⟩) hH ?_
                  rotate_left
                  · (intro wS hS; clear hS; go_simp; try rfl)
                  try simp only [Act.put, List.setIfInBounds_toArray, List.set_cons_zero, List.set_cons_succ]
                  refine wpAnyH_ready (rs := [2]) (by kernel_rfl) (by simp) ?_
                  refine AllReadyH.cons (by simp only [List.getElem?_toArray, List.getElem?_cons_succ, List.getElem?_cons_zero]; rfl) (fun K hK => ?_) AllReadyH.nil
                  go_simp
                  (with_reducible refine (RW.out i hir _).mono ?_)
                  rintro e v1 ⟨q1, m1, rfl, -, hq1, -, hb1⟩
                  obtain rfl := hq1 g 0 rfl (by omega)
                  rw [Nat.zero_add]
                  have S1 := Lib.hid (SD.out.below hb1)
                  clear hq1 hb1 SD
                  try dsimp only
                  refine hK.out _ _ ?_ (fun hH2 => ?_)
                  · exact S1.out.blk
                  clear hK K hH
                  have hH := hH2
                  clear hH2
                  try simp only [Act.put, List.setIfInBounds_toArray, List.set_cons_zero, List.set_cons_succ]
                  refine wpAnyH_ready (rs := [5]) (by kernel_rfl) (by simp) ?_
                  refine AllReadyH.cons (by simp only [List.getElem?_toArray, List.getElem?_cons_succ, List.getElem?_cons_zero]; rfl) (fun K hK => ?_) AllReadyH.nil
                  go_simp
                  (with_reducible refine (RW.out t htl _).mono ?_)
                  rintro e v2 ⟨q2, m2, rfl, -, hq2, -, hb2⟩
                  obtain rfl := hq2 g 0 rfl (by omega)
                  rw [Nat.zero_add]
                  have S2 := Lib.hid (S1.out.below hb2)
                  clear hq2 hb2 S1
                  try dsimp only
                  refine hK.out _ _ ?_ (fun hH2 => ?_)
                  · exact S2.out.blk
                  clear hK K hH
                  have hH := hH2
                  clear hH2
                  try simp only [Act.put, List.setIfInBounds_toArray, List.set_cons_zero, List.set_cons_succ]
                  refine wpAnyH_ready (rs := [7]) (by kernel_rfl) (by simp) ?_
                  refine AllReadyH.cons (by simp only [List.getElem?_toArray, List.getElem?_cons_succ, List.getElem?_cons_zero]; rfl) (fun K hK => ?_) AllReadyH.nil
                  go_simp
                  (with_reducible refine (CL.out _ _ _ (S2.out.cel.ints (by omega)).2).mono ?_)
                  rintro e v3 ⟨h3, hg3⟩
                  have K3 := Lib.hid (S2.out.blk.keepOne hg3 (by omega))
                  rcases h3 with ⟨rfl, h4, h5⟩ | ⟨rfl, h4⟩
                  · try dsimp only
                    refine hK.out _ _ ?_ (fun hH2 => ?_)
                    · exact K3.out
                    clear hK K hH
                    have hH := hH2
                    clear hH2
                    try simp only [Act.put, List.setIfInBounds_toArray, List.set_cons_zero, List.set_cons_succ]
                    refine wpAnyH_take (i := 8) (v := ?_) (by simp only [List.getElem?_toArray, List.getElem?_cons_succ, List.getElem?_cons_zero]; rfl) (by kernel_rfl) (by kernel_rfl) (by kernel_rfl) (by exact fun _ _ _ h => h) (Or.inl ⟨by rfl, ?_⟩) hH ?_
                    rotate_left
                    · (intro wS hS; clear hS; go_simp; try rfl)
                    try simp only [Act.put, List.setIfInBounds_toArray, List.set_cons_zero, List.set_cons_succ]
                    refine wpAnyH_done (by kernel_rfl) ?_ _
                    obtain ⟨e1, e2, e3, e4⟩ := ON.out h4
                    have E1 := Lib.hid e1
                    have E2 := Lib.hid e2
                    have E3 := Lib.hid e3
                    have E4 := Lib.hid e4
                    have NN := Lib.hid (RN.out h4)
                    have S3 := Lib.hid (S2.out.one (S2.out.cel.put (by omega) RL.out h5) hg3 lb g3.symm lgB g1)
                    clear e1 e2 e3 e4 h4 h5 hg3 K3 S2 hH ON OF CL RN
                    go_wp2_with fail
                    refine (PM.out i _ _ hir NN.out S3.out.blk S3.out.cel).mono ?_
                    rintro e v4 ⟨rfl, hc4, hg4⟩
                    rw [RP.out] at hc4
                    have S4 := Lib.hid (S3.out.one hc4 hg4 lb g3.symm lgB g1)
                    clear hc4 hg4 S3
                    go_wp2_with fail
                    go_roundw
                    case rel => exact ⟨i + 1, l, vs, by go_num, by omega, E1.out, E2.out, E3.out, E4.out, S4.out⟩
                    case measure => simp [intOf]; omega
                  · try dsimp only
                    refine hK.out _ _ ?_ (fun hH2 => ?_)
                    · exact K3.out
                    clear hK K hH
                    have hH := hH2
                    clear hH2
                    try simp only [Act.put, List.setIfInBounds_toArray, List.set_cons_zero, List.set_cons_succ]
                    refine wpAnyH_take (i := 8) (v := ?_) (by simp only [List.getElem?_toArray, List.getElem?_cons_succ, List.getElem?_cons_zero]; rfl) (by kernel_rfl) (by kernel_rfl) (by kernel_rfl) (by exact fun _ _ _ h => h) (Or.inl ⟨by rfl, ?_⟩) hH ?_
                    rotate_left
                    · (intro wS hS; clear hS; go_simp; try rfl)
                    try simp only [Act.put, List.setIfInBounds_toArray, List.set_cons_zero, List.set_cons_succ]
                    refine wpAnyH_done (by kernel_rfl) ?_ _
                    have RZ := Lib.hid (OF.out h4)
                    have RT3 := Lib.hid (S2.out.ret.keepOne hg3 g3.symm)
                    have BL3 := Lib.hid (S2.out.bel.trans (below_of_one hg3 g1 S2.out.bel.size))
                    clear h4 hg3 K3 S2 hH ON OF CL RN
                    obtain ⟨r0, r1, r2, f0, f1, f2⟩ := RT3.out.all
                    go_wp2_with fail
                    obtain ⟨E0, E1, E2, -, -, -⟩ := (((RT3.out.set0 (.int .i64 0)).set1 (.int .i64 0)).set2 (.slice none 0 0)).all
                    exact bodyPost_ret (v := .tuple #[.agg #[.int .i64 0, .int .i64 0, .slice none 0 0], .slice none 0 0, .bool false]) (by simp [results, Try.results85, go_sem, E0, E1, E2]) rfl (by rw [RZ.out]; exact ep_bad BL3.out lrb _ _ _)
              · obtain rfl : l = 0 := by omega
                have UF : Hid (echC r c k (j + 1) us (pv ++ [j]) = RES) := EO.out us UE.out.symm
                have EF : Hid (EInv r c (mxC c xs) us (pv ++ [j]) (j + 1)) := EI.out.pivot (by rw [PT.out]; exact htl) hjc (by rw [PT.out]; exact HY.out) (fun p hp hne => HZ.out p (by omega) (by rw [← PT.out]; exact hne))
                clear EI HY HZ UE EO EN
                obtain ⟨fi, hfi, hz0, hz1, hz2⟩ := facts_int
                have HO : Hid ((wr.alloc (.cells #[.int .i64 j] 3)).ownsRow B 3 1 (.slice qv t qc) t ((pvI pv).map (Value.int .i64))) := by
                  have h1 := ST.out.own.keep ((Below.refl _ _).alloc (Nat.le_refl _) (.cells #[.int .i64 j] 3))
                  unfold OwnQ at h1
                  rw [pvI_length, PT.out] at h1
                  exact h1
                have le := ST.out.le
                go_wp2_with (at_builtin; refine wpList_append_own_at _ rfl _ _ 22 rfl B 3 fi (.int .i64 0) 1 8 underlying_ints hfi hz0 hz1 hz2 rfl (by decide) _ _ _ rfl HO.out ⟨wr.heap.size, 0, none⟩ 1 1 [.int .i64 j] ?hx ?hl ?hnews ?h1 ?h63 ?hbytes ?hbase ?hnext)
                case hx => rfl
                case hl => rfl
                case hnews => exact cell_one_new _ _ _
                case h1 => intro v hv; simp at hv; subst hv; rfl
                case h63 => unfold maxLen; omega
                case hbytes => omega
                case hbase => simp; omega
                case hnext =>
                  rintro v' w7 ho hg7 - -
                  have O7 : OwnQ B w7 v' (pvI (pv ++ [j])) := by
                    unfold OwnQ pvI
                    rw [List.map_append, List.length_append, List.map_append, List.length_map, PT.out]
                    exact ho
                  have hs := ST.out.app hg7 O7 lgB lwB
                  obtain ⟨q', qc', rfl⟩ := O7.form
                  rw [pvI_length] at hs ⊢
                  have S7 := Lib.hid hs
                  clear hs O7 ho hg7
                  go_wp2_with fail
                  go_roundw
                  case rel => exact ⟨j + 1, k, us, q', qc', pv ++ [j], rfl, by go_num, by omega, EF.out, UF.out, S7.out⟩
                  case measure => simp [intOf]; omega
        · obtain rfl : k = 0 := by omega
          have RF : Hid (some (ys, pv) = RES) := HR.out
          have hpl : pv.length ≤ 24 := by rw [PT.out]; omega
          obtain ⟨r0, r1, r2, h0, h1, h2⟩ := ST.out.ret.all
          go_wp2_with fail
          obtain ⟨E0, E1, E2, -, -, -⟩ := (((ST.out.ret.set0 (.int .i64 r)).set1 (.int .i64 c)).set2 (.slice q N cap)).all
          exact bodyPost_ret (v := .tuple #[.agg #[.int .i64 r, .int .i64 c, .slice q N cap], .slice qv t qc, .bool true]) (by simp [results, Try.results85, go_sem, E0, E1, E2]) rfl (by rw [← RF.out]; exact ST.out.end_ (by omega) hpl lgB g1 lrb g3.symm _ _ _)
end Go.Proofs.Ytpelnfenfeoeeaa
end

section
/-
  Chapter 7, in the program: EchelonOf and RankOf of any matrix.
-/
namespace Go.Proofs.Ytpelnfenfeoeeaa
set_option maxRecDepth 100000
open Go.RowKit
theorem iEch_no (r c : Int) (a : Option Addr) (m : Nat) (xs : List Int) (w : World) (h : Rd w a xs) (hn : xs.length ≤ 16777216) (hm : isMat r c xs = false) :
    Calls Try.prog 85 #[.agg #[.int .i64 r, .int .i64 c, .slice a xs.length m]] w (EchG w ER.no) := by
  have IM : Hid (∀ w', Below w.heap.size w w' → Calls Try.prog 58 #[.agg #[.int .i64 r, .int .i64 c, .slice a xs.length m]] w' (Gives (.bool false) w')) := fun w' hb => by
    have := iIsMat r c a m xs w' (h.below hb) hn
    rw [hm] at this
    exact this
  clear h hn hm
  generalize xs.length = L at IM ⊢
  go_enter Try.func85, Try.ntmps85
  go_upto_region 1 with fail
  have K0 : Hid (Blk3 ((w.alloc (.cells #[.int .i64 r, .int .i64 c, .slice a L m] 26)).alloc (.cells #[.int .i64 0, .int .i64 0, .slice none 0 0] 26)) w.heap.size 26 (.int .i64 r) (.int .i64 c) (.slice a L m)) := (Blk3.at_ _ _ _ _ rfl).old _
  have R0 : Hid (Blk3 ((w.alloc (.cells #[.int .i64 r, .int .i64 c, .slice a L m] 26)).alloc (.cells #[.int .i64 0, .int .i64 0, .slice none 0 0] 26)) (w.heap.size + 1) 26 (.int .i64 0) (.int .i64 0) (.slice none 0 0)) := Blk3.at_ _ _ _ _ (by simp)
  have B0 : Hid (Below w.heap.size w ((w.alloc (.cells #[.int .i64 r, .int .i64 c, .slice a L m] 26)).alloc (.cells #[.int .i64 0, .int .i64 0, .slice none 0 0] 26))) := ((Below.refl _ _).alloc (Nat.le_refl _) _).alloc (by simp) _
  have S0 : Hid (((w.alloc (.cells #[.int .i64 r, .int .i64 c, .slice a L m] 26)).alloc (.cells #[.int .i64 0, .int .i64 0, .slice none 0 0] 26)).heap.size = w.heap.size + 2) := by show _ = _; simp
  generalize (w.alloc (.cells #[.int .i64 r, .int .i64 c, .slice a L m] 26)).alloc (.cells #[.int .i64 0, .int .i64 0, .slice none 0 0] 26) = W0 at K0 R0 B0 S0 ⊢
  obtain ⟨p0, p1, p2, -, -, -⟩ := K0.out.all
  go_wp2_with fail
  refine (IM.out _ B0.out).mono ?_
  rintro e w1 ⟨rfl, hb⟩
  have s0 := S0.out
  have sb := hb.size
  have R1 := Lib.hid (R0.out.step hb)
  have B1 := Lib.hid (B0.out.trans (hb.mono (by omega)))
  clear hb K0 R0 B0 S0 p0 p1 p2
  obtain ⟨r0, r1, r2, f0, f1, f2⟩ := R1.out.all
  go_wp2_with fail
  obtain ⟨E0, E1, E2, -, -, -⟩ := (((R1.out.set0 (.int .i64 0)).set1 (.int .i64 0)).set2 (.slice none 0 0)).all
  refine bodyPost_ret (v := .tuple #[.agg #[.int .i64 0, .int .i64 0, .slice none 0 0], .slice none 0 0, .bool false]) (by simp [results, Try.results85, go_sem, E0, E1, E2]) rfl ?_
  exact ⟨_, _, rfl, .inl ⟨rfl, rfl⟩, .inl ⟨rfl, rfl⟩, fun k hk => by simp [Value.ownBlock] at hk, ((B1.out.setCell (by simp) _).setCell (by simp) _).setCell (by simp) _⟩
theorem iEchelonOf (r c : Int) (a : Option Addr) (m : Nat) (xs : List Int) (w : World) (h : Rd w a xs) (hn : xs.length ≤ 16777216) :
    Calls Try.prog 85 #[.agg #[.int .i64 r, .int .i64 c, .slice a xs.length m]] w (EchG w (echR r c xs)) := by
  rcases Bool.eq_false_or_eq_true (isMat r c xs) with hm | hm
  · obtain ⟨⟨r0, r1⟩, ⟨c0, c1⟩, hl, nx⟩ := isMat_says hm
    unfold echR
    rw [if_pos hm]
    obtain ⟨R, rfl⟩ := Int.eq_ofNat_of_zero_le r0
    obtain ⟨C, rfl⟩ := Int.eq_ofNat_of_zero_le c0
    exact (iEch R C xs.length a m xs w h rfl (by rw [← Int.natCast_mul] at hl; omega) (by omega) (by omega) nx hm).mono fun _ _ h => h.g
  · unfold echR
    rw [if_neg (by rw [hm]; decide)]
    exact iEch_no r c a m xs w h hn hm
theorem iRankOf (r c : Int) (a : Option Addr) (m : Nat) (xs : List Int) (w : World) (h : Rd w a xs) (hn : xs.length ≤ 16777216) :
    Calls Try.prog 34 #[.agg #[.int .i64 r, .int .i64 c, .slice a xs.length m]] w (Gives (.tuple #[.int .i64 ((echR r c xs).pv.length : Int), .bool (echR r c xs).ok]) w) := by
  have EC : Hid (∀ w', Below w.heap.size w w' → Calls Try.prog 85 #[.agg #[.int .i64 r, .int .i64 c, .slice a xs.length m]] w' (EchG w' (echR r c xs))) := fun w' hb => iEchelonOf r c a m xs w' (h.below hb) hn
  generalize echR r c xs = RES at EC ⊢
  clear h hn
  generalize xs.length = L at EC ⊢
  have B0 : Hid (Below w.heap.size w (w.alloc (.cells #[.int .i64 r, .int .i64 c, .slice a L m] 26))) := (Below.refl _ _).alloc (Nat.le_refl _) _
  go_enter Try.func34, Try.ntmps34
  go_wp2_with fail
  refine (EC.out _ B0.out).mono ?_
  rintro e w2 ⟨va, vb, rfl, oa, ob, hd, hb⟩
  obtain ⟨qa, ca, hva, -, -⟩ := oa.form
  obtain ⟨qb, cb, hvb, -, -⟩ := ob.form
  subst hva hvb
  have sb := hb.size
  simp at sb
  have B1 := Lib.hid (B0.out.trans (hb.mono (by simp)))
  clear hb oa ob hd
  have B2 := Lib.hid (B1.out.alloc B1.out.size (.cells #[.int .i64 RES.r, .int .i64 RES.c, .slice qa RES.zs.length ca] 26))
  go_wp2_with fail
  exact bodyPost_ret (v := .tuple #[.int .i64 (RES.pv.length : Int), .bool RES.ok]) (by simp [results, Try.results34, go_sem]) rfl ⟨rfl, B2.out⟩
end Go.Proofs.Ytpelnfenfeoeeaa
end

section
/-
  Plain mathematics of chapter 8: residues. Nothing of a program is used.
-/
namespace Go.Proofs.Ytpelnfenfeoeeaa
end Go.Proofs.Ytpelnfenfeoeeaa
end

section
/-
  Plain mathematics of chapter 8: determinants over residues. Nothing of a program is used.
-/
namespace Go.Proofs.Ytpelnfenfeoeeaa
end Go.Proofs.Ytpelnfenfeoeeaa
end

section
/-
  Plain mathematics of chapter 9: the bound of a determinant by its rows, Chinese remainders, symmetric residues. Nothing of a program is used.
-/
namespace Go.Proofs.Ytpelnfenfeoeeaa
end Go.Proofs.Ytpelnfenfeoeeaa
end

section
/-
  Plain mathematics of chapter 13: what divides all minors of one size; diagonals that divide one another. Nothing of a program is used.
-/
namespace Go.Proofs.Ytpelnfenfeoeeaa
structure SmP (r c : Nat) (D : Mx) (f : Nat → Int) : Prop where
  dia : ∀ i j, i < r → j < c → D i j = if i = j then f i else 0
  out : ∀ i, r ≤ i ∨ c ≤ i → f i = 0
  nn : ∀ i, 0 ≤ f i
  dvd : ∀ i j, i ≤ j → f i ∣ f j
end Go.Proofs.Ytpelnfenfeoeeaa
end

section
/-
  Plain mathematics of chapter 13: minors with ascending choices are enough. Nothing of a program is used.
-/
namespace Go.Proofs.Ytpelnfenfeoeeaa
end Go.Proofs.Ytpelnfenfeoeeaa
end
