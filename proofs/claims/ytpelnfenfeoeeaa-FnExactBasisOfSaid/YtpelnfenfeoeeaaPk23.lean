/-
  Texts of this seat, joined: HbI
-/
import Derived.Test.YtpelnfenfeoeeaaPk10
import Derived.Test.YtpelnfenfeoeeaaPk18
import Derived.Test.YtpelnfenfeoeeaaPk19

section
/-
  Chapter 12, in the program: BasisOf.
-/
namespace Go.Proofs.Ytpelnfenfeoeeaa
set_option maxRecDepth 100000
open Go.RowKit

theorem bas_rows {R C T : Nat} {xs : List Int} {p : Nat → Nat} (h : HerP R C (mxC C xs) p T) : T ≤ R ∧ rowsN C xs R = T ∧ (∀ i, i < T → leadC C (mxC C xs i) < C) ∧ (∀ i, T ≤ i → i < R → leadC C (mxC C xs i) = C) := by
  have h1 := rowsN_her h R (Nat.le_refl _)
  have h2 := h.le
  refine ⟨h2, by omega, fun i hi => ?_, fun i h3 h4 => h.lead_no h3 h4⟩
  rw [h.lead_at hi]
  exact h.col i hi
theorem Own.front {B n m P : Nat} {w : World} {q : Option Addr} {zs : List Int} (h : Own B w (.slice q n m) zs) (hP : P ≤ zs.length) : Own B w (.slice q P m) (zs.take P) := by
  have hl : (zs.take P).length = P := by rw [List.length_take]; omega
  rcases h with ⟨e, h0⟩ | ⟨g, c, e, hB, ⟨rest, hg⟩, h1, h2⟩
  · injection e with e1 e2 e3
    subst e1 e2 e3 h0
    have : P = 0 := by simpa using hP
    subst this
    exact .inl ⟨rfl, rfl⟩
  · injection e with e1 e2 e3
    subst e1 e2 e3
    refine .inr ⟨g, m, by rw [hl], hB, ⟨(zs.drop P).map (Value.int .i64) ++ rest, ?_⟩, by omega, by omega⟩
    rw [hg, ← List.append_assoc, ← List.map_append, List.take_append_drop]
set_option maxHeartbeats 8000000 in
theorem iBasis (r c : Int) (a : Option Addr) (m : Nat) (xs : List Int) (w : World) (h : Rd w a xs) (hn : xs.length ≤ 16777216) (ha : Spot a) :
    Calls Try.prog 32 #[.agg #[.int .i64 r, .int .i64 c, .slice a xs.length m]] w (MatRes (basR r c xs) w) := by
  have HF : Hid (∀ w', Below w.heap.size w w' → Calls Try.prog 37 #[.agg #[.int .i64 r, .int .i64 c, .slice a xs.length m]] w' (HerG w' (herR r c xs))) := fun w' hb => iHerm r c a m xs w' (h.below hb) hn ha
  cases hok : (herR r c xs).ok with
  | false =>
    have RN : Hid (basR r c xs = ⟨false, 0, 0, []⟩) := by show _ = _; unfold basR; rw [if_neg (by rw [hok]; decide)]
    generalize basR r c xs = RES at RN ⊢
    generalize herR r c xs = HH at HF hok
    generalize xs.length = L at HF ⊢
    clear h hn ha
    go_enter Try.func32, Try.ntmps32
    go_upto_region 1 with fail
    have K0 : Hid (Blk3 ((w.alloc (.cells #[.int .i64 r, .int .i64 c, .slice a L m] 26)).alloc (.cells #[.int .i64 0, .int .i64 0, .slice none 0 0] 26)) w.heap.size 26 (.int .i64 r) (.int .i64 c) (.slice a L m)) := (Blk3.at_ _ _ _ _ rfl).old _
    have R0 : Hid (Blk3 ((w.alloc (.cells #[.int .i64 r, .int .i64 c, .slice a L m] 26)).alloc (.cells #[.int .i64 0, .int .i64 0, .slice none 0 0] 26)) (w.heap.size + 1) 26 (.int .i64 0) (.int .i64 0) (.slice none 0 0)) := Blk3.at_ _ _ _ _ (by simp)
    have B0 : Hid (Below w.heap.size w ((w.alloc (.cells #[.int .i64 r, .int .i64 c, .slice a L m] 26)).alloc (.cells #[.int .i64 0, .int .i64 0, .slice none 0 0] 26))) := ((Below.refl _ _).alloc (Nat.le_refl _) _).alloc (by simp) _
    have S0 : Hid (((w.alloc (.cells #[.int .i64 r, .int .i64 c, .slice a L m] 26)).alloc (.cells #[.int .i64 0, .int .i64 0, .slice none 0 0] 26)).heap.size = w.heap.size + 2) := by show _ = _; simp
    generalize (w.alloc (.cells #[.int .i64 r, .int .i64 c, .slice a L m] 26)).alloc (.cells #[.int .i64 0, .int .i64 0, .slice none 0 0] 26) = W0 at K0 R0 B0 S0 ⊢
    obtain ⟨p0, p1, p2, -, -, -⟩ := K0.out.all
    go_wp2_with fail
    refine (HF.out _ B0.out).mono ?_
    rintro e w1 ⟨va, vb, rfl, oa, ob, -, hb⟩
    obtain ⟨qa, ca, rfl, -, -⟩ := oa.form
    obtain ⟨qb, cb, rfl, -, -⟩ := ob.form
    rw [hok]
    have R1 := Lib.hid (((R0.out.step hb).old (.cells #[.int .i64 HH.r1, .int .i64 HH.c1, .slice qa HH.zs.length ca] 26)).old (.cells #[.int .i64 HH.r2, .int .i64 HH.c2, .slice qb HH.us.length cb] 26))
    have B1 := Lib.hid (((B0.out.trans (hb.mono (by have := S0.out; omega))).alloc (by have := S0.out; have := hb.size; omega) (.cells #[.int .i64 HH.r1, .int .i64 HH.c1, .slice qa HH.zs.length ca] 26)).alloc (by have := S0.out; have := hb.size; simp; omega) (.cells #[.int .i64 HH.r2, .int .i64 HH.c2, .slice qb HH.us.length cb] 26))
    clear hb oa ob p0 p1 p2 K0 R0 B0
    go_upto_region 2 with fail
    generalize (w1.alloc (.cells #[.int .i64 HH.r1, .int .i64 HH.c1, .slice qa HH.zs.length ca] 26)).alloc (.cells #[.int .i64 HH.r2, .int .i64 HH.c2, .slice qb HH.us.length cb] 26) = W1 at R1 B1 ⊢
    obtain ⟨r0, r1, r2, f0, f1, f2⟩ := R1.out.all
    go_wp2_with fail
    obtain ⟨E0, E1, E2, -, -, -⟩ := (((R1.out.set0 (.int .i64 0)).set1 (.int .i64 0)).set2 (.slice none 0 0)).all
    refine bodyPost_ret (v := .tuple #[.agg #[.int .i64 0, .int .i64 0, .slice none 0 0], .bool false]) (by simp [results, Try.results32, go_sem, E0, E1, E2]) rfl ?_
    rw [RN.out]
    exact ⟨_, rfl, .inl ⟨rfl, rfl⟩, ((B1.out.setCell (by show w.heap.size ≤ w.heap.size + 1; omega) _).setCell (by show w.heap.size ≤ w.heap.size + 1; omega) _).setCell (by show w.heap.size ≤ w.heap.size + 1; omega) _⟩
  | true =>
    obtain ⟨R, C, s, rfl, rfl, R24, C24, ex, eh, SZ⟩ := herR_ok hok
    have hm : isMat R C xs = true := by
      cases hm : isMat (R : Int) C xs with
      | true => rfl
      | false => unfold herR at hok; rw [if_neg (by rw [hm]; decide)] at hok; cases hok
    obtain ⟨-, -, hl, nx⟩ := isMat_says hm
    have hl : xs.length = R * C := by rw [← Int.natCast_mul] at hl; omega
    obtain ⟨p, T, hP⟩ := (herX_says hl nx ex).2
    obtain ⟨tR, tN, tL, tZ⟩ := bas_rows hP
    have RY : Hid (basR R C xs = ⟨true, T, C, s.1.take (T * C)⟩) := by show _ = _; unfold basR; rw [if_pos hok, eh]; show (⟨true, ((rowsN C s.1 R : Nat) : Int), C, s.1.take (rowsN C s.1 R * C)⟩ : MR) = _; rw [tN]
    have hbd : R * C ≤ 24 * 24 := Nat.mul_le_mul R24 C24
    have hTC : T * C ≤ R * C := Nat.mul_le_mul_right C tR
    have RW : Hid (∀ i (q : Option Addr) (m' : Nat) w', i < R → CelA q (R * C) m' → Calls Try.prog 83 #[.agg #[.int .i64 R, .int .i64 C, .slice q (R * C) m'], .int .i64 i] w' (RowAt q (i * C) C w')) := fun i q m' w' hi hq => iRowIn R C i (i * C) (R * C) m' q w' hq.spot rfl (by rw [← Nat.succ_mul]; exact Nat.mul_le_mul_right _ hi) hq.le hq.nil (by omega) (by omega)
    have RD : Hid (∀ i (q q' : Option Addr) w', i < R → Rd w' q s.1 → (∀ g o : Nat, q = some ⟨g, o, none⟩ → 0 < C → q' = some ⟨g, o + i * C, none⟩) → Rd w' q' (rwL C (mxC C s.1 i))) := fun i q q' w' hi h' hq => h'.row SZ.l1 hi hq
    have LDC : Hid (∀ i q' m' w', Rd w' q' (rwL C (mxC C s.1 i)) → Calls Try.prog 82 #[.slice q' C m'] w' (Gives (.int .i64 (leadC C (mxC C s.1 i) : Int)) w')) := fun i q' m' w' h1 => by
      refine (iLead C m' q' _ w' h1 C24).mono ?_
      rintro e w2 ⟨rfl, rfl⟩
      exact ⟨rfl, Below.refl _ _⟩
    have L1 := Lib.hid SZ.l1
    have LT := Lib.hid tL
    have LZ := Lib.hid tZ
    rw [eh] at HF
    rw [RY.out]
    have v1 : IntKind.i64.wrap ((T : Int) * (C : Int)) = ((T * C : Nat) : Int) := by rw [← Int.natCast_mul]; exact IntWalk.i64_in _ (by omega)
    obtain ⟨P, hP9⟩ : ∃ P, T * C = P := ⟨_, rfl⟩
    rw [hP9] at hTC v1 ⊢
    obtain ⟨N, hN9⟩ : ∃ N, R * C = N := ⟨_, rfl⟩
    rw [hN9] at RW L1 hTC hbd
    generalize xs.length = L at HF ⊢
    clear h hn ha hok eh SZ RY hP9 hN9 hm hl nx hP tN tL tZ ex
    go_enter Try.func32, Try.ntmps32
    go_upto_region 1 with fail
    have K0 : Hid (Blk3 ((w.alloc (.cells #[.int .i64 R, .int .i64 C, .slice a L m] 26)).alloc (.cells #[.int .i64 0, .int .i64 0, .slice none 0 0] 26)) w.heap.size 26 (.int .i64 R) (.int .i64 C) (.slice a L m)) := (Blk3.at_ _ _ _ _ rfl).old _
    have R0 : Hid (Blk3 ((w.alloc (.cells #[.int .i64 R, .int .i64 C, .slice a L m] 26)).alloc (.cells #[.int .i64 0, .int .i64 0, .slice none 0 0] 26)) (w.heap.size + 1) 26 (.int .i64 0) (.int .i64 0) (.slice none 0 0)) := Blk3.at_ _ _ _ _ (by simp)
    have B0 : Hid (Below w.heap.size w ((w.alloc (.cells #[.int .i64 R, .int .i64 C, .slice a L m] 26)).alloc (.cells #[.int .i64 0, .int .i64 0, .slice none 0 0] 26))) := ((Below.refl _ _).alloc (Nat.le_refl _) _).alloc (by simp) _
    have S0 : Hid (((w.alloc (.cells #[.int .i64 R, .int .i64 C, .slice a L m] 26)).alloc (.cells #[.int .i64 0, .int .i64 0, .slice none 0 0] 26)).heap.size = w.heap.size + 2) := by show _ = _; simp
    generalize (w.alloc (.cells #[.int .i64 R, .int .i64 C, .slice a L m] 26)).alloc (.cells #[.int .i64 0, .int .i64 0, .slice none 0 0] 26) = W0 at K0 R0 B0 S0 ⊢
    obtain ⟨p0, p1, p2, -, -, -⟩ := K0.out.all
    go_wp2_with fail
    refine (HF.out _ B0.out).mono ?_
    rintro e w1 ⟨va, vb, rfl, oa, ob, -, hb⟩
    dsimp only at oa ob ⊢
    obtain ⟨qa, ca, rfl, -, -⟩ := oa.form
    obtain ⟨qb, cb, rfl, -, -⟩ := ob.form
    rw [L1.out] at oa ⊢
    have R1 := Lib.hid (((R0.out.step hb).old (.cells #[.int .i64 R, .int .i64 C, .slice qa N ca] 26)).old (.cells #[.int .i64 R, .int .i64 R, .slice qb s.2.length cb] 26))
    have A1 : Hid (Blk3 ((w1.alloc (.cells #[.int .i64 R, .int .i64 C, .slice qa N ca] 26)).alloc (.cells #[.int .i64 R, .int .i64 R, .slice qb s.2.length cb] 26)) w1.heap.size 26 (.int .i64 R) (.int .i64 C) (.slice qa N ca)) := (Blk3.at_ _ _ _ _ rfl).old _
    have nb : Below w1.heap.size w1 ((w1.alloc (.cells #[.int .i64 R, .int .i64 C, .slice qa N ca] 26)).alloc (.cells #[.int .i64 R, .int .i64 R, .slice qb s.2.length cb] 26)) := ((Below.refl _ _).alloc (Nat.le_refl _) _).alloc (by simp) _
    have O1 := Lib.hid ((oa.keep nb).le (show w.heap.size ≤ _ by have := S0.out; omega))
    have B1 := Lib.hid ((B0.out.trans (hb.mono (by have := S0.out; omega))).trans (nb.mono (by have := S0.out; have := hb.size; omega)))
    have n1 : Hid (w.heap.size + 1 < w1.heap.size) := by show _ < _; have := S0.out; have := hb.size; omega
    clear hb oa ob p0 p1 p2 K0 R0 B0 S0 HF
    go_upto_region 2 with fail
    generalize (w1.alloc (.cells #[.int .i64 R, .int .i64 C, .slice qa N ca] 26)).alloc (.cells #[.int .i64 R, .int .i64 R, .slice qb s.2.length cb] 26) = W1 at R1 A1 O1 B1 nb ⊢
    clear nb
    obtain ⟨bf, hbf⟩ : ∃ b, w1.heap.size = b := ⟨_, rfl⟩
    rw [hbf] at A1 n1 ⊢
    clear hbf
    have CQ := Lib.hid O1.out.celA
    go_wp2_with fail
    go_loopw [7] (fun v7 wq => ∃ k : Nat, v7 = .int .i64 k ∧ k ≤ T ∧ Blk3 wq (w.heap.size + 1) 26 (.int .i64 0) (.int .i64 0) (.slice none 0 0) ∧ Blk3 wq bf 26 (.int .i64 R) (.int .i64 C) (.slice qa N ca) ∧ Own w.heap.size wq (.slice qa N ca) s.1 ∧ Below w.heap.size w wq) (fun v7 _ => T - (intOf v7).toNat)
    case atStart => exact ⟨0, rfl, Nat.zero_le _, R1.out, A1.out, O1.out, B1.out⟩
    case round =>
      clear R1 A1 O1 B1
      obtain ⟨k, rfl, hk, hr, ha, ho, hb⟩ := hrel
      have RR := Lib.hid hr
      have AA := Lib.hid ha
      have OO := Lib.hid ho
      have BB := Lib.hid hb
      clear hr ha ho hb
      by_cases hkR : k < R
      · have b3 : (k : Int) < (R : Int) := by omega
        have RW1 : Hid (∀ w', Calls Try.prog 83 #[.agg #[.int .i64 R, .int .i64 C, .slice qa N ca], .int .i64 k] w' (RowAt qa (k * C) C w')) := fun w' => RW.out k qa ca w' hkR CQ.out
        have LC1 : Hid (leadC C (mxC C s.1 k) ≤ C) := (leadC_says C (mxC C s.1 k)).1
        have LT1 := Lib.hid (LT.out k)
        have LZ1 := Lib.hid (fun h9 => LZ.out k h9 hkR)
        have LD1 := Lib.hid (LDC.out k)
        obtain ⟨ld, hld⟩ : ∃ ld, leadC C (mxC C s.1 k) = ld := ⟨_, rfl⟩
        rw [hld] at LC1 LT1 LZ1 LD1
        clear hld
        by_cases hlc : ld < C
        · have b4 : (ld : Int) < (C : Int) := by omega
          have hkT : k < T := Classical.byContradiction fun h9 => by have := LZ1.out (by omega); omega
          go_wp2_with fail
          refine wp_region_held_drew (S := fun w' => Below wr.heap.size wr w') (by kernel_rfl) (Below.refl _ _).drew (fun hH => ?_)
          refine wpAnyH_take (i := 0) (v := ?_) (by simp only [List.getElem?_toArray, List.getElem?_cons_zero]; rfl) (by kernel_rfl) (by kernel_rfl) (by kernel_rfl) (by exact fun _ _ _ h => h) (Or.inl ⟨by rfl, ?_⟩) hH ?_
          rotate_left
          · (intro wS hS; clear hS; go_simp; try rfl)
          try simp only [Act.put, List.setIfInBounds_toArray, List.set_cons_zero, List.set_cons_succ]
          refine wpAnyH_take (i := 1) (v := ?_) (by simp only [List.getElem?_toArray, List.getElem?_cons_succ, List.getElem?_cons_zero]; rfl) (by kernel_rfl) (by kernel_rfl) (by kernel_rfl) (by exact fun _ _ _ h => h) (Or.inl ⟨by rfl, ?_⟩) hH ?_
          rotate_left
          · (intro wS hS; clear hS; go_simp; try rfl)
          try simp only [Act.put, List.setIfInBounds_toArray, List.set_cons_zero, List.set_cons_succ]
          refine wpAnyH_take (i := 2) (v := ?_) (by simp only [List.getElem?_toArray, List.getElem?_cons_succ, List.getElem?_cons_zero]; rfl) (by kernel_rfl) (by kernel_rfl) (by kernel_rfl) (by exact fun _ _ _ h => h) (Or.inl ⟨by rfl, ?_⟩) hH ?_
          rotate_left
          · (intro wS hS; (try dsimp only at hS); obtain ⟨k1, k2, k3⟩ := leF AA.out hS; go_simp; try rfl)
          try simp only [Act.put, List.setIfInBounds_toArray, List.set_cons_zero, List.set_cons_succ]
          refine wpAnyH_take (i := 3) (v := ?_) (by simp only [List.getElem?_toArray, List.getElem?_cons_succ, List.getElem?_cons_zero]; rfl) (by kernel_rfl) (by kernel_rfl) (by kernel_rfl) (by exact fun _ _ _ h => h) (Or.inl ⟨by rfl, ?_⟩) hH ?_
          rotate_left
          · (intro wS hS; clear hS; go_simp; try rfl)
          try simp only [Act.put, List.setIfInBounds_toArray, List.set_cons_zero, List.set_cons_succ]
          refine wpAnyH_take (i := 4) (v := ?_) (by simp only [List.getElem?_toArray, List.getElem?_cons_succ, List.getElem?_cons_zero]; rfl) (by kernel_rfl) (by kernel_rfl) (by kernel_rfl) (by exact fun _ _ _ h => h) (Or.inl ⟨by rfl, ?_⟩) hH ?_
          rotate_left
          · (intro wS hS; clear hS; go_simp; try rfl)
          try simp only [Act.put, List.setIfInBounds_toArray, List.set_cons_zero, List.set_cons_succ]
          refine wpAnyH_take (i := 5) (v := ?_) (by simp only [List.getElem?_toArray, List.getElem?_cons_succ, List.getElem?_cons_zero]; rfl) (by kernel_rfl) (by kernel_rfl) (by kernel_rfl) (by exact fun _ _ _ h => h) (Or.inl ⟨by rfl, ?_⟩) hH ?_
          rotate_left
          · (intro wS hS; (try dsimp only at hS); obtain ⟨k1, k2, k3⟩ := leF AA.out hS; go_simp; try rfl)
          try simp only [Act.put, List.setIfInBounds_toArray, List.set_cons_zero, List.set_cons_succ]
          refine wpAnyH_take (i := 6) (v := ?_) (by simp only [List.getElem?_toArray, List.getElem?_cons_succ, List.getElem?_cons_zero]; rfl) (by kernel_rfl) (by kernel_rfl) (by kernel_rfl) (by exact fun _ _ _ h => h) (Or.inl ⟨by rfl, ?_⟩) hH ?_
          rotate_left
          · (intro wS hS; clear hS; go_simp; try rfl)
          try simp only [Act.put, List.setIfInBounds_toArray, List.set_cons_zero, List.set_cons_succ]
          refine wpAnyH_take (i := 9) (v := ?_) (by simp only [List.getElem?_toArray, List.getElem?_cons_succ, List.getElem?_cons_zero]; rfl) (by kernel_rfl) (by kernel_rfl) (by kernel_rfl) (by exact fun _ _ _ h => h) (Or.inl ⟨by rfl, ?_⟩) hH ?_
          rotate_left
          · (intro wS hS; clear hS; go_simp; try rfl)
          try simp only [Act.put, List.setIfInBounds_toArray, List.set_cons_zero, List.set_cons_succ]
          refine wpAnyH_take (i := 10) (v := ?_) (by simp only [List.getElem?_toArray, List.getElem?_cons_succ, List.getElem?_cons_zero]; rfl) (by kernel_rfl) (by kernel_rfl) (by kernel_rfl) (by exact fun _ _ _ h => h) (Or.inl ⟨by rfl, ?_⟩) hH ?_
          rotate_left
          · (intro wS hS; (try dsimp only at hS); obtain ⟨k1, k2, k3⟩ := leF AA.out hS; go_simp; try rfl)
          try simp only [Act.put, List.setIfInBounds_toArray, List.set_cons_zero, List.set_cons_succ]
          refine wpAnyH_ready (rs := [7]) (by kernel_rfl) (by simp) ?_
          refine AllReadyH.cons (by simp only [List.getElem?_toArray, List.getElem?_cons_succ, List.getElem?_cons_zero]; rfl) (fun K hK => ?_) AllReadyH.nil
          go_simp
          (with_reducible refine (RW1.out _).mono ?_)
          rintro e v1 ⟨q1, m1, rfl, -, hq1, -, hb1⟩
          try dsimp only
          refine hK.out _ _ ?_ (fun hH2 => ?_)
          · exact hH.trans (hb1.mono hH.size)
          clear hK K hH
          have hH := hH2
          clear hH2
          try simp only [Act.put, List.setIfInBounds_toArray, List.set_cons_zero, List.set_cons_succ]
          refine wpAnyH_ready (rs := [8]) (by kernel_rfl) (by simp) ?_
          refine AllReadyH.cons (by simp only [List.getElem?_toArray, List.getElem?_cons_succ, List.getElem?_cons_zero]; rfl) (fun K hK => ?_) AllReadyH.nil
          go_simp
          (with_reducible refine (LD1.out q1 m1 _ (RD.out k qa q1 _ hkR (Own.rd2 (OO.out.keep hH)) hq1)).mono ?_)
          rintro e v2 ⟨rfl, hb2⟩
          try dsimp only
          refine hK.out _ _ ?_ (fun hH2 => ?_)
          · exact hH.trans (hb2.mono hH.size)
          clear hK K hH
          have hH := hH2
          clear hH2
          try simp only [Act.put, List.setIfInBounds_toArray, List.set_cons_zero, List.set_cons_succ]
          refine wpAnyH_take (i := 11) (v := ?_) (by simp only [List.getElem?_toArray, List.getElem?_cons_succ, List.getElem?_cons_zero]; rfl) (by kernel_rfl) (by kernel_rfl) (by kernel_rfl) (by exact fun _ _ _ h => h) (Or.inl ⟨by rfl, ?_⟩) hH ?_
          rotate_left
          · (intro wS hS; clear hS; go_simp; try rfl)
          try simp only [Act.put, List.setIfInBounds_toArray, List.set_cons_zero, List.set_cons_succ]
          refine wpAnyH_take (i := 12) (v := ?_) (by simp only [List.getElem?_toArray, List.getElem?_cons_succ, List.getElem?_cons_zero]; rfl) (by kernel_rfl) (by kernel_rfl) (by kernel_rfl) (by exact fun _ _ _ h => h) (Or.inl ⟨by rfl, ?_⟩) hH ?_
          rotate_left
          · (intro wS hS; clear hS; go_simp; try rfl)
          try simp only [Act.put, List.setIfInBounds_toArray, List.set_cons_zero, List.set_cons_succ]
          refine wpAnyH_done (by kernel_rfl) ?_ _
          have RR := Lib.hid (RR.out.step hH)
          have AA := Lib.hid (AA.out.step hH)
          have OO := Lib.hid (OO.out.keep hH)
          have BB := Lib.hid (BB.out.trans (hH.mono BB.out.size))
          go_wp2_with fail
          go_roundw
          case rel => exact ⟨k + 1, by go_num, by omega, RR.out, AA.out, OO.out, BB.out⟩
          case measure => simp [intOf]; omega
        · have b4 : decide ((ld : Int) < (C : Int)) = false := decide_eq_false (by omega)
          have hkT : Hid (k = T) := by
            refine Lib.hid ?_
            rcases Nat.lt_or_ge k T with h9 | h9
            · exact absurd (LT1.out h9) hlc
            · omega
          go_wp2_with fail
          refine wp_region_held_drew (S := fun w' => Below wr.heap.size wr w') (by kernel_rfl) (Below.refl _ _).drew (fun hH => ?_)
          refine wpAnyH_take (i := 0) (v := ?_) (by simp only [List.getElem?_toArray, List.getElem?_cons_zero]; rfl) (by kernel_rfl) (by kernel_rfl) (by kernel_rfl) (by exact fun _ _ _ h => h) (Or.inl ⟨by rfl, ?_⟩) hH ?_
          rotate_left
          · (intro wS hS; clear hS; go_simp; try rfl)
          try simp only [Act.put, List.setIfInBounds_toArray, List.set_cons_zero, List.set_cons_succ]
          refine wpAnyH_take (i := 1) (v := ?_) (by simp only [List.getElem?_toArray, List.getElem?_cons_succ, List.getElem?_cons_zero]; rfl) (by kernel_rfl) (by kernel_rfl) (by kernel_rfl) (by exact fun _ _ _ h => h) (Or.inl ⟨by rfl, ?_⟩) hH ?_
          rotate_left
          · (intro wS hS; clear hS; go_simp; try rfl)
          try simp only [Act.put, List.setIfInBounds_toArray, List.set_cons_zero, List.set_cons_succ]
          refine wpAnyH_take (i := 2) (v := ?_) (by simp only [List.getElem?_toArray, List.getElem?_cons_succ, List.getElem?_cons_zero]; rfl) (by kernel_rfl) (by kernel_rfl) (by kernel_rfl) (by exact fun _ _ _ h => h) (Or.inl ⟨by rfl, ?_⟩) hH ?_
          rotate_left
          · (intro wS hS; (try dsimp only at hS); obtain ⟨k1, k2, k3⟩ := leF AA.out hS; go_simp; try rfl)
          try simp only [Act.put, List.setIfInBounds_toArray, List.set_cons_zero, List.set_cons_succ]
          refine wpAnyH_take (i := 3) (v := ?_) (by simp only [List.getElem?_toArray, List.getElem?_cons_succ, List.getElem?_cons_zero]; rfl) (by kernel_rfl) (by kernel_rfl) (by kernel_rfl) (by exact fun _ _ _ h => h) (Or.inl ⟨by rfl, ?_⟩) hH ?_
          rotate_left
          · (intro wS hS; clear hS; go_simp; try rfl)
          try simp only [Act.put, List.setIfInBounds_toArray, List.set_cons_zero, List.set_cons_succ]
          refine wpAnyH_take (i := 4) (v := ?_) (by simp only [List.getElem?_toArray, List.getElem?_cons_succ, List.getElem?_cons_zero]; rfl) (by kernel_rfl) (by kernel_rfl) (by kernel_rfl) (by exact fun _ _ _ h => h) (Or.inl ⟨by rfl, ?_⟩) hH ?_
          rotate_left
          · (intro wS hS; clear hS; go_simp; try rfl)
          try simp only [Act.put, List.setIfInBounds_toArray, List.set_cons_zero, List.set_cons_succ]
          refine wpAnyH_take (i := 5) (v := ?_) (by simp only [List.getElem?_toArray, List.getElem?_cons_succ, List.getElem?_cons_zero]; rfl) (by kernel_rfl) (by kernel_rfl) (by kernel_rfl) (by exact fun _ _ _ h => h) (Or.inl ⟨by rfl, ?_⟩) hH ?_
          rotate_left
          · (intro wS hS; (try dsimp only at hS); obtain ⟨k1, k2, k3⟩ := leF AA.out hS; go_simp; try rfl)
          try simp only [Act.put, List.setIfInBounds_toArray, List.set_cons_zero, List.set_cons_succ]
          refine wpAnyH_take (i := 6) (v := ?_) (by simp only [List.getElem?_toArray, List.getElem?_cons_succ, List.getElem?_cons_zero]; rfl) (by kernel_rfl) (by kernel_rfl) (by kernel_rfl) (by exact fun _ _ _ h => h) (Or.inl ⟨by rfl, ?_⟩) hH ?_
          rotate_left
          · (intro wS hS; clear hS; go_simp; try rfl)
          try simp only [Act.put, List.setIfInBounds_toArray, List.set_cons_zero, List.set_cons_succ]
          refine wpAnyH_take (i := 9) (v := ?_) (by simp only [List.getElem?_toArray, List.getElem?_cons_succ, List.getElem?_cons_zero]; rfl) (by kernel_rfl) (by kernel_rfl) (by kernel_rfl) (by exact fun _ _ _ h => h) (Or.inl ⟨by rfl, ?_⟩) hH ?_
          rotate_left
          · (intro wS hS; clear hS; go_simp; try rfl)
          try simp only [Act.put, List.setIfInBounds_toArray, List.set_cons_zero, List.set_cons_succ]
          refine wpAnyH_take (i := 10) (v := ?_) (by simp only [List.getElem?_toArray, List.getElem?_cons_succ, List.getElem?_cons_zero]; rfl) (by kernel_rfl) (by kernel_rfl) (by kernel_rfl) (by exact fun _ _ _ h => h) (Or.inl ⟨by rfl, ?_⟩) hH ?_
          rotate_left
          · (intro wS hS; (try dsimp only at hS); obtain ⟨k1, k2, k3⟩ := leF AA.out hS; go_simp; try rfl)
          try simp only [Act.put, List.setIfInBounds_toArray, List.set_cons_zero, List.set_cons_succ]
          refine wpAnyH_ready (rs := [7]) (by kernel_rfl) (by simp) ?_
          refine AllReadyH.cons (by simp only [List.getElem?_toArray, List.getElem?_cons_succ, List.getElem?_cons_zero]; rfl) (fun K hK => ?_) AllReadyH.nil
          go_simp
          (with_reducible refine (RW1.out _).mono ?_)
          rintro e v1 ⟨q1, m1, rfl, -, hq1, -, hb1⟩
          try dsimp only
          refine hK.out _ _ ?_ (fun hH2 => ?_)
          · exact hH.trans (hb1.mono hH.size)
          clear hK K hH
          have hH := hH2
          clear hH2
          try simp only [Act.put, List.setIfInBounds_toArray, List.set_cons_zero, List.set_cons_succ]
          refine wpAnyH_ready (rs := [8]) (by kernel_rfl) (by simp) ?_
          refine AllReadyH.cons (by simp only [List.getElem?_toArray, List.getElem?_cons_succ, List.getElem?_cons_zero]; rfl) (fun K hK => ?_) AllReadyH.nil
          go_simp
          (with_reducible refine (LD1.out q1 m1 _ (RD.out k qa q1 _ hkR (Own.rd2 (OO.out.keep hH)) hq1)).mono ?_)
          rintro e v2 ⟨rfl, hb2⟩
          try dsimp only
          refine hK.out _ _ ?_ (fun hH2 => ?_)
          · exact hH.trans (hb2.mono hH.size)
          clear hK K hH
          have hH := hH2
          clear hH2
          try simp only [Act.put, List.setIfInBounds_toArray, List.set_cons_zero, List.set_cons_succ]
          refine wpAnyH_take (i := 11) (v := ?_) (by simp only [List.getElem?_toArray, List.getElem?_cons_succ, List.getElem?_cons_zero]; rfl) (by kernel_rfl) (by kernel_rfl) (by kernel_rfl) (by exact fun _ _ _ h => h) (Or.inl ⟨by rfl, ?_⟩) hH ?_
          rotate_left
          · (intro wS hS; clear hS; go_simp; try rfl)
          try simp only [Act.put, List.setIfInBounds_toArray, List.set_cons_zero, List.set_cons_succ]
          refine wpAnyH_take (i := 12) (v := ?_) (by simp only [List.getElem?_toArray, List.getElem?_cons_succ, List.getElem?_cons_zero]; rfl) (by kernel_rfl) (by kernel_rfl) (by kernel_rfl) (by exact fun _ _ _ h => h) (Or.inl ⟨by rfl, ?_⟩) hH ?_
          rotate_left
          · (intro wS hS; clear hS; go_simp; try rfl)
          try simp only [Act.put, List.setIfInBounds_toArray, List.set_cons_zero, List.set_cons_succ]
          refine wpAnyH_done (by kernel_rfl) ?_ _
          have RR := Lib.hid (RR.out.step hH)
          have AA := Lib.hid (AA.out.step hH)
          have OO := Lib.hid (OO.out.keep hH)
          have BB := Lib.hid (BB.out.trans (hH.mono BB.out.size))
          obtain rfl := hkT.out
          clear hH hkT
          go_wp2_with fail
          obtain ⟨b0, b1, b2, -, -, -⟩ := AA.out.all
          obtain ⟨r0, r1, r2, f0, f1, f2⟩ := RR.out.all
          have OF := Lib.hid (OO.out.front (P := P) (by rw [L1.out]; exact hTC))
          have hca : N ≤ ca := CQ.out.le
          have nca := CQ.out.nil
          have spo := CQ.out.spot
          have c1 : (0 : Int) ≤ (P : Int) := by omega
          have c2 : (P : Int) ≤ (ca : Int) := by omega
          clear CQ OO AA RD LDC RW LT LZ
          rcases spo with rfl | ⟨g, o, rfl⟩
          · obtain rfl : ca = 0 := nca rfl
            obtain rfl : P = 0 := by omega
            go_region
            go_wp2_with fail
            obtain ⟨E0, E1, E2, -, -, -⟩ := (((RR.out.set0 (.int .i64 k)).set1 (.int .i64 C)).set2 (.slice none 0 0)).all
            have OG := (OF.out.setA (b := w.heap.size + 1) (OF.out.ne_box RR.out) (.int .i64 k) (.int .i64 C) (.slice none 0 0))
            refine bodyPost_ret (v := .tuple #[.agg #[.int .i64 k, .int .i64 C, .slice none 0 0], .bool true]) (by simp [results, Try.results32, go_sem, E0, E1, E2]) rfl ?_
            exact ⟨_, rfl, OG.moveA fun _ _ => rfl, below_drewN (((BB.out.setCell (p := ⟨w.heap.size + 1, 0, none⟩) (by show w.heap.size ≤ w.heap.size + 1; omega) _).setCell (p := ⟨w.heap.size + 1, 1, none⟩) (by show w.heap.size ≤ w.heap.size + 1; omega) _).setCell (p := ⟨w.heap.size + 1, 2, none⟩) (by show w.heap.size ≤ w.heap.size + 1; omega) _) 1⟩
          · by_cases hc0 : ca = 0
            · subst hc0
              obtain rfl : P = 0 := by omega
              go_region
              go_wp2_with fail
              obtain ⟨E0, E1, E2, -, -, -⟩ := (((RR.out.set0 (.int .i64 k)).set1 (.int .i64 C)).set2 (.slice (some ⟨g, o, none⟩) 0 0)).all
              have OG := (OF.out.setA (b := w.heap.size + 1) (OF.out.ne_box RR.out) (.int .i64 k) (.int .i64 C) (.slice (some ⟨g, o, none⟩) 0 0))
              refine bodyPost_ret (v := .tuple #[.agg #[.int .i64 k, .int .i64 C, .slice (some ⟨g, o, none⟩) 0 0], .bool true]) (by simp [results, Try.results32, go_sem, E0, E1, E2]) rfl ?_
              exact ⟨_, rfl, OG.moveA fun _ _ => rfl, below_drewN (((BB.out.setCell (p := ⟨w.heap.size + 1, 0, none⟩) (by show w.heap.size ≤ w.heap.size + 1; omega) _).setCell (p := ⟨w.heap.size + 1, 1, none⟩) (by show w.heap.size ≤ w.heap.size + 1; omega) _).setCell (p := ⟨w.heap.size + 1, 2, none⟩) (by show w.heap.size ≤ w.heap.size + 1; omega) _) 1⟩
            · go_region
              go_wp2_with fail
              obtain ⟨E0, E1, E2, -, -, -⟩ := (((RR.out.set0 (.int .i64 k)).set1 (.int .i64 C)).set2 (.slice (some ⟨g, o, none⟩) P ca)).all
              have OG := (OF.out.setA (b := w.heap.size + 1) (OF.out.ne_box RR.out) (.int .i64 k) (.int .i64 C) (.slice (some ⟨g, o, none⟩) P ca))
              refine bodyPost_ret (v := .tuple #[.agg #[.int .i64 k, .int .i64 C, .slice (some ⟨g, o, none⟩) P ca], .bool true]) (by simp [results, Try.results32, go_sem, E0, E1, E2]) rfl ?_
              exact ⟨_, rfl, OG.moveA fun _ _ => rfl, below_drewN (((BB.out.setCell (p := ⟨w.heap.size + 1, 0, none⟩) (by show w.heap.size ≤ w.heap.size + 1; omega) _).setCell (p := ⟨w.heap.size + 1, 1, none⟩) (by show w.heap.size ≤ w.heap.size + 1; omega) _).setCell (p := ⟨w.heap.size + 1, 2, none⟩) (by show w.heap.size ≤ w.heap.size + 1; omega) _) 1⟩
      · have b3 : decide ((k : Int) < (R : Int)) = false := decide_eq_false (by omega)
        have hkT : Hid (k = T) := by show _ = _; omega
        go_wp2_with fail
        refine wp_region_held_drew (S := fun w' => Below wr.heap.size wr w') (by kernel_rfl) (Below.refl _ _).drew (fun hH => ?_)
        refine wpAnyH_take (i := 0) (v := ?_) (by simp only [List.getElem?_toArray, List.getElem?_cons_zero]; rfl) (by kernel_rfl) (by kernel_rfl) (by kernel_rfl) (by exact fun _ _ _ h => h) (Or.inl ⟨by rfl, ?_⟩) hH ?_
        rotate_left
        · (intro wS hS; clear hS; go_simp; try rfl)
        try simp only [Act.put, List.setIfInBounds_toArray, List.set_cons_zero, List.set_cons_succ]
        refine wpAnyH_take (i := 1) (v := ?_) (by simp only [List.getElem?_toArray, List.getElem?_cons_succ, List.getElem?_cons_zero]; rfl) (by kernel_rfl) (by kernel_rfl) (by kernel_rfl) (by exact fun _ _ _ h => h) (Or.inl ⟨by rfl, ?_⟩) hH ?_
        rotate_left
        · (intro wS hS; clear hS; go_simp; try rfl)
        try simp only [Act.put, List.setIfInBounds_toArray, List.set_cons_zero, List.set_cons_succ]
        refine wpAnyH_take (i := 2) (v := ?_) (by simp only [List.getElem?_toArray, List.getElem?_cons_succ, List.getElem?_cons_zero]; rfl) (by kernel_rfl) (by kernel_rfl) (by kernel_rfl) (by exact fun _ _ _ h => h) (Or.inl ⟨by rfl, ?_⟩) hH ?_
        rotate_left
        · (intro wS hS; (try dsimp only at hS); obtain ⟨k1, k2, k3⟩ := leF AA.out hS; go_simp; try rfl)
        try simp only [Act.put, List.setIfInBounds_toArray, List.set_cons_zero, List.set_cons_succ]
        refine wpAnyH_take (i := 3) (v := ?_) (by simp only [List.getElem?_toArray, List.getElem?_cons_succ, List.getElem?_cons_zero]; rfl) (by kernel_rfl) (by kernel_rfl) (by kernel_rfl) (by exact fun _ _ _ h => h) (Or.inl ⟨by rfl, ?_⟩) hH ?_
        rotate_left
        · (intro wS hS; clear hS; go_simp; try rfl)
        try simp only [Act.put, List.setIfInBounds_toArray, List.set_cons_zero, List.set_cons_succ]
        refine wpAnyH_take (i := 4) (v := ?_) (by simp only [List.getElem?_toArray, List.getElem?_cons_succ, List.getElem?_cons_zero]; rfl) (by kernel_rfl) (by kernel_rfl) (by kernel_rfl) (by exact fun _ _ _ h => h) (Or.inl ⟨by rfl, ?_⟩) hH ?_
        rotate_left
        · (intro wS hS; clear hS; go_simp; try rfl)
        try simp only [Act.put, List.setIfInBounds_toArray, List.set_cons_zero, List.set_cons_succ]
        refine wpAnyH_take (i := 5) (v := undef) (by simp only [List.getElem?_toArray, List.getElem?_cons_succ, List.getElem?_cons_zero]; rfl) (by kernel_rfl) (by kernel_rfl) (by kernel_rfl) (by exact fun _ _ _ h => h) (Or.inr ⟨by rfl, rfl⟩) hH ?_
        try simp only [Act.put, List.setIfInBounds_toArray, List.set_cons_zero, List.set_cons_succ]
        refine wpAnyH_take (i := 6) (v := undef) (by simp only [List.getElem?_toArray, List.getElem?_cons_succ, List.getElem?_cons_zero]; rfl) (by kernel_rfl) (by kernel_rfl) (by kernel_rfl) (by exact fun _ _ _ h => h) (Or.inr ⟨by rfl, rfl⟩) hH ?_
        try simp only [Act.put, List.setIfInBounds_toArray, List.set_cons_zero, List.set_cons_succ]
        refine wpAnyH_take (i := 7) (v := undef) (by simp only [List.getElem?_toArray, List.getElem?_cons_succ, List.getElem?_cons_zero]; rfl) (by kernel_rfl) (by kernel_rfl) (by kernel_rfl) (by exact fun _ _ _ h => h) (Or.inr ⟨by rfl, rfl⟩) hH ?_
        try simp only [Act.put, List.setIfInBounds_toArray, List.set_cons_zero, List.set_cons_succ]
        refine wpAnyH_take (i := 8) (v := undef) (by simp only [List.getElem?_toArray, List.getElem?_cons_succ, List.getElem?_cons_zero]; rfl) (by kernel_rfl) (by kernel_rfl) (by kernel_rfl) (by exact fun _ _ _ h => h) (Or.inr ⟨by rfl, rfl⟩) hH ?_
        try simp only [Act.put, List.setIfInBounds_toArray, List.set_cons_zero, List.set_cons_succ]
        refine wpAnyH_take (i := 9) (v := undef) (by simp only [List.getElem?_toArray, List.getElem?_cons_succ, List.getElem?_cons_zero]; rfl) (by kernel_rfl) (by kernel_rfl) (by kernel_rfl) (by exact fun _ _ _ h => h) (Or.inr ⟨by rfl, rfl⟩) hH ?_
        try simp only [Act.put, List.setIfInBounds_toArray, List.set_cons_zero, List.set_cons_succ]
        refine wpAnyH_take (i := 10) (v := undef) (by simp only [List.getElem?_toArray, List.getElem?_cons_succ, List.getElem?_cons_zero]; rfl) (by kernel_rfl) (by kernel_rfl) (by kernel_rfl) (by exact fun _ _ _ h => h) (Or.inr ⟨by rfl, rfl⟩) hH ?_
        try simp only [Act.put, List.setIfInBounds_toArray, List.set_cons_zero, List.set_cons_succ]
        refine wpAnyH_take (i := 11) (v := undef) (by simp only [List.getElem?_toArray, List.getElem?_cons_succ, List.getElem?_cons_zero]; rfl) (by kernel_rfl) (by kernel_rfl) (by kernel_rfl) (by exact fun _ _ _ h => h) (Or.inr ⟨by rfl, rfl⟩) hH ?_
        try simp only [Act.put, List.setIfInBounds_toArray, List.set_cons_zero, List.set_cons_succ]
        refine wpAnyH_take (i := 12) (v := ?_) (by simp only [List.getElem?_toArray, List.getElem?_cons_succ, List.getElem?_cons_zero]; rfl) (by kernel_rfl) (by kernel_rfl) (by kernel_rfl) (by exact fun _ _ _ h => h) (Or.inl ⟨by rfl, ?_⟩) hH ?_
        rotate_left
        · (intro wS hS; clear hS; go_simp; try rfl)
        try simp only [Act.put, List.setIfInBounds_toArray, List.set_cons_zero, List.set_cons_succ]
        refine wpAnyH_done (by kernel_rfl) ?_ _
        have RR := Lib.hid (RR.out.step hH)
        have AA := Lib.hid (AA.out.step hH)
        have OO := Lib.hid (OO.out.keep hH)
        have BB := Lib.hid (BB.out.trans (hH.mono BB.out.size))
        obtain ⟨v2, hv2⟩ : ∃ v, wr.drew = v := ⟨_, rfl⟩
        rw [hv2] at RR AA OO BB hH ⊢
        clear hv2
        obtain rfl := hkT.out
        clear hH hkT
        go_wp2_with fail
        obtain ⟨b0, b1, b2, -, -, -⟩ := AA.out.all
        obtain ⟨r0, r1, r2, f0, f1, f2⟩ := RR.out.all
        have OF := Lib.hid (OO.out.front (P := P) (by rw [L1.out]; exact hTC))
        have hca : N ≤ ca := CQ.out.le
        have nca := CQ.out.nil
        have spo := CQ.out.spot
        have c1 : (0 : Int) ≤ (P : Int) := by omega
        have c2 : (P : Int) ≤ (ca : Int) := by omega
        clear CQ OO AA RD LDC RW LT LZ
        rcases spo with rfl | ⟨g, o, rfl⟩
        · obtain rfl : ca = 0 := nca rfl
          obtain rfl : P = 0 := by omega
          go_region
          go_wp2_with fail
          obtain ⟨E0, E1, E2, -, -, -⟩ := (((RR.out.set0 (.int .i64 k)).set1 (.int .i64 C)).set2 (.slice none 0 0)).all
          have OG := (OF.out.setA (b := w.heap.size + 1) (OF.out.ne_box RR.out) (.int .i64 k) (.int .i64 C) (.slice none 0 0))
          refine bodyPost_ret (v := .tuple #[.agg #[.int .i64 k, .int .i64 C, .slice none 0 0], .bool true]) (by simp [results, Try.results32, go_sem, E0, E1, E2]) rfl ?_
          exact ⟨_, rfl, OG.moveA fun _ _ => rfl, below_drewN (((BB.out.setCell (p := ⟨w.heap.size + 1, 0, none⟩) (by show w.heap.size ≤ w.heap.size + 1; omega) _).setCell (p := ⟨w.heap.size + 1, 1, none⟩) (by show w.heap.size ≤ w.heap.size + 1; omega) _).setCell (p := ⟨w.heap.size + 1, 2, none⟩) (by show w.heap.size ≤ w.heap.size + 1; omega) _) 1⟩
        · by_cases hc0 : ca = 0
          · subst hc0
            obtain rfl : P = 0 := by omega
            go_region
            go_wp2_with fail
            obtain ⟨E0, E1, E2, -, -, -⟩ := (((RR.out.set0 (.int .i64 k)).set1 (.int .i64 C)).set2 (.slice (some ⟨g, o, none⟩) 0 0)).all
            have OG := (OF.out.setA (b := w.heap.size + 1) (OF.out.ne_box RR.out) (.int .i64 k) (.int .i64 C) (.slice (some ⟨g, o, none⟩) 0 0))
            refine bodyPost_ret (v := .tuple #[.agg #[.int .i64 k, .int .i64 C, .slice (some ⟨g, o, none⟩) 0 0], .bool true]) (by simp [results, Try.results32, go_sem, E0, E1, E2]) rfl ?_
            exact ⟨_, rfl, OG.moveA fun _ _ => rfl, below_drewN (((BB.out.setCell (p := ⟨w.heap.size + 1, 0, none⟩) (by show w.heap.size ≤ w.heap.size + 1; omega) _).setCell (p := ⟨w.heap.size + 1, 1, none⟩) (by show w.heap.size ≤ w.heap.size + 1; omega) _).setCell (p := ⟨w.heap.size + 1, 2, none⟩) (by show w.heap.size ≤ w.heap.size + 1; omega) _) 1⟩
          · go_region
            go_wp2_with fail
            obtain ⟨E0, E1, E2, -, -, -⟩ := (((RR.out.set0 (.int .i64 k)).set1 (.int .i64 C)).set2 (.slice (some ⟨g, o, none⟩) P ca)).all
            have OG := (OF.out.setA (b := w.heap.size + 1) (OF.out.ne_box RR.out) (.int .i64 k) (.int .i64 C) (.slice (some ⟨g, o, none⟩) P ca))
            refine bodyPost_ret (v := .tuple #[.agg #[.int .i64 k, .int .i64 C, .slice (some ⟨g, o, none⟩) P ca], .bool true]) (by simp [results, Try.results32, go_sem, E0, E1, E2]) rfl ?_
            exact ⟨_, rfl, OG.moveA fun _ _ => rfl, below_drewN (((BB.out.setCell (p := ⟨w.heap.size + 1, 0, none⟩) (by show w.heap.size ≤ w.heap.size + 1; omega) _).setCell (p := ⟨w.heap.size + 1, 1, none⟩) (by show w.heap.size ≤ w.heap.size + 1; omega) _).setCell (p := ⟨w.heap.size + 1, 2, none⟩) (by show w.heap.size ≤ w.heap.size + 1; omega) _) 1⟩
end Go.Proofs.Ytpelnfenfeoeeaa
end
