/-
  Texts of this seat, joined: HiX
-/
import Derived.Test.YtpelnfenfeoeeaaPk6
import Derived.Test.YtpelnfenfeoeeaaPk11
import Derived.Test.YtpelnfenfeoeeaaPk18

section
/-
  Chapter 12, in the program: HermiteForm.
-/
namespace Go.Proofs.Ytpelnfenfeoeeaa
set_option maxRecDepth 100000
open Go.RowKit

theorem Own.cel {B : Nat} {w : World} {q : Option Addr} {n m : Nat} {zs : List Int} (h : Own B w (.slice q n m) zs) : ∃ g, Cel w q n m g zs := by
  rcases h with ⟨e, h0⟩ | ⟨g, c, e, -, hi, hl, -⟩
  · injection e with e1 e2 e3
    exact ⟨0, .inl ⟨e1, e3, e2, h0⟩⟩
  · injection e with e1 e2 e3
    subst e1 e2 e3
    exact ⟨g, .inr ⟨rfl, hl, rfl, hi⟩⟩
/-- Both programs ask whether a column is left. -/
theorem hx_none {R C j t : Nat} {s : HSt} (ht : t ≤ R) (hz : ∀ i, t ≤ i → i < R → celS C s i j = 0) : pvR R C j t s.1 = -1 := by
  unfold pvR
  rw [if_pos (fstR_eq ht (by omega) hz (fun h => by omega))]
theorem hx_some {R C j t p : Nat} {s : HSt} (hp : p < R) (htp : t ≤ p) (hz : celS C s p j ≠ 0) : ∃ k : Nat, pvR R C j t s.1 = k := by
  obtain ⟨-, -, f3, -⟩ := fstR_says (c := C) (j := j) (xs := s.1) (k := R - t) (p := t)
  unfold pvR
  rw [if_neg fun e => hz (f3 p htp (by omega))]
  exact ⟨_, rfl⟩
/-- What lies in memory between the columns. -/
structure HxM (R C na nu bf ba bx : Nat) (w : World) (s : HSt) (wq : World) : Prop where
  ac : AcW R C na nu bf ba w.heap.size s wq
  pt : Blk2 wq bx 93 (.pointer (some ⟨bf, 0, none⟩)) (.pointer (some ⟨ba, 0, none⟩))
  r1 : Blk3 wq (w.heap.size + 1) 26 (.int .i64 0) (.int .i64 0) (.slice none 0 0)
  r2 : Blk3 wq (w.heap.size + 2) 26 (.int .i64 0) (.int .i64 0) (.slice none 0 0)
  be : Below w.heap.size w wq
theorem HxM.step {R C na nu bf ba bx : Nat} {w wq w' : World} {s : HSt} (h : HxM R C na nu bf ba bx w s wq) (hb : Below wq.heap.size wq w') : HxM R C na nu bf ba bx w s w' :=
  ⟨h.ac.step hb, h.pt.keep hb h.pt.lt, h.r1.keep hb h.r1.lt, h.r2.keep hb h.r2.lt, h.be.trans (hb.mono h.be.size)⟩
theorem HxM.box {R C na nu bf ba bx : Nat} {w wq w' : World} {s s' : HSt} (h : HxM R C na nu bf ba bx w s wq) (h1 : w.heap.size + 2 < bf) (h2 : bf < ba) (h3 : ba < bx) (hf : FrS (fun b => b = bf ∨ b = ba) wq w') (ha : AcW R C na nu bf ba w.heap.size s' w') : HxM R C na nu bf ba bx w s' w' :=
  ⟨ha, (hf.block _ h.pt.lt (by omega)).trans h.pt, h.r1.frs hf (by omega), h.r2.frs hf (by omega), h.be.trans (hf.below (B := w.heap.size) (fun k hk => by omega) h.be.size)⟩
theorem HxM.res {R C na nu bf ba bx : Nat} {w wq w' : World} {s : HSt} (h : HxM R C na nu bf ba bx w s wq) (h1 : w.heap.size + 2 < bf) (h2 : bf < ba) (hf : FrS (fun b => b = bf ∨ b = ba) wq w') :
    Blk3 w' (w.heap.size + 1) 26 (.int .i64 0) (.int .i64 0) (.slice none 0 0) ∧ Blk3 w' (w.heap.size + 2) 26 (.int .i64 0) (.int .i64 0) (.slice none 0 0) ∧ Below w.heap.size w w' :=
  ⟨h.r1.frs hf (by omega), h.r2.frs hf (by omega), h.be.trans (hf.below (B := w.heap.size) (fun k hk => by omega) h.be.size)⟩
set_option maxHeartbeats 8000000 in
theorem iHerm (r c : Int) (a : Option Addr) (m : Nat) (xs : List Int) (w : World) (h : Rd w a xs) (hn : xs.length ≤ 16777216) (_ : Spot a) :
    Calls Try.prog 37 #[.agg #[.int .i64 r, .int .i64 c, .slice a xs.length m]] w (HerG w (herR r c xs)) := by
  have IM : Hid (∀ w', Below w.heap.size w w' → Calls Try.prog 58 #[.agg #[.int .i64 r, .int .i64 c, .slice a xs.length m]] w' (Gives (.bool (isMat r c xs)) w')) := fun w' hb => iIsMat r c a m xs w' (h.below hb) hn
  cases hm : isMat r c xs with
  | false =>
    have RN : Hid (herR r c xs = HR.no) := by show _ = _; unfold herR; rw [if_neg (by rw [hm]; decide)]
    rw [hm] at IM
    generalize herR r c xs = RES at RN ⊢
    generalize xs.length = L at IM ⊢
    clear h hn hm
    go_enter Try.func37, Try.ntmps37
    go_upto_region 1 with fail
    have K0 : Hid (Blk3 (((w.alloc (.cells #[.int .i64 r, .int .i64 c, .slice a L m] 26)).alloc (.cells #[.int .i64 0, .int .i64 0, .slice none 0 0] 26)).alloc (.cells #[.int .i64 0, .int .i64 0, .slice none 0 0] 26)) w.heap.size 26 (.int .i64 r) (.int .i64 c) (.slice a L m)) := ((Blk3.at_ _ _ _ _ rfl).old _).old _
    have R0 : Hid (Blk3 (((w.alloc (.cells #[.int .i64 r, .int .i64 c, .slice a L m] 26)).alloc (.cells #[.int .i64 0, .int .i64 0, .slice none 0 0] 26)).alloc (.cells #[.int .i64 0, .int .i64 0, .slice none 0 0] 26)) (w.heap.size + 1) 26 (.int .i64 0) (.int .i64 0) (.slice none 0 0)) := (Blk3.at_ _ _ _ _ (by simp)).old _
    have Q0 : Hid (Blk3 (((w.alloc (.cells #[.int .i64 r, .int .i64 c, .slice a L m] 26)).alloc (.cells #[.int .i64 0, .int .i64 0, .slice none 0 0] 26)).alloc (.cells #[.int .i64 0, .int .i64 0, .slice none 0 0] 26)) (w.heap.size + 2) 26 (.int .i64 0) (.int .i64 0) (.slice none 0 0)) := Blk3.at_ _ _ _ _ (by simp)
    have B0 : Hid (Below w.heap.size w (((w.alloc (.cells #[.int .i64 r, .int .i64 c, .slice a L m] 26)).alloc (.cells #[.int .i64 0, .int .i64 0, .slice none 0 0] 26)).alloc (.cells #[.int .i64 0, .int .i64 0, .slice none 0 0] 26))) := (((Below.refl _ _).alloc (Nat.le_refl _) _).alloc (by simp) _).alloc (by simp; omega) _
    have S0 : Hid ((((w.alloc (.cells #[.int .i64 r, .int .i64 c, .slice a L m] 26)).alloc (.cells #[.int .i64 0, .int .i64 0, .slice none 0 0] 26)).alloc (.cells #[.int .i64 0, .int .i64 0, .slice none 0 0] 26)).heap.size = w.heap.size + 3) := by show _ = _; simp
    generalize ((w.alloc (.cells #[.int .i64 r, .int .i64 c, .slice a L m] 26)).alloc (.cells #[.int .i64 0, .int .i64 0, .slice none 0 0] 26)).alloc (.cells #[.int .i64 0, .int .i64 0, .slice none 0 0] 26) = W0 at K0 R0 Q0 B0 S0 ⊢
    obtain ⟨p0, p1, p2, -, -, -⟩ := K0.out.all
    go_wp2_with fail
    refine (IM.out _ B0.out).mono ?_
    rintro e w1 ⟨rfl, hb⟩
    have R1 := Lib.hid (R0.out.step hb)
    have R2 := Lib.hid (Q0.out.step hb)
    have B1 := Lib.hid (B0.out.trans (hb.mono (by have := S0.out; omega)))
    clear hb p0 p1 p2 K0 R0 Q0 B0
    obtain ⟨r0, r1, r2, f0, f1, f2⟩ := R1.out.all
    obtain ⟨e0, e1, e2, l0, l1, l2⟩ := R2.out.all
    go_wp2_with fail
    obtain ⟨E0, E1, E2, -, -, -⟩ := ((((((R1.out.set0 (.int .i64 0)).set1 (.int .i64 0)).set2 (.slice none 0 0)).far (a := ⟨w.heap.size + 2, 0, none⟩) (by show _ ≠ _; simp) (.int .i64 0)).far (a := ⟨w.heap.size + 2, 1, none⟩) (by show _ ≠ _; simp) (.int .i64 0)).far (a := ⟨w.heap.size + 2, 2, none⟩) (by show _ ≠ _; simp) (.slice none 0 0)).all
    obtain ⟨E3, E4, E5, -, -, -⟩ := ((((((R2.out.far (a := ⟨w.heap.size + 1, 0, none⟩) (by show _ ≠ _; simp) (.int .i64 0)).far (a := ⟨w.heap.size + 1, 1, none⟩) (by show _ ≠ _; simp) (.int .i64 0)).far (a := ⟨w.heap.size + 1, 2, none⟩) (by show _ ≠ _; simp) (.slice none 0 0)).set0 (.int .i64 0)).set1 (.int .i64 0)).set2 (.slice none 0 0)).all
    refine bodyPost_ret (v := .tuple #[.agg #[.int .i64 0, .int .i64 0, .slice none 0 0], .agg #[.int .i64 0, .int .i64 0, .slice none 0 0], .bool false]) (by simp [results, Try.results37, go_sem, E0, E1, E2, E3, E4, E5]) rfl ?_
    rw [RN.out]
    refine ⟨_, _, rfl, .inl ⟨rfl, rfl⟩, .inl ⟨rfl, rfl⟩, fun k hk => by simp [Value.ownBlock] at hk, ?_⟩
    exact (((((B1.out.setCell (by show w.heap.size ≤ w.heap.size + 1; omega) _).setCell (by show w.heap.size ≤ w.heap.size + 1; omega) _).setCell (by show w.heap.size ≤ w.heap.size + 1; omega) _).setCell (by show w.heap.size ≤ w.heap.size + 2; omega) _).setCell (by show w.heap.size ≤ w.heap.size + 2; omega) _).setCell (by show w.heap.size ≤ w.heap.size + 2; omega) _
  | true =>
    obtain ⟨⟨r0, r1⟩, ⟨c0, c1⟩, hl, nx⟩ := isMat_says hm
    obtain ⟨R, rfl⟩ := Int.eq_ofNat_of_zero_le r0
    obtain ⟨C, rfl⟩ := Int.eq_ofNat_of_zero_le c0
    have hl : xs.length = R * C := by rw [← Int.natCast_mul] at hl; omega
    have R24 : R ≤ 24 := by omega
    have C24 : C ≤ 24 := by omega
    have hbd : R * C ≤ 24 * 24 := Nat.mul_le_mul R24 C24
    have hbu : R * R ≤ 24 * 24 := Nat.mul_le_mul R24 R24
    have RS : Hid (herR R C xs = HR.of R C (herX R C xs)) := by show _ = _; unfold herR; rw [if_pos hm]; rfl
    have CP : Hid (∀ w', Below w.heap.size w w' → Calls Try.prog 60 #[.agg #[.int .i64 R, .int .i64 C, .slice a xs.length m]] w' (CopyM R C xs.length xs w')) := fun w' hb => iCopyOf R C a m xs.length xs rfl w' (h.below hb) hn
    have ID : Hid (∀ w', Calls Try.prog 59 #[.int .i64 R] w' (MatRes ⟨true, R, R, idL R R⟩ w')) := fun w' => iIdent_t R w' R24
    have PVT : Hid (∀ (bf ba bx : Nat) (M : Mx) (q : Nat → Nat) (t j p : Nat) (s : HSt) wq, HxM R C (R * C) (R * R) bf ba bx w s wq → Fin2 R C M s → HInv R C (mxC C s.1) q t j → t < R → j < C → LeastP R C j t s p → Calls Try.prog 90 #[.agg #[.pointer (some ⟨bf, 0, none⟩), .pointer (some ⟨ba, 0, none⟩)], .int .i64 t, .int .i64 j] wq (PvRes R C (R * C) (R * R) bf ba w.heap.size t (colF R C j t s) wq)) := fun bf ba bx M q t j p s wq h1 h2 h3 h4 h5 h6 => iPivot R C (R * C) (R * R) bf ba w.heap.size t j p s q M wq h1.ac R24 C24 rfl rfl h1.be.size h2 h3 h4 h5 h6
    have PVC : Hid (∀ (bf ba bx : Nat) (t j : Nat) (s : HSt) wq qa qu ma mu, AcV R C (R * C) (R * R) bf ba w.heap.size s qa qu ma mu wq → t ≤ R → j < C → Calls Try.prog 89 #[.agg #[.int .i64 R, .int .i64 C, .slice qa (R * C) ma], .int .i64 t, .int .i64 j] wq (Gives (.int .i64 (pvR R C j t s.1)) wq)) := fun bf ba bx t j s wq qa qu ma mu h1 h2 h3 => by
      obtain ⟨g, hg⟩ := h1.fA.cel
      exact iPivR R C t j (R * C) ma g qa s.1 wq rfl R24 C24 h2 h3 hg
    have F0 := Lib.hid (herX_start hl nx)
    have H0 : Hid (HInv R C (mxC C xs) (fun _ => 0) 0 0) := HInv.start _ _ _ _
    have X0 : Hid (herX R C xs = allF R C (C - 0) 0 0 (xs, idL R R)) := rfl
    rw [hm] at IM
    rw [RS.out]
    obtain ⟨X, hX⟩ : ∃ X, herX R C xs = X := ⟨_, rfl⟩
    rw [hX] at X0 ⊢
    obtain ⟨L, hL⟩ : ∃ L, R * C = L := ⟨_, rfl⟩
    obtain ⟨LU, hLU⟩ : ∃ LU, R * R = LU := ⟨_, rfl⟩
    rw [hl, hL] at IM CP ⊢
    rw [hL, hLU] at PVT PVC
    have HLU : Hid ((idL R R).length = LU) := by show _ = _; rw [idL_length, hLU]
    have XL : Hid (xs.length = L) := by show _ = _; rw [hl, hL]
    clear h hn hm r0 r1 c0 c1 hl nx RS hL hLU hX hbd hbu
    go_enter Try.func37, Try.ntmps37
    go_upto_region 1 with fail
    have K0 : Hid (Blk3 (((w.alloc (.cells #[.int .i64 R, .int .i64 C, .slice a L m] 26)).alloc (.cells #[.int .i64 0, .int .i64 0, .slice none 0 0] 26)).alloc (.cells #[.int .i64 0, .int .i64 0, .slice none 0 0] 26)) w.heap.size 26 (.int .i64 R) (.int .i64 C) (.slice a L m)) := ((Blk3.at_ _ _ _ _ rfl).old _).old _
    have R0 : Hid (Blk3 (((w.alloc (.cells #[.int .i64 R, .int .i64 C, .slice a L m] 26)).alloc (.cells #[.int .i64 0, .int .i64 0, .slice none 0 0] 26)).alloc (.cells #[.int .i64 0, .int .i64 0, .slice none 0 0] 26)) (w.heap.size + 1) 26 (.int .i64 0) (.int .i64 0) (.slice none 0 0)) := (Blk3.at_ _ _ _ _ (by simp)).old _
    have Q0 : Hid (Blk3 (((w.alloc (.cells #[.int .i64 R, .int .i64 C, .slice a L m] 26)).alloc (.cells #[.int .i64 0, .int .i64 0, .slice none 0 0] 26)).alloc (.cells #[.int .i64 0, .int .i64 0, .slice none 0 0] 26)) (w.heap.size + 2) 26 (.int .i64 0) (.int .i64 0) (.slice none 0 0)) := Blk3.at_ _ _ _ _ (by simp)
    have B0 : Hid (Below w.heap.size w (((w.alloc (.cells #[.int .i64 R, .int .i64 C, .slice a L m] 26)).alloc (.cells #[.int .i64 0, .int .i64 0, .slice none 0 0] 26)).alloc (.cells #[.int .i64 0, .int .i64 0, .slice none 0 0] 26))) := (((Below.refl _ _).alloc (Nat.le_refl _) _).alloc (by simp) _).alloc (by simp; omega) _
    have S0 : Hid ((((w.alloc (.cells #[.int .i64 R, .int .i64 C, .slice a L m] 26)).alloc (.cells #[.int .i64 0, .int .i64 0, .slice none 0 0] 26)).alloc (.cells #[.int .i64 0, .int .i64 0, .slice none 0 0] 26)).heap.size = w.heap.size + 3) := by show _ = _; simp
    generalize ((w.alloc (.cells #[.int .i64 R, .int .i64 C, .slice a L m] 26)).alloc (.cells #[.int .i64 0, .int .i64 0, .slice none 0 0] 26)).alloc (.cells #[.int .i64 0, .int .i64 0, .slice none 0 0] 26) = W0 at K0 R0 Q0 B0 S0 ⊢
    obtain ⟨p0, p1, p2, -, -, -⟩ := K0.out.all
    go_wp2_with fail
    refine (IM.out _ B0.out).mono ?_
    rintro e w1 ⟨rfl, hb⟩
    have K1 := Lib.hid (K0.out.step hb)
    have R1 := Lib.hid (R0.out.step hb)
    have Q1 := Lib.hid (Q0.out.step hb)
    have B1 := Lib.hid (B0.out.trans (hb.mono (by have := S0.out; omega)))
    have s1 : w.heap.size + 3 ≤ w1.heap.size := by have := S0.out; have := hb.size; omega
    clear hb p0 p1 p2 K0 R0 Q0 B0 S0
    obtain ⟨p0, p1, p2, -, -, -⟩ := K1.out.all
    go_wp2_with fail
    refine (CP.out _ B1.out).mono ?_
    rintro e w2 ⟨qa, ca, rfl, own, hb⟩
    have K2 := Lib.hid ((K1.out.step hb).old (.cells #[.int .i64 R, .int .i64 C, .slice qa L ca] 26))
    have R2 := Lib.hid ((R1.out.step hb).old (.cells #[.int .i64 R, .int .i64 C, .slice qa L ca] 26))
    have Q2 := Lib.hid ((Q1.out.step hb).old (.cells #[.int .i64 R, .int .i64 C, .slice qa L ca] 26))
    have A2 : Hid (Blk3 (w2.alloc (.cells #[.int .i64 R, .int .i64 C, .slice qa L ca] 26)) w2.heap.size 26 (.int .i64 R) (.int .i64 C) (.slice qa L ca)) := Blk3.at_ _ _ _ _ rfl
    have O2 := Lib.hid ((own.keep ((Below.refl _ _).alloc (Nat.le_refl _) (.cells #[.int .i64 R, .int .i64 C, .slice qa L ca] 26))).le (show w.heap.size ≤ _ by omega))
    have B2 := Lib.hid ((B1.out.trans (hb.mono (by omega))).alloc (by have := hb.size; omega) (.cells #[.int .i64 R, .int .i64 C, .slice qa L ca] 26))
    have s2 : w.heap.size + 3 ≤ w2.heap.size := by have := hb.size; omega
    clear hb own K1 R1 Q1 B1 p0 p1 p2 IM CP s1
    go_upto_region 4 with fail
    obtain ⟨bf, hbf⟩ : ∃ b, w2.heap.size = b := ⟨_, rfl⟩
    rw [hbf] at A2 s2 ⊢
    have s3 : Hid ((w2.alloc (.cells #[.int .i64 R, .int .i64 C, .slice qa L ca] 26)).heap.size = bf + 1) := by show _ = _; simp [hbf]
    generalize w2.alloc (.cells #[.int .i64 R, .int .i64 C, .slice qa L ca] 26) = W2 at K2 R2 Q2 A2 O2 B2 s3 ⊢
    clear hbf
    obtain ⟨p0, p1, p2, -, -, -⟩ := K2.out.all
    go_wp2_with fail
    refine (ID.out _).mono ?_
    rintro e w3 ⟨v, rfl, own, hb⟩
    dsimp only at own ⊢
    obtain ⟨qu, cu, rfl, -, -⟩ := own.form
    rw [HLU.out] at own ⊢
    have K3 := Lib.hid ((K2.out.step hb).old (.cells #[.int .i64 R, .int .i64 R, .slice qu LU cu] 26))
    have R3 := Lib.hid ((R2.out.step hb).old (.cells #[.int .i64 R, .int .i64 R, .slice qu LU cu] 26))
    have Q3 := Lib.hid ((Q2.out.step hb).old (.cells #[.int .i64 R, .int .i64 R, .slice qu LU cu] 26))
    have A3 := Lib.hid ((A2.out.step hb).old (.cells #[.int .i64 R, .int .i64 R, .slice qu LU cu] 26))
    have U3 : Hid (Blk3 (w3.alloc (.cells #[.int .i64 R, .int .i64 R, .slice qu LU cu] 26)) w3.heap.size 26 (.int .i64 R) (.int .i64 R) (.slice qu LU cu)) := Blk3.at_ _ _ _ _ rfl
    have DF : Hid (∀ k, (Value.slice qa L ca).ownBlock = some k → (Value.slice qu LU cu).ownBlock ≠ some k) := fun k hk e => by
      have h1 := O2.out.lt_of hk
      have h2 := own.lt_of e
      omega
    have O3 := Lib.hid ((O2.out.keep hb).keep ((Below.refl _ _).alloc (Nat.le_refl _) (.cells #[.int .i64 R, .int .i64 R, .slice qu LU cu] 26)))
    have N3 := Lib.hid ((own.keep ((Below.refl _ _).alloc (Nat.le_refl _) (.cells #[.int .i64 R, .int .i64 R, .slice qu LU cu] 26))).le (show w.heap.size ≤ _ by have := s3.out; omega))
    have B3 := Lib.hid ((B2.out.trans (hb.mono B2.out.size)).alloc (by have := hb.size; have := B2.out.size; omega) (.cells #[.int .i64 R, .int .i64 R, .slice qu LU cu] 26))
    have s4 : bf < w3.heap.size := by have := hb.size; have := s3.out; omega
    clear hb own K2 R2 Q2 A2 O2 B2 p0 p1 p2 ID s3
    go_upto_region 5 with fail
    obtain ⟨ba, hba⟩ : ∃ b, w3.heap.size = b := ⟨_, rfl⟩
    rw [hba] at U3 s4 ⊢
    have s5 : Hid ((w3.alloc (.cells #[.int .i64 R, .int .i64 R, .slice qu LU cu] 26)).heap.size = ba + 1) := by show _ = _; simp [hba]
    generalize w3.alloc (.cells #[.int .i64 R, .int .i64 R, .slice qu LU cu] 26) = W3 at K3 R3 Q3 A3 U3 O3 N3 B3 s5 ⊢
    clear hba
    go_upto_region 6 with fail
    obtain ⟨bx, hbx⟩ : ∃ b, W3.heap.size = b := ⟨_, rfl⟩
    have s6 : Hid (ba < bx) := by show _ < _; have := s5.out; omega
    have PT : Hid (Blk2 (W3.alloc (.cells #[.pointer (some ⟨bf, 0, none⟩), .pointer (some ⟨ba, 0, none⟩)] 93)) bx 93 (.pointer (some ⟨bf, 0, none⟩)) (.pointer (some ⟨ba, 0, none⟩))) := Blk2.at_ _ _ _ hbx.symm
    rw [hbx]
    have nb : Below W3.heap.size W3 (W3.alloc (.cells #[.pointer (some ⟨bf, 0, none⟩), .pointer (some ⟨ba, 0, none⟩)] 93)) := (Below.refl _ _).alloc (Nat.le_refl _) _
    have HX : Hid (HxM R C L LU bf ba bx w (xs, idL R R) (W3.alloc (.cells #[.pointer (some ⟨bf, 0, none⟩), .pointer (some ⟨ba, 0, none⟩)] 93))) :=
      ⟨⟨qa, qu, ca, cu, A3.out.old _, U3.out.old _, O3.out.keep nb, N3.out.keep nb, DF.out, XL.out, HLU.out, by omega⟩, PT.out, R3.out.old _, Q3.out.old _, B3.out.alloc B3.out.size _⟩
    have K4 := Lib.hid (K3.out.old (.cells #[.pointer (some ⟨bf, 0, none⟩), .pointer (some ⟨ba, 0, none⟩)] 93))
    generalize W3.alloc (.cells #[.pointer (some ⟨bf, 0, none⟩), .pointer (some ⟨ba, 0, none⟩)] 93) = W4 at HX K4 ⊢
    have n1 : Hid (w.heap.size + 2 < bf) := by show _ < _; omega
    have n2 : Hid (bf < ba) := s4
    clear K3 R3 Q3 A3 U3 O3 N3 B3 s5 DF PT hbx nb s2 s4
    obtain ⟨p0, p1, p2, -, -, -⟩ := K4.out.all
    obtain ⟨M, hM⟩ : ∃ M, mxC C xs = M := ⟨_, rfl⟩
    rw [hM] at F0
    clear hM
    go_wp2_with fail
    clear p0 p1 p2 K4
    go_loopw [4, 9, 10, 27] (fun _ v9 _ v27 wq => ∃ (j t : Nat) (s : HSt) (q : Nat → Nat), v9 = .int .i64 t ∧ v27 = .int .i64 j ∧ t ≤ R ∧ j ≤ C ∧ Fin2 R C M s ∧ HInv R C (mxC C s.1) q t j ∧ X = allF R C (C - j) j t s ∧ HxM R C L LU bf ba bx w s wq) (fun _ _ _ v27 _ => C - (intOf v27).toNat)
    case atStart => exact ⟨0, 0, (xs, idL R R), fun _ => 0, rfl, rfl, Nat.zero_le _, Nat.zero_le _, F0.out, H0.out, X0.out, HX.out⟩
    case round =>
      clear HX F0 X0 H0
      obtain ⟨j, t, s, q, rfl, rfl, ht, hj, hF, hI, hX, hW⟩ := hrel
      have FN := Lib.hid hF
      have IN := Lib.hid hI
      have EX := Lib.hid hX
      have WS := Lib.hid hW
      clear hF hI hX hW
      by_cases hjC : j < C
      rotate_left
      · obtain rfl : j = C := by omega
        have V : Hid (X = some s) := by refine Lib.hid ?_; rw [EX.out, Nat.sub_self]; rfl
        obtain ⟨qa, qu, ma, mu, hV⟩ := WS.out.ac
        have A4 := Lib.hid hV.kf
        have U4 := Lib.hid hV.ka
        have IA := Lib.hid hV.fA
        have IU := Lib.hid hV.fU
        have DF := Lib.hid hV.df
        have R4 := Lib.hid WS.out.r1
        have Q4 := Lib.hid WS.out.r2
        have B4 := Lib.hid WS.out.be
        clear hV WS EX PVT PVC FN IN
        go_wp2_with fail
        refine wp_region_T (S := fun w' => Blk3 w' bf 26 (.int .i64 R) (.int .i64 j) (.slice qa L ma) ∧ Blk3 w' ba 26 (.int .i64 R) (.int .i64 R) (.slice qu LU mu)) (T := fun _ => false) (by kernel_rfl) ⟨A4.out.drew, U4.out.drew⟩ (fun hH => ?_)
        have R5 := Lib.hid R4.out.drew
        have Q5 := Lib.hid Q4.out.drew
        have B5 := Lib.hid B4.out.drew
        have IA5 := Lib.hid (IA.out.moveA (w' := wr.drew) fun _ _ => rfl)
        have IU5 := Lib.hid (IU.out.moveA (w' := wr.drew) fun _ _ => rfl)
        generalize wr.drew = v0 at hH R5 Q5 B5 IA5 IU5 ⊢
        clear R4 Q4 B4 IA IU A4 U4
        refine wpAnyT_take (i := 0) (v := ?_) (by simp only [List.getElem?_toArray, List.getElem?_cons_zero]; rfl) (by kernel_rfl) (by kernel_rfl) (by kernel_rfl) (by kernel_rfl) (fun _ hj => by cases hj) (by exact fun _ _ _ h => h) (Or.inl ⟨by rfl, ?_⟩) hH ?_
        rotate_left
        · (intro wS hS; (try dsimp only at hS); obtain ⟨k1, k2, k3, -, -, -⟩ := hS.1.all; go_simp; try rfl)
        try simp only [Act.put, List.setIfInBounds_toArray, List.set_cons_zero, List.set_cons_succ]
        refine wpAnyT_ready (rs := [1, 2]) (by kernel_rfl) (by simp) ?_
        refine AllReadyT.cons (by simp only [List.getElem?_toArray, List.getElem?_cons_succ, List.getElem?_cons_zero]; rfl) (fun K hK => ?_) (AllReadyT.cons (by simp only [List.getElem?_toArray, List.getElem?_cons_succ, List.getElem?_cons_zero]; rfl) (fun K hK => ?_) AllReadyT.nil)
        ·
          obtain ⟨k1, k2, k3, -, -, -⟩ := hH.2.all
          go_simp
          try dsimp only
          refine hK.out _ _ (fun _ => hH) ?_
          clear hK K k1 k2 k3
          try simp only [Act.put, List.setIfInBounds_toArray, List.set_cons_zero, List.set_cons_succ]
          refine wpAnyT_ready (rs := [2]) (by kernel_rfl) (by simp) ?_
          refine AllReadyT.cons (by simp only [List.getElem?_toArray, List.getElem?_cons_succ, List.getElem?_cons_zero]; rfl) (fun K hK => ?_) AllReadyT.nil
          obtain ⟨r0, r1, r2, f0, f1, f2⟩ := R5.out.all
          go_simp
          try dsimp only
          have hN := And.intro (((hH.1.far (a := ⟨w.heap.size + 1, 0, none⟩) (by show bf ≠ w.heap.size + 1; have := n1.out; omega) (.int .i64 R)).far (a := ⟨w.heap.size + 1, 1, none⟩) (by show bf ≠ w.heap.size + 1; have := n1.out; omega) (.int .i64 j)).far (a := ⟨w.heap.size + 1, 2, none⟩) (by show bf ≠ w.heap.size + 1; have := n1.out; omega) (.slice qa L ma)) (((hH.2.far (a := ⟨w.heap.size + 1, 0, none⟩) (by show ba ≠ w.heap.size + 1; have := n1.out; have := n2.out; omega) (.int .i64 R)).far (a := ⟨w.heap.size + 1, 1, none⟩) (by show ba ≠ w.heap.size + 1; have := n1.out; have := n2.out; omega) (.int .i64 j)).far (a := ⟨w.heap.size + 1, 2, none⟩) (by show ba ≠ w.heap.size + 1; have := n1.out; have := n2.out; omega) (.slice qa L ma))
          have R6 := Lib.hid (((R5.out.set0 (.int .i64 R)).set1 (.int .i64 j)).set2 (.slice qa L ma))
          have Q6 := Lib.hid (((Q5.out.far (a := ⟨w.heap.size + 1, 0, none⟩) (by show w.heap.size + 2 ≠ w.heap.size + 1; omega) (.int .i64 R)).far (a := ⟨w.heap.size + 1, 1, none⟩) (by show w.heap.size + 2 ≠ w.heap.size + 1; omega) (.int .i64 j)).far (a := ⟨w.heap.size + 1, 2, none⟩) (by show w.heap.size + 2 ≠ w.heap.size + 1; omega) (.slice qa L ma))
          have B6 := Lib.hid (((B5.out.setCell (p := ⟨w.heap.size + 1, 0, none⟩) (by show w.heap.size ≤ w.heap.size + 1; omega) (.int .i64 R)).setCell (p := ⟨w.heap.size + 1, 1, none⟩) (by show w.heap.size ≤ w.heap.size + 1; omega) (.int .i64 j)).setCell (p := ⟨w.heap.size + 1, 2, none⟩) (by show w.heap.size ≤ w.heap.size + 1; omega) (.slice qa L ma))
          have IA6 := Lib.hid (IA5.out.setA (b := w.heap.size + 1) (IA5.out.ne_box R5.out) (.int .i64 R) (.int .i64 j) (.slice qa L ma))
          have IU6 := Lib.hid (IU5.out.setA (b := w.heap.size + 1) (IU5.out.ne_box R5.out) (.int .i64 R) (.int .i64 j) (.slice qa L ma))
          refine hK.out _ _ (fun _ => hN) ?_
          clear hK K r0 r1 r2 f0 f1 f2 hH R5 Q5 B5 IA5 IU5
          try simp only [Act.put, List.setIfInBounds_toArray, List.set_cons_zero, List.set_cons_succ]
          try simp only [show w.heap.size + 1 + 1 = w.heap.size + 2 from rfl]
          generalize (((v0.setCell ⟨w.heap.size + 1, 0, none⟩ (.int .i64 R)).setCell ⟨w.heap.size + 1, 1, none⟩ (.int .i64 j)).setCell ⟨w.heap.size + 1, 2, none⟩ (.slice qa L ma)) = v0 at hN R6 Q6 B6 IA6 IU6 ⊢
          have hH := hN
          have R5 := R6
          have Q5 := Q6
          have B5 := B6
          have IA5 := IA6
          have IU5 := IU6
          clear hN R6 Q6 B6 IA6 IU6
          refine wpAnyT_ready (rs := [3]) (by kernel_rfl) (by simp) ?_
          refine AllReadyT.cons (by simp only [List.getElem?_toArray, List.getElem?_cons_succ, List.getElem?_cons_zero]; rfl) (fun K hK => ?_) AllReadyT.nil
          obtain ⟨r0, r1, r2, f0, f1, f2⟩ := Q5.out.all
          go_simp
          try dsimp only
          have hN := And.intro (((hH.1.far (a := ⟨w.heap.size + 2, 0, none⟩) (by show bf ≠ w.heap.size + 2; have := n1.out; omega) (.int .i64 R)).far (a := ⟨w.heap.size + 2, 1, none⟩) (by show bf ≠ w.heap.size + 2; have := n1.out; omega) (.int .i64 R)).far (a := ⟨w.heap.size + 2, 2, none⟩) (by show bf ≠ w.heap.size + 2; have := n1.out; omega) (.slice qu LU mu)) (((hH.2.far (a := ⟨w.heap.size + 2, 0, none⟩) (by show ba ≠ w.heap.size + 2; have := n1.out; have := n2.out; omega) (.int .i64 R)).far (a := ⟨w.heap.size + 2, 1, none⟩) (by show ba ≠ w.heap.size + 2; have := n1.out; have := n2.out; omega) (.int .i64 R)).far (a := ⟨w.heap.size + 2, 2, none⟩) (by show ba ≠ w.heap.size + 2; have := n1.out; have := n2.out; omega) (.slice qu LU mu))
          have R6 := Lib.hid (((R5.out.far (a := ⟨w.heap.size + 2, 0, none⟩) (by show w.heap.size + 1 ≠ w.heap.size + 2; omega) (.int .i64 R)).far (a := ⟨w.heap.size + 2, 1, none⟩) (by show w.heap.size + 1 ≠ w.heap.size + 2; omega) (.int .i64 R)).far (a := ⟨w.heap.size + 2, 2, none⟩) (by show w.heap.size + 1 ≠ w.heap.size + 2; omega) (.slice qu LU mu))
          have Q6 := Lib.hid (((Q5.out.set0 (.int .i64 R)).set1 (.int .i64 R)).set2 (.slice qu LU mu))
          have B6 := Lib.hid (((B5.out.setCell (p := ⟨w.heap.size + 2, 0, none⟩) (by show w.heap.size ≤ w.heap.size + 2; omega) (.int .i64 R)).setCell (p := ⟨w.heap.size + 2, 1, none⟩) (by show w.heap.size ≤ w.heap.size + 2; omega) (.int .i64 R)).setCell (p := ⟨w.heap.size + 2, 2, none⟩) (by show w.heap.size ≤ w.heap.size + 2; omega) (.slice qu LU mu))
          have IA6 := Lib.hid (IA5.out.setA (b := w.heap.size + 2) (IA5.out.ne_box Q5.out) (.int .i64 R) (.int .i64 R) (.slice qu LU mu))
          have IU6 := Lib.hid (IU5.out.setA (b := w.heap.size + 2) (IU5.out.ne_box Q5.out) (.int .i64 R) (.int .i64 R) (.slice qu LU mu))
          refine hK.out _ _ (fun _ => hN) ?_
          clear hK K r0 r1 r2 f0 f1 f2 hH R5 Q5 B5 IA5 IU5
          try simp only [Act.put, List.setIfInBounds_toArray, List.set_cons_zero, List.set_cons_succ]
          try simp only [show w.heap.size + 1 + 1 = w.heap.size + 2 from rfl]
          generalize (((v0.setCell ⟨w.heap.size + 2, 0, none⟩ (.int .i64 R)).setCell ⟨w.heap.size + 2, 1, none⟩ (.int .i64 R)).setCell ⟨w.heap.size + 2, 2, none⟩ (.slice qu LU mu)) = v0 at hN R6 Q6 B6 IA6 IU6 ⊢
          have hH := hN
          have R5 := R6
          have Q5 := Q6
          have B5 := B6
          have IA5 := IA6
          have IU5 := IU6
          clear hN R6 Q6 B6 IA6 IU6
          refine wpAnyT_ready (rs := [4]) (by kernel_rfl) (by simp) ?_
          refine AllReadyT.cons (by simp only [List.getElem?_toArray, List.getElem?_cons_succ, List.getElem?_cons_zero]; rfl) (fun K hK => ?_) AllReadyT.nil
          go_simp
          try dsimp only
          refine hK.out _ _ (fun _ => hH) ?_
          clear hK K
          try simp only [Act.put, List.setIfInBounds_toArray, List.set_cons_zero, List.set_cons_succ]
          refine wpAnyT_done (by kernel_rfl) ?_ _
          go_wp2_with fail
          obtain ⟨E0, E1, E2, -, -, -⟩ := R5.out.all
          obtain ⟨E3, E4, E5, -, -, -⟩ := Q5.out.all
          refine bodyPost_ret (v := .tuple #[.agg #[.int .i64 R, .int .i64 j, .slice qa L ma], .agg #[.int .i64 R, .int .i64 R, .slice qu LU mu], .bool true]) (by simp [results, Try.results37, go_sem, E0, E1, E2, E3, E4, E5]) rfl ?_
          rw [V.out]
          exact ⟨.slice qa L ma, .slice qu LU mu, rfl, IA5.out, IU5.out, DF.out, B5.out⟩
        ·
          obtain ⟨r0, r1, r2, f0, f1, f2⟩ := R5.out.all
          go_simp
          try dsimp only
          have hN := And.intro (((hH.1.far (a := ⟨w.heap.size + 1, 0, none⟩) (by show bf ≠ w.heap.size + 1; have := n1.out; omega) (.int .i64 R)).far (a := ⟨w.heap.size + 1, 1, none⟩) (by show bf ≠ w.heap.size + 1; have := n1.out; omega) (.int .i64 j)).far (a := ⟨w.heap.size + 1, 2, none⟩) (by show bf ≠ w.heap.size + 1; have := n1.out; omega) (.slice qa L ma)) (((hH.2.far (a := ⟨w.heap.size + 1, 0, none⟩) (by show ba ≠ w.heap.size + 1; have := n1.out; have := n2.out; omega) (.int .i64 R)).far (a := ⟨w.heap.size + 1, 1, none⟩) (by show ba ≠ w.heap.size + 1; have := n1.out; have := n2.out; omega) (.int .i64 j)).far (a := ⟨w.heap.size + 1, 2, none⟩) (by show ba ≠ w.heap.size + 1; have := n1.out; have := n2.out; omega) (.slice qa L ma))
          have R6 := Lib.hid (((R5.out.set0 (.int .i64 R)).set1 (.int .i64 j)).set2 (.slice qa L ma))
          have Q6 := Lib.hid (((Q5.out.far (a := ⟨w.heap.size + 1, 0, none⟩) (by show w.heap.size + 2 ≠ w.heap.size + 1; omega) (.int .i64 R)).far (a := ⟨w.heap.size + 1, 1, none⟩) (by show w.heap.size + 2 ≠ w.heap.size + 1; omega) (.int .i64 j)).far (a := ⟨w.heap.size + 1, 2, none⟩) (by show w.heap.size + 2 ≠ w.heap.size + 1; omega) (.slice qa L ma))
          have B6 := Lib.hid (((B5.out.setCell (p := ⟨w.heap.size + 1, 0, none⟩) (by show w.heap.size ≤ w.heap.size + 1; omega) (.int .i64 R)).setCell (p := ⟨w.heap.size + 1, 1, none⟩) (by show w.heap.size ≤ w.heap.size + 1; omega) (.int .i64 j)).setCell (p := ⟨w.heap.size + 1, 2, none⟩) (by show w.heap.size ≤ w.heap.size + 1; omega) (.slice qa L ma))
          have IA6 := Lib.hid (IA5.out.setA (b := w.heap.size + 1) (IA5.out.ne_box R5.out) (.int .i64 R) (.int .i64 j) (.slice qa L ma))
          have IU6 := Lib.hid (IU5.out.setA (b := w.heap.size + 1) (IU5.out.ne_box R5.out) (.int .i64 R) (.int .i64 j) (.slice qa L ma))
          refine hK.out _ _ (fun _ => hN) ?_
          clear hK K r0 r1 r2 f0 f1 f2 hH R5 Q5 B5 IA5 IU5
          try simp only [Act.put, List.setIfInBounds_toArray, List.set_cons_zero, List.set_cons_succ]
          try simp only [show w.heap.size + 1 + 1 = w.heap.size + 2 from rfl]
          generalize (((v0.setCell ⟨w.heap.size + 1, 0, none⟩ (.int .i64 R)).setCell ⟨w.heap.size + 1, 1, none⟩ (.int .i64 j)).setCell ⟨w.heap.size + 1, 2, none⟩ (.slice qa L ma)) = v0 at hN R6 Q6 B6 IA6 IU6 ⊢
          have hH := hN
          have R5 := R6
          have Q5 := Q6
          have B5 := B6
          have IA5 := IA6
          have IU5 := IU6
          clear hN R6 Q6 B6 IA6 IU6
          refine wpAnyT_ready (rs := [1]) (by kernel_rfl) (by simp) ?_
          refine AllReadyT.cons (by simp only [List.getElem?_toArray, List.getElem?_cons_succ, List.getElem?_cons_zero]; rfl) (fun K hK => ?_) AllReadyT.nil
          obtain ⟨k1, k2, k3, -, -, -⟩ := hH.2.all
          go_simp
          try dsimp only
          refine hK.out _ _ (fun _ => hH) ?_
          clear hK K k1 k2 k3
          try simp only [Act.put, List.setIfInBounds_toArray, List.set_cons_zero, List.set_cons_succ]
          refine wpAnyT_ready (rs := [3]) (by kernel_rfl) (by simp) ?_
          refine AllReadyT.cons (by simp only [List.getElem?_toArray, List.getElem?_cons_succ, List.getElem?_cons_zero]; rfl) (fun K hK => ?_) AllReadyT.nil
          obtain ⟨r0, r1, r2, f0, f1, f2⟩ := Q5.out.all
          go_simp
          try dsimp only
          have hN := And.intro (((hH.1.far (a := ⟨w.heap.size + 2, 0, none⟩) (by show bf ≠ w.heap.size + 2; have := n1.out; omega) (.int .i64 R)).far (a := ⟨w.heap.size + 2, 1, none⟩) (by show bf ≠ w.heap.size + 2; have := n1.out; omega) (.int .i64 R)).far (a := ⟨w.heap.size + 2, 2, none⟩) (by show bf ≠ w.heap.size + 2; have := n1.out; omega) (.slice qu LU mu)) (((hH.2.far (a := ⟨w.heap.size + 2, 0, none⟩) (by show ba ≠ w.heap.size + 2; have := n1.out; have := n2.out; omega) (.int .i64 R)).far (a := ⟨w.heap.size + 2, 1, none⟩) (by show ba ≠ w.heap.size + 2; have := n1.out; have := n2.out; omega) (.int .i64 R)).far (a := ⟨w.heap.size + 2, 2, none⟩) (by show ba ≠ w.heap.size + 2; have := n1.out; have := n2.out; omega) (.slice qu LU mu))
          have R6 := Lib.hid (((R5.out.far (a := ⟨w.heap.size + 2, 0, none⟩) (by show w.heap.size + 1 ≠ w.heap.size + 2; omega) (.int .i64 R)).far (a := ⟨w.heap.size + 2, 1, none⟩) (by show w.heap.size + 1 ≠ w.heap.size + 2; omega) (.int .i64 R)).far (a := ⟨w.heap.size + 2, 2, none⟩) (by show w.heap.size + 1 ≠ w.heap.size + 2; omega) (.slice qu LU mu))
          have Q6 := Lib.hid (((Q5.out.set0 (.int .i64 R)).set1 (.int .i64 R)).set2 (.slice qu LU mu))
          have B6 := Lib.hid (((B5.out.setCell (p := ⟨w.heap.size + 2, 0, none⟩) (by show w.heap.size ≤ w.heap.size + 2; omega) (.int .i64 R)).setCell (p := ⟨w.heap.size + 2, 1, none⟩) (by show w.heap.size ≤ w.heap.size + 2; omega) (.int .i64 R)).setCell (p := ⟨w.heap.size + 2, 2, none⟩) (by show w.heap.size ≤ w.heap.size + 2; omega) (.slice qu LU mu))
          have IA6 := Lib.hid (IA5.out.setA (b := w.heap.size + 2) (IA5.out.ne_box Q5.out) (.int .i64 R) (.int .i64 R) (.slice qu LU mu))
          have IU6 := Lib.hid (IU5.out.setA (b := w.heap.size + 2) (IU5.out.ne_box Q5.out) (.int .i64 R) (.int .i64 R) (.slice qu LU mu))
          refine hK.out _ _ (fun _ => hN) ?_
          clear hK K r0 r1 r2 f0 f1 f2 hH R5 Q5 B5 IA5 IU5
          try simp only [Act.put, List.setIfInBounds_toArray, List.set_cons_zero, List.set_cons_succ]
          try simp only [show w.heap.size + 1 + 1 = w.heap.size + 2 from rfl]
          generalize (((v0.setCell ⟨w.heap.size + 2, 0, none⟩ (.int .i64 R)).setCell ⟨w.heap.size + 2, 1, none⟩ (.int .i64 R)).setCell ⟨w.heap.size + 2, 2, none⟩ (.slice qu LU mu)) = v0 at hN R6 Q6 B6 IA6 IU6 ⊢
          have hH := hN
          have R5 := R6
          have Q5 := Q6
          have B5 := B6
          have IA5 := IA6
          have IU5 := IU6
          clear hN R6 Q6 B6 IA6 IU6
          refine wpAnyT_ready (rs := [4]) (by kernel_rfl) (by simp) ?_
          refine AllReadyT.cons (by simp only [List.getElem?_toArray, List.getElem?_cons_succ, List.getElem?_cons_zero]; rfl) (fun K hK => ?_) AllReadyT.nil
          go_simp
          try dsimp only
          refine hK.out _ _ (fun _ => hH) ?_
          clear hK K
          try simp only [Act.put, List.setIfInBounds_toArray, List.set_cons_zero, List.set_cons_succ]
          refine wpAnyT_done (by kernel_rfl) ?_ _
          go_wp2_with fail
          obtain ⟨E0, E1, E2, -, -, -⟩ := R5.out.all
          obtain ⟨E3, E4, E5, -, -, -⟩ := Q5.out.all
          refine bodyPost_ret (v := .tuple #[.agg #[.int .i64 R, .int .i64 j, .slice qa L ma], .agg #[.int .i64 R, .int .i64 R, .slice qu LU mu], .bool true]) (by simp [results, Try.results37, go_sem, E0, E1, E2, E3, E4, E5]) rfl ?_
          rw [V.out]
          exact ⟨.slice qa L ma, .slice qu LU mu, rfl, IA5.out, IU5.out, DF.out, B5.out⟩
      obtain ⟨mk, hmk⟩ : ∃ mk, C - j = mk + 1 := ⟨C - j - 1, by omega⟩
      have EX : Hid (X = allF R C (mk + 1) j t s) := by rw [← hmk]; exact EX.out
      have EM : Hid (C - (j + 1) = mk) := by show _ = _; omega
      clear hmk
      obtain ⟨qa, qu, ma, mu, hV⟩ := WS.out.ac
      have PV1 := Lib.hid (PVC.out bf ba bx t j s wr qa qu ma mu hV ht hjC)
      obtain ⟨b0, b1, b2, -, -, -⟩ := hV.kf.all
      clear hV
      rcases leastS_says R C j t s ht with ⟨hl, hz⟩ | ⟨p, hL⟩
      · have EX : Hid (X = allF R C mk (j + 1) t s) := by
          refine Lib.hid ?_
          rw [EX.out]
          by_cases htR : t < R
          · exact all_some htR (col_skip hl)
          · rw [all_full htR, all_full htR]
        have I2 := Lib.hid (IN.out.skip hjC hz)
        rw [hx_none ht hz] at PV1
        clear hl hz
        go_wp2_with fail
        refine PV1.out.mono ?_
        rintro e w5 ⟨rfl, hb⟩
        have W5 := Lib.hid (WS.out.step hb)
        clear hb PV1 WS b0 b1 b2
        go_wp2_with fail
        go_roundw
        case rel => exact ⟨j + 1, t, s, q, rfl, by go_num, ht, by omega, FN.out, I2.out, by rw [EM.out]; exact EX.out, W5.out⟩
        case measure => simp [intOf]; omega
      · have htR : t < R := by have := hL.2.1; have := hL.2.2.1; omega
        obtain ⟨k0, hk0⟩ := hx_some hL.2.2.1 hL.2.1 hL.2.2.2.1
        rw [hk0] at PV1
        have LP := Lib.hid hL
        have n5 : ¬ (k0 : Int) < 0 := by omega
        clear hk0 hL
        go_wp2_with fail
        refine PV1.out.mono ?_
        rintro e w5 ⟨rfl, hb⟩
        have W5 := Lib.hid (WS.out.step hb)
        clear hb PV1 WS b0 b1 b2
        have PT1 := Lib.hid (PVT.out bf ba bx M q t j p s w5 W5.out FN.out IN.out htR hjC LP.out)
        obtain ⟨o, ho⟩ : ∃ o, colF R C j t s = o := ⟨_, rfl⟩
        rw [ho] at PT1
        have CN : Hid (o = none → X = none) := fun h9 => by rw [EX.out]; exact all_none htR (ho.trans h9)
        have CO : Hid (∀ s1, o = some (s1, t + 1) → X = allF R C mk (j + 1) (t + 1) s1 ∧ Fin2 R C M s1 ∧ ∃ q', HInv R C (mxC C s1.1) q' (t + 1) (j + 1)) := fun s1 h9 => ⟨by rw [EX.out]; exact all_some htR (ho.trans h9), colF_says FN.out IN.out hjC htR (ho.trans h9)⟩
        clear ho
        obtain ⟨a0, a1, -, -⟩ := W5.out.pt.all
        go_wp2_with fail
        refine PT1.out.mono ?_
        rintro e w6 ⟨hf, hr⟩
        rcases hr with ⟨s1, hs, rfl, hA⟩ | ⟨hs, rfl⟩
        · obtain ⟨e1, e2, q2, e3⟩ := CO.out s1 hs
          have X1 := Lib.hid e1
          have F1 := Lib.hid e2
          have I1 := Lib.hid e3
          have W6 := Lib.hid (W5.out.box n1.out n2.out s6.out hf hA)
          clear e1 e2 e3 hf hA hs PT1 W5 a0 a1 n5 CN CO
          go_wp2_with fail
          go_roundw
          case rel => exact ⟨j + 1, t + 1, s1, q2, by go_num, by go_num, by omega, by omega, F1.out, I1.out, by rw [EM.out]; exact X1.out, W6.out⟩
          case measure => simp [intOf]; omega
        · have V := Lib.hid (CN.out hs)
          obtain ⟨h1, h2, h3⟩ := W5.out.res n1.out n2.out hf
          have R6 := Lib.hid h1
          have Q6 := Lib.hid h2
          have B6 := Lib.hid h3
          clear hf hs PT1 W5 a0 a1 n5 CN CO h1 h2 h3
          obtain ⟨r0, r1, r2, f0, f1, f2⟩ := R6.out.all
          obtain ⟨e0, e1, e2, l0, l1, l2⟩ := Q6.out.all
          go_wp2_with fail
          obtain ⟨E0, E1, E2, -, -, -⟩ := ((((((R6.out.set0 (.int .i64 0)).set1 (.int .i64 0)).set2 (.slice none 0 0)).far (a := ⟨w.heap.size + 2, 0, none⟩) (by show _ ≠ _; simp) (.int .i64 0)).far (a := ⟨w.heap.size + 2, 1, none⟩) (by show _ ≠ _; simp) (.int .i64 0)).far (a := ⟨w.heap.size + 2, 2, none⟩) (by show _ ≠ _; simp) (.slice none 0 0)).all
          obtain ⟨E3, E4, E5, -, -, -⟩ := ((((((Q6.out.far (a := ⟨w.heap.size + 1, 0, none⟩) (by show _ ≠ _; simp) (.int .i64 0)).far (a := ⟨w.heap.size + 1, 1, none⟩) (by show _ ≠ _; simp) (.int .i64 0)).far (a := ⟨w.heap.size + 1, 2, none⟩) (by show _ ≠ _; simp) (.slice none 0 0)).set0 (.int .i64 0)).set1 (.int .i64 0)).set2 (.slice none 0 0)).all
          refine bodyPost_ret (v := .tuple #[.agg #[.int .i64 0, .int .i64 0, .slice none 0 0], .agg #[.int .i64 0, .int .i64 0, .slice none 0 0], .bool false]) (by simp [results, Try.results37, go_sem, E0, E1, E2, E3, E4, E5]) rfl ?_
          rw [V.out]
          refine ⟨_, _, rfl, .inl ⟨rfl, rfl⟩, .inl ⟨rfl, rfl⟩, fun k hk => by simp [Value.ownBlock] at hk, ?_⟩
          exact (((((B6.out.setCell (by show w.heap.size ≤ w.heap.size + 1; omega) _).setCell (by show w.heap.size ≤ w.heap.size + 1; omega) _).setCell (by show w.heap.size ≤ w.heap.size + 1; omega) _).setCell (by show w.heap.size ≤ w.heap.size + 2; omega) _).setCell (by show w.heap.size ≤ w.heap.size + 2; omega) _).setCell (by show w.heap.size ≤ w.heap.size + 2; omega) _
end Go.Proofs.Ytpelnfenfeoeeaa
end
