/-
  Texts of this seat, joined: ZCHiX · ZCHmC · ZCIhI · ZCHmI · ZCFoldM · ZCMatI9 · ZCSwR · ZCNumGcd · ZCClI · ZCEcI · ZCEcJ · ZCErI
-/
import Derived.StillTailTactics
import Derived.IntWalk
import Derived.Deep.RegionHeld3
import Derived.BigQuiet
import Derived.Test.YtpelnfenfeoeeaaPk48
import Derived.Test.YtpelnfenfeoeeaaPk49
import Derived.Test.YtpelnfenfeoeeaaPk50
import Derived.Test.YtpelnfenfeoeeaaPk51
import Derived.Test.YtpelnfenfeoeeaaPk52
import Derived.Test.YtpelnfenfeoeeaaPk54

section
/-
  Chapter 12, in the program: HermiteForm.
-/
namespace Go.Proofs.Ytpelnfenfeoeeaa
set_option maxRecDepth 100000
open Go.RowKit
theorem Own.cel {B : Nat} {w : World} {q : Option Addr} {n m : Nat} {zs : List Int} (h : Own B w (.slice q n m) zs) : ∃ g, Cel w q n m g zs := by
  rcases h with ⟨e, h0⟩ | ⟨g, c, e, -, hi, hl, -⟩
  · injection e with e1 e2 e3
    exact ⟨0, .inl ⟨e1, e3, e2, h0⟩⟩
  · injection e with e1 e2 e3
    subst e1 e2 e3
    exact ⟨g, .inr ⟨rfl, hl, rfl, hi⟩⟩
theorem hx_none {R C j t : Nat} {s : HSt} (ht : t ≤ R) (hz : ∀ i, t ≤ i → i < R → celS C s i j = 0) : pvR R C j t s.1 = -1 := by
  unfold pvR
  rw [if_pos (fstR_eq ht (by omega) hz (fun h => by omega))]
theorem hx_some {R C j t p : Nat} {s : HSt} (hp : p < R) (htp : t ≤ p) (hz : celS C s p j ≠ 0) : ∃ k : Nat, pvR R C j t s.1 = k := by
  obtain ⟨-, -, f3, -⟩ := fstR_says (c := C) (j := j) (xs := s.1) (k := R - t) (p := t)
  unfold pvR
  rw [if_neg fun e => hz (f3 p htp (by omega))]
  exact ⟨_, rfl⟩
structure HxM (R C na nu bf ba bx : Nat) (w : World) (s : HSt) (wq : World) : Prop where
  ac : AcW R C na nu bf ba w.heap.size s wq
  pt : Blk2 wq bx 93 (.pointer (some ⟨bf, 0, none⟩)) (.pointer (some ⟨ba, 0, none⟩))
  r1 : Blk3 wq (w.heap.size + 1) 26 (.int .i64 0) (.int .i64 0) (.slice none 0 0)
  r2 : Blk3 wq (w.heap.size + 2) 26 (.int .i64 0) (.int .i64 0) (.slice none 0 0)
  be : Below w.heap.size w wq
theorem HxM.step {R C na nu bf ba bx : Nat} {w wq w' : World} {s : HSt} (h : HxM R C na nu bf ba bx w s wq) (hb : Below wq.heap.size wq w') : HxM R C na nu bf ba bx w s w' :=
  ⟨h.ac.step hb, h.pt.keep hb h.pt.lt, h.r1.keep hb h.r1.lt, h.r2.keep hb h.r2.lt, h.be.trans (hb.mono h.be.size)⟩
theorem HxM.box {R C na nu bf ba bx : Nat} {w wq w' : World} {s s' : HSt} (h : HxM R C na nu bf ba bx w s wq) (h1 : w.heap.size + 2 < bf) (h2 : bf < ba) (h3 : ba < bx) (hf : FrS (fun b => b = bf ∨ b = ba) wq w') (ha : AcW R C na nu bf ba w.heap.size s' w') : HxM R C na nu bf ba bx w s' w' :=
  ⟨ha, (hf.block _ h.pt.lt (by omega)).trans h.pt, h.r1.frs hf (by omega), h.r2.frs hf (by omega), h.be.trans (hf.below (B := w.heap.size) (fun k hk => by omega) h.be.size)⟩
theorem HxM.res {R C na nu bf ba bx : Nat} {w wq w' : World} {s : HSt} (h : HxM R C na nu bf ba bx w s wq) (h1 : w.heap.size + 2 < bf) (h2 : bf < ba) (hf : FrS (fun b => b = bf ∨ b = ba) wq w') :
    Blk3 w' (w.heap.size + 1) 26 (.int .i64 0) (.int .i64 0) (.slice none 0 0) ∧ Blk3 w' (w.heap.size + 2) 26 (.int .i64 0) (.int .i64 0) (.slice none 0 0) ∧ Below w.heap.size w w' :=
  ⟨h.r1.frs hf (by omega), h.r2.frs hf (by omega), h.be.trans (hf.below (B := w.heap.size) (fun k hk => by omega) h.be.size)⟩
set_option maxHeartbeats 8000000 in
theorem iHerm (r c : Int) (a : Option Addr) (m : Nat) (xs : List Int) (w : World) (h : Rd w a xs) (hn : xs.length ≤ 16777216) (_ : Spot a) :
    Calls Try.prog 37 #[.agg #[.int .i64 r, .int .i64 c, .slice a xs.length m]] w (HerG w (herR r c xs)) := by
  have IM : Hid (∀ w', Below w.heap.size w w' → Calls Try.prog 58 #[.agg #[.int .i64 r, .int .i64 c, .slice a xs.length m]] w' (Gives (.bool (isMat r c xs)) w')) := fun w' hb => iIsMat r c a m xs w' (h.below hb) hn
  cases hm : isMat r c xs with
  | false =>
    have RN : Hid (herR r c xs = HR.no) := by show _ = _; unfold herR; rw [if_neg (by rw [hm]; decide)]
    rw [hm] at IM
    generalize herR r c xs = RES at RN ⊢
    generalize xs.length = L at IM ⊢
    clear h hn hm
    go_enter Try.func37, Try.ntmps37
    go_upto_region 1 with fail
    have K0 : Hid (Blk3 (((w.alloc (.cells #[.int .i64 r, .int .i64 c, .slice a L m] 26)).alloc (.cells #[.int .i64 0, .int .i64 0, .slice none 0 0] 26)).alloc (.cells #[.int .i64 0, .int .i64 0, .slice none 0 0] 26)) w.heap.size 26 (.int .i64 r) (.int .i64 c) (.slice a L m)) := ((Blk3.at_ _ _ _ _ rfl).old _).old _
    have R0 : Hid (Blk3 (((w.alloc (.cells #[.int .i64 r, .int .i64 c, .slice a L m] 26)).alloc (.cells #[.int .i64 0, .int .i64 0, .slice none 0 0] 26)).alloc (.cells #[.int .i64 0, .int .i64 0, .slice none 0 0] 26)) (w.heap.size + 1) 26 (.int .i64 0) (.int .i64 0) (.slice none 0 0)) := (Blk3.at_ _ _ _ _ (by simp)).old _
    have Q0 : Hid (Blk3 (((w.alloc (.cells #[.int .i64 r, .int .i64 c, .slice a L m] 26)).alloc (.cells #[.int .i64 0, .int .i64 0, .slice none 0 0] 26)).alloc (.cells #[.int .i64 0, .int .i64 0, .slice none 0 0] 26)) (w.heap.size + 2) 26 (.int .i64 0) (.int .i64 0) (.slice none 0 0)) := Blk3.at_ _ _ _ _ (by simp)
    have B0 : Hid (Below w.heap.size w (((w.alloc (.cells #[.int .i64 r, .int .i64 c, .slice a L m] 26)).alloc (.cells #[.int .i64 0, .int .i64 0, .slice none 0 0] 26)).alloc (.cells #[.int .i64 0, .int .i64 0, .slice none 0 0] 26))) := (((Below.refl _ _).alloc (Nat.le_refl _) _).alloc (by simp) _).alloc (by simp; omega) _
    have S0 : Hid ((((w.alloc (.cells #[.int .i64 r, .int .i64 c, .slice a L m] 26)).alloc (.cells #[.int .i64 0, .int .i64 0, .slice none 0 0] 26)).alloc (.cells #[.int .i64 0, .int .i64 0, .slice none 0 0] 26)).heap.size = w.heap.size + 3) := by show _ = _; simp
    generalize ((w.alloc (.cells #[.int .i64 r, .int .i64 c, .slice a L m] 26)).alloc (.cells #[.int .i64 0, .int .i64 0, .slice none 0 0] 26)).alloc (.cells #[.int .i64 0, .int .i64 0, .slice none 0 0] 26) = W0 at K0 R0 Q0 B0 S0 ⊢
    obtain ⟨p0, p1, p2, -, -, -⟩ := K0.out.all
    go_wp2_with fail
    refine (IM.out _ B0.out).mono ?_
    rintro e w1 ⟨rfl, hb⟩
    have R1 := Lib.hid (R0.out.step hb)
    have R2 := Lib.hid (Q0.out.step hb)
    have B1 := Lib.hid (B0.out.trans (hb.mono (by have := S0.out; omega)))
    clear hb p0 p1 p2 K0 R0 Q0 B0
    obtain ⟨r0, r1, r2, f0, f1, f2⟩ := R1.out.all
    obtain ⟨e0, e1, e2, l0, l1, l2⟩ := R2.out.all
    go_wp2_with fail
    obtain ⟨E0, E1, E2, -, -, -⟩ := ((((((R1.out.set0 (.int .i64 0)).set1 (.int .i64 0)).set2 (.slice none 0 0)).far (a := ⟨w.heap.size + 2, 0, none⟩) (by show _ ≠ _; simp) (.int .i64 0)).far (a := ⟨w.heap.size + 2, 1, none⟩) (by show _ ≠ _; simp) (.int .i64 0)).far (a := ⟨w.heap.size + 2, 2, none⟩) (by show _ ≠ _; simp) (.slice none 0 0)).all
    obtain ⟨E3, E4, E5, -, -, -⟩ := ((((((R2.out.far (a := ⟨w.heap.size + 1, 0, none⟩) (by show _ ≠ _; simp) (.int .i64 0)).far (a := ⟨w.heap.size + 1, 1, none⟩) (by show _ ≠ _; simp) (.int .i64 0)).far (a := ⟨w.heap.size + 1, 2, none⟩) (by show _ ≠ _; simp) (.slice none 0 0)).set0 (.int .i64 0)).set1 (.int .i64 0)).set2 (.slice none 0 0)).all
    refine bodyPost_ret (v := .tuple #[.agg #[.int .i64 0, .int .i64 0, .slice none 0 0], .agg #[.int .i64 0, .int .i64 0, .slice none 0 0], .bool false]) (by simp [results, Try.results37, go_sem, E0, E1, E2, E3, E4, E5]) rfl ?_
    rw [RN.out]
    refine ⟨_, _, rfl, .inl ⟨rfl, rfl⟩, .inl ⟨rfl, rfl⟩, fun k hk => by simp [Value.ownBlock] at hk, ?_⟩
    exact (((((B1.out.setCell (by show w.heap.size ≤ w.heap.size + 1; omega) _).setCell (by show w.heap.size ≤ w.heap.size + 1; omega) _).setCell (by show w.heap.size ≤ w.heap.size + 1; omega) _).setCell (by show w.heap.size ≤ w.heap.size + 2; omega) _).setCell (by show w.heap.size ≤ w.heap.size + 2; omega) _).setCell (by show w.heap.size ≤ w.heap.size + 2; omega) _
  | true =>
    obtain ⟨⟨r0, r1⟩, ⟨c0, c1⟩, hl, nx⟩ := isMat_says hm
    obtain ⟨R, rfl⟩ := Int.eq_ofNat_of_zero_le r0
    obtain ⟨C, rfl⟩ := Int.eq_ofNat_of_zero_le c0
    have hl : xs.length = R * C := by rw [← Int.natCast_mul] at hl; omega
    have R24 : R ≤ 24 := by omega
    have C24 : C ≤ 24 := by omega
    have hbd : R * C ≤ 24 * 24 := Nat.mul_le_mul R24 C24
    have hbu : R * R ≤ 24 * 24 := Nat.mul_le_mul R24 R24
    have RS : Hid (herR R C xs = HR.of R C (herX R C xs)) := by show _ = _; unfold herR; rw [if_pos hm]; rfl
    have CP : Hid (∀ w', Below w.heap.size w w' → Calls Try.prog 60 #[.agg #[.int .i64 R, .int .i64 C, .slice a xs.length m]] w' (CopyM R C xs.length xs w')) := fun w' hb => iCopyOf R C a m xs.length xs rfl w' (h.below hb) hn
    have ID : Hid (∀ w', Calls Try.prog 59 #[.int .i64 R] w' (MatRes ⟨true, R, R, idL R R⟩ w')) := fun w' => iIdent_t R w' R24
    have PVT : Hid (∀ (bf ba bx : Nat) (M : Mx) (q : Nat → Nat) (t j p : Nat) (s : HSt) wq, HxM R C (R * C) (R * R) bf ba bx w s wq → Fin2 R C M s → HInv R C (mxC C s.1) q t j → t < R → j < C → LeastP R C j t s p → Calls Try.prog 90 #[.agg #[.pointer (some ⟨bf, 0, none⟩), .pointer (some ⟨ba, 0, none⟩)], .int .i64 t, .int .i64 j] wq (PvRes R C (R * C) (R * R) bf ba w.heap.size t (colF R C j t s) wq)) := fun bf ba bx M q t j p s wq h1 h2 h3 h4 h5 h6 => iPivot R C (R * C) (R * R) bf ba w.heap.size t j p s q M wq h1.ac R24 C24 rfl rfl h1.be.size h2 h3 h4 h5 h6
    have PVC : Hid (∀ (bf ba bx : Nat) (t j : Nat) (s : HSt) wq qa qu ma mu, AcV R C (R * C) (R * R) bf ba w.heap.size s qa qu ma mu wq → t ≤ R → j < C → Calls Try.prog 89 #[.agg #[.int .i64 R, .int .i64 C, .slice qa (R * C) ma], .int .i64 t, .int .i64 j] wq (Gives (.int .i64 (pvR R C j t s.1)) wq)) := fun bf ba bx t j s wq qa qu ma mu h1 h2 h3 => by
      obtain ⟨g, hg⟩ := h1.fA.cel
      exact iPivR R C t j (R * C) ma g qa s.1 wq rfl R24 C24 h2 h3 hg
    have F0 := Lib.hid (herX_start hl nx)
    have H0 : Hid (HInv R C (mxC C xs) (fun _ => 0) 0 0) := HInv.start _ _ _ _
    have X0 : Hid (herX R C xs = allF R C (C - 0) 0 0 (xs, idL R R)) := rfl
    rw [hm] at IM
    rw [RS.out]
    obtain ⟨X, hX⟩ : ∃ X, herX R C xs = X := ⟨_, rfl⟩
    rw [hX] at X0 ⊢
    obtain ⟨L, hL⟩ : ∃ L, R * C = L := ⟨_, rfl⟩
    obtain ⟨LU, hLU⟩ : ∃ LU, R * R = LU := ⟨_, rfl⟩
    rw [hl, hL] at IM CP ⊢
    rw [hL, hLU] at PVT PVC
    have HLU : Hid ((idL R R).length = LU) := by show _ = _; rw [idL_length, hLU]
    have XL : Hid (xs.length = L) := by show _ = _; rw [hl, hL]
    clear h hn hm r0 r1 c0 c1 hl nx RS hL hLU hX hbd hbu
    go_enter Try.func37, Try.ntmps37
    go_upto_region 1 with fail
    have K0 : Hid (Blk3 (((w.alloc (.cells #[.int .i64 R, .int .i64 C, .slice a L m] 26)).alloc (.cells #[.int .i64 0, .int .i64 0, .slice none 0 0] 26)).alloc (.cells #[.int .i64 0, .int .i64 0, .slice none 0 0] 26)) w.heap.size 26 (.int .i64 R) (.int .i64 C) (.slice a L m)) := ((Blk3.at_ _ _ _ _ rfl).old _).old _
    have R0 : Hid (Blk3 (((w.alloc (.cells #[.int .i64 R, .int .i64 C, .slice a L m] 26)).alloc (.cells #[.int .i64 0, .int .i64 0, .slice none 0 0] 26)).alloc (.cells #[.int .i64 0, .int .i64 0, .slice none 0 0] 26)) (w.heap.size + 1) 26 (.int .i64 0) (.int .i64 0) (.slice none 0 0)) := (Blk3.at_ _ _ _ _ (by simp)).old _
    have Q0 : Hid (Blk3 (((w.alloc (.cells #[.int .i64 R, .int .i64 C, .slice a L m] 26)).alloc (.cells #[.int .i64 0, .int .i64 0, .slice none 0 0] 26)).alloc (.cells #[.int .i64 0, .int .i64 0, .slice none 0 0] 26)) (w.heap.size + 2) 26 (.int .i64 0) (.int .i64 0) (.slice none 0 0)) := Blk3.at_ _ _ _ _ (by simp)
    have B0 : Hid (Below w.heap.size w (((w.alloc (.cells #[.int .i64 R, .int .i64 C, .slice a L m] 26)).alloc (.cells #[.int .i64 0, .int .i64 0, .slice none 0 0] 26)).alloc (.cells #[.int .i64 0, .int .i64 0, .slice none 0 0] 26))) := (((Below.refl _ _).alloc (Nat.le_refl _) _).alloc (by simp) _).alloc (by simp; omega) _
    have S0 : Hid ((((w.alloc (.cells #[.int .i64 R, .int .i64 C, .slice a L m] 26)).alloc (.cells #[.int .i64 0, .int .i64 0, .slice none 0 0] 26)).alloc (.cells #[.int .i64 0, .int .i64 0, .slice none 0 0] 26)).heap.size = w.heap.size + 3) := by show _ = _; simp
    generalize ((w.alloc (.cells #[.int .i64 R, .int .i64 C, .slice a L m] 26)).alloc (.cells #[.int .i64 0, .int .i64 0, .slice none 0 0] 26)).alloc (.cells #[.int .i64 0, .int .i64 0, .slice none 0 0] 26) = W0 at K0 R0 Q0 B0 S0 ⊢
    obtain ⟨p0, p1, p2, -, -, -⟩ := K0.out.all
    go_wp2_with fail
    refine (IM.out _ B0.out).mono ?_
    rintro e w1 ⟨rfl, hb⟩
    have K1 := Lib.hid (K0.out.step hb)
    have R1 := Lib.hid (R0.out.step hb)
    have Q1 := Lib.hid (Q0.out.step hb)
    have B1 := Lib.hid (B0.out.trans (hb.mono (by have := S0.out; omega)))
    have s1 : w.heap.size + 3 ≤ w1.heap.size := by have := S0.out; have := hb.size; omega
    clear hb p0 p1 p2 K0 R0 Q0 B0 S0
    obtain ⟨p0, p1, p2, -, -, -⟩ := K1.out.all
    go_wp2_with fail
    refine (CP.out _ B1.out).mono ?_
    rintro e w2 ⟨qa, ca, rfl, own, hb⟩
    have K2 := Lib.hid ((K1.out.step hb).old (.cells #[.int .i64 R, .int .i64 C, .slice qa L ca] 26))
    have R2 := Lib.hid ((R1.out.step hb).old (.cells #[.int .i64 R, .int .i64 C, .slice qa L ca] 26))
    have Q2 := Lib.hid ((Q1.out.step hb).old (.cells #[.int .i64 R, .int .i64 C, .slice qa L ca] 26))
    have A2 : Hid (Blk3 (w2.alloc (.cells #[.int .i64 R, .int .i64 C, .slice qa L ca] 26)) w2.heap.size 26 (.int .i64 R) (.int .i64 C) (.slice qa L ca)) := Blk3.at_ _ _ _ _ rfl
    have O2 := Lib.hid ((own.keep ((Below.refl _ _).alloc (Nat.le_refl _) (.cells #[.int .i64 R, .int .i64 C, .slice qa L ca] 26))).le (show w.heap.size ≤ _ by omega))
    have B2 := Lib.hid ((B1.out.trans (hb.mono (by omega))).alloc (by have := hb.size; omega) (.cells #[.int .i64 R, .int .i64 C, .slice qa L ca] 26))
    have s2 : w.heap.size + 3 ≤ w2.heap.size := by have := hb.size; omega
    clear hb own K1 R1 Q1 B1 p0 p1 p2 IM CP s1
    go_upto_region 4 with fail
    obtain ⟨bf, hbf⟩ : ∃ b, w2.heap.size = b := ⟨_, rfl⟩
    rw [hbf] at A2 s2 ⊢
    have s3 : Hid ((w2.alloc (.cells #[.int .i64 R, .int .i64 C, .slice qa L ca] 26)).heap.size = bf + 1) := by show _ = _; simp [hbf]
    generalize w2.alloc (.cells #[.int .i64 R, .int .i64 C, .slice qa L ca] 26) = W2 at K2 R2 Q2 A2 O2 B2 s3 ⊢
    clear hbf
    obtain ⟨p0, p1, p2, -, -, -⟩ := K2.out.all
    go_wp2_with fail
    refine (ID.out _).mono ?_
    rintro e w3 ⟨v, rfl, own, hb⟩
    dsimp only at own ⊢
    obtain ⟨qu, cu, rfl, -, -⟩ := own.form
    rw [HLU.out] at own ⊢
    have K3 := Lib.hid ((K2.out.step hb).old (.cells #[.int .i64 R, .int .i64 R, .slice qu LU cu] 26))
    have R3 := Lib.hid ((R2.out.step hb).old (.cells #[.int .i64 R, .int .i64 R, .slice qu LU cu] 26))
    have Q3 := Lib.hid ((Q2.out.step hb).old (.cells #[.int .i64 R, .int .i64 R, .slice qu LU cu] 26))
    have A3 := Lib.hid ((A2.out.step hb).old (.cells #[.int .i64 R, .int .i64 R, .slice qu LU cu] 26))
    have U3 : Hid (Blk3 (w3.alloc (.cells #[.int .i64 R, .int .i64 R, .slice qu LU cu] 26)) w3.heap.size 26 (.int .i64 R) (.int .i64 R) (.slice qu LU cu)) := Blk3.at_ _ _ _ _ rfl
    have DF : Hid (∀ k, (Value.slice qa L ca).ownBlock = some k → (Value.slice qu LU cu).ownBlock ≠ some k) := fun k hk e => by
      have h1 := O2.out.lt_of hk
      have h2 := own.lt_of e
      omega
    have O3 := Lib.hid ((O2.out.keep hb).keep ((Below.refl _ _).alloc (Nat.le_refl _) (.cells #[.int .i64 R, .int .i64 R, .slice qu LU cu] 26)))
    have N3 := Lib.hid ((own.keep ((Below.refl _ _).alloc (Nat.le_refl _) (.cells #[.int .i64 R, .int .i64 R, .slice qu LU cu] 26))).le (show w.heap.size ≤ _ by have := s3.out; omega))
    have B3 := Lib.hid ((B2.out.trans (hb.mono B2.out.size)).alloc (by have := hb.size; have := B2.out.size; omega) (.cells #[.int .i64 R, .int .i64 R, .slice qu LU cu] 26))
    have s4 : bf < w3.heap.size := by have := hb.size; have := s3.out; omega
    clear hb own K2 R2 Q2 A2 O2 B2 p0 p1 p2 ID s3
    go_upto_region 5 with fail
    obtain ⟨ba, hba⟩ : ∃ b, w3.heap.size = b := ⟨_, rfl⟩
    rw [hba] at U3 s4 ⊢
    have s5 : Hid ((w3.alloc (.cells #[.int .i64 R, .int .i64 R, .slice qu LU cu] 26)).heap.size = ba + 1) := by show _ = _; simp [hba]
    generalize w3.alloc (.cells #[.int .i64 R, .int .i64 R, .slice qu LU cu] 26) = W3 at K3 R3 Q3 A3 U3 O3 N3 B3 s5 ⊢
    clear hba
    go_upto_region 6 with fail
    obtain ⟨bx, hbx⟩ : ∃ b, W3.heap.size = b := ⟨_, rfl⟩
    have s6 : Hid (ba < bx) := by show _ < _; have := s5.out; omega
    have PT : Hid (Blk2 (W3.alloc (.cells #[.pointer (some ⟨bf, 0, none⟩), .pointer (some ⟨ba, 0, none⟩)] 93)) bx 93 (.pointer (some ⟨bf, 0, none⟩)) (.pointer (some ⟨ba, 0, none⟩))) := Blk2.at_ _ _ _ hbx.symm
    rw [hbx]
    have nb : Below W3.heap.size W3 (W3.alloc (.cells #[.pointer (some ⟨bf, 0, none⟩), .pointer (some ⟨ba, 0, none⟩)] 93)) := (Below.refl _ _).alloc (Nat.le_refl _) _
    have HX : Hid (HxM R C L LU bf ba bx w (xs, idL R R) (W3.alloc (.cells #[.pointer (some ⟨bf, 0, none⟩), .pointer (some ⟨ba, 0, none⟩)] 93))) :=
      ⟨⟨qa, qu, ca, cu, A3.out.old _, U3.out.old _, O3.out.keep nb, N3.out.keep nb, DF.out, XL.out, HLU.out, by omega⟩, PT.out, R3.out.old _, Q3.out.old _, B3.out.alloc B3.out.size _⟩
    have K4 := Lib.hid (K3.out.old (.cells #[.pointer (some ⟨bf, 0, none⟩), .pointer (some ⟨ba, 0, none⟩)] 93))
    generalize W3.alloc (.cells #[.pointer (some ⟨bf, 0, none⟩), .pointer (some ⟨ba, 0, none⟩)] 93) = W4 at HX K4 ⊢
    have n1 : Hid (w.heap.size + 2 < bf) := by show _ < _; omega
    have n2 : Hid (bf < ba) := s4
    clear K3 R3 Q3 A3 U3 O3 N3 B3 s5 DF PT hbx nb s2 s4
    obtain ⟨p0, p1, p2, -, -, -⟩ := K4.out.all
    obtain ⟨M, hM⟩ : ∃ M, mxC C xs = M := ⟨_, rfl⟩
    rw [hM] at F0
    clear hM
    go_wp2_with fail
    clear p0 p1 p2 K4
    go_loopw [4, 9, 10, 27] (fun _ v9 _ v27 wq => ∃ (j t : Nat) (s : HSt) (q : Nat → Nat), v9 = .int .i64 t ∧ v27 = .int .i64 j ∧ t ≤ R ∧ j ≤ C ∧ Fin2 R C M s ∧ HInv R C (mxC C s.1) q t j ∧ X = allF R C (C - j) j t s ∧ HxM R C L LU bf ba bx w s wq) (fun _ _ _ v27 _ => C - (intOf v27).toNat)
    case atStart => exact ⟨0, 0, (xs, idL R R), fun _ => 0, rfl, rfl, Nat.zero_le _, Nat.zero_le _, F0.out, H0.out, X0.out, HX.out⟩
    case round =>
      clear HX F0 X0 H0
      obtain ⟨j, t, s, q, rfl, rfl, ht, hj, hF, hI, hX, hW⟩ := hrel
      have FN := Lib.hid hF
      have IN := Lib.hid hI
      have EX := Lib.hid hX
      have WS := Lib.hid hW
      clear hF hI hX hW
      by_cases hjC : j < C
      rotate_left
      · obtain rfl : j = C := by omega
        have V : Hid (X = some s) := by refine Lib.hid ?_; rw [EX.out, Nat.sub_self]; rfl
        obtain ⟨qa, qu, ma, mu, hV⟩ := WS.out.ac
        have A4 := Lib.hid hV.kf
        have U4 := Lib.hid hV.ka
        have IA := Lib.hid hV.fA
        have IU := Lib.hid hV.fU
        have DF := Lib.hid hV.df
        have R4 := Lib.hid WS.out.r1
        have Q4 := Lib.hid WS.out.r2
        have B4 := Lib.hid WS.out.be
        clear hV WS EX PVT PVC FN IN
        go_wp2_with fail
        refine wp_region_T (S := fun w' => Blk3 w' bf 26 (.int .i64 R) (.int .i64 j) (.slice qa L ma) ∧ Blk3 w' ba 26 (.int .i64 R) (.int .i64 R) (.slice qu LU mu)) (T := fun _ => false) (by kernel_rfl) ⟨A4.out.drew, U4.out.drew⟩ (fun hH => ?_)
        have R5 := Lib.hid R4.out.drew
        have Q5 := Lib.hid Q4.out.drew
        have B5 := Lib.hid B4.out.drew
        have IA5 := Lib.hid (IA.out.moveA (w' := wr.drew) fun _ _ => rfl)
        have IU5 := Lib.hid (IU.out.moveA (w' := wr.drew) fun _ _ => rfl)
        generalize wr.drew = v0 at hH R5 Q5 B5 IA5 IU5 ⊢
        clear R4 Q4 B4 IA IU A4 U4
        refine wpAnyT_take (i := 0) (v := ?_) (by simp only [List.getElem?_toArray, List.getElem?_cons_zero]; rfl) (by kernel_rfl) (by kernel_rfl) (by kernel_rfl) (by kernel_rfl) (fun _ hj => by cases hj) (by exact fun _ _ _ h => h) (Or.inl ⟨by rfl, ?_⟩) hH ?_
        rotate_left
        · (intro wS hS; (try dsimp only at hS); obtain ⟨k1, k2, k3, -, -, -⟩ := hS.1.all; go_simp; try rfl)
        try simp only [Act.put, List.setIfInBounds_toArray, List.set_cons_zero, List.set_cons_succ]
        refine wpAnyT_ready (rs := [1, 2]) (by kernel_rfl) (by simp) ?_
        refine AllReadyT.cons (by simp only [List.getElem?_toArray, List.getElem?_cons_succ, List.getElem?_cons_zero]; rfl) (fun K hK => ?_) (AllReadyT.cons (by simp only [List.getElem?_toArray, List.getElem?_cons_succ, List.getElem?_cons_zero]; rfl) (fun K hK => ?_) AllReadyT.nil)
        ·
          obtain ⟨k1, k2, k3, -, -, -⟩ := hH.2.all
          go_simp
          try dsimp only
          refine hK.out _ _ (fun _ => hH) ?_
          clear hK K k1 k2 k3
          try simp only [Act.put, List.setIfInBounds_toArray, List.set_cons_zero, List.set_cons_succ]
          refine wpAnyT_ready (rs := [2]) (by kernel_rfl) (by simp) ?_
          refine AllReadyT.cons (by simp only [List.getElem?_toArray, List.getElem?_cons_succ, List.getElem?_cons_zero]; rfl) (fun K hK => ?_) AllReadyT.nil
          obtain ⟨r0, r1, r2, f0, f1, f2⟩ := R5.out.all
          go_simp
          try dsimp only
          have hN := And.intro (((hH.1.far (a := ⟨w.heap.size + 1, 0, none⟩) (by show bf ≠ w.heap.size + 1; have := n1.out; omega) (.int .i64 R)).far (a := ⟨w.heap.size + 1, 1, none⟩) (by show bf ≠ w.heap.size + 1; have := n1.out; omega) (.int .i64 j)).far (a := ⟨w.heap.size + 1, 2, none⟩) (by show bf ≠ w.heap.size + 1; have := n1.out; omega) (.slice qa L ma)) (((hH.2.far (a := ⟨w.heap.size + 1, 0, none⟩) (by show ba ≠ w.heap.size + 1; have := n1.out; have := n2.out; omega) (.int .i64 R)).far (a := ⟨w.heap.size + 1, 1, none⟩) (by show ba ≠ w.heap.size + 1; have := n1.out; have := n2.out; omega) (.int .i64 j)).far (a := ⟨w.heap.size + 1, 2, none⟩) (by show ba ≠ w.heap.size + 1; have := n1.out; have := n2.out; omega) (.slice qa L ma))
          have R6 := Lib.hid (((R5.out.set0 (.int .i64 R)).set1 (.int .i64 j)).set2 (.slice qa L ma))
          have Q6 := Lib.hid (((Q5.out.far (a := ⟨w.heap.size + 1, 0, none⟩) (by show w.heap.size + 2 ≠ w.heap.size + 1; omega) (.int .i64 R)).far (a := ⟨w.heap.size + 1, 1, none⟩) (by show w.heap.size + 2 ≠ w.heap.size + 1; omega) (.int .i64 j)).far (a := ⟨w.heap.size + 1, 2, none⟩) (by show w.heap.size + 2 ≠ w.heap.size + 1; omega) (.slice qa L ma))
          have B6 := Lib.hid (((B5.out.setCell (p := ⟨w.heap.size + 1, 0, none⟩) (by show w.heap.size ≤ w.heap.size + 1; omega) (.int .i64 R)).setCell (p := ⟨w.heap.size + 1, 1, none⟩) (by show w.heap.size ≤ w.heap.size + 1; omega) (.int .i64 j)).setCell (p := ⟨w.heap.size + 1, 2, none⟩) (by show w.heap.size ≤ w.heap.size + 1; omega) (.slice qa L ma))
          have IA6 := Lib.hid (IA5.out.setA (b := w.heap.size + 1) (IA5.out.ne_box R5.out) (.int .i64 R) (.int .i64 j) (.slice qa L ma))
          have IU6 := Lib.hid (IU5.out.setA (b := w.heap.size + 1) (IU5.out.ne_box R5.out) (.int .i64 R) (.int .i64 j) (.slice qa L ma))
          refine hK.out _ _ (fun _ => hN) ?_
          clear hK K r0 r1 r2 f0 f1 f2 hH R5 Q5 B5 IA5 IU5
          try simp only [Act.put, List.setIfInBounds_toArray, List.set_cons_zero, List.set_cons_succ]
          try simp only [show w.heap.size + 1 + 1 = w.heap.size + 2 from rfl]
          generalize (((v0.setCell ⟨w.heap.size + 1, 0, none⟩ (.int .i64 R)).setCell ⟨w.heap.size + 1, 1, none⟩ (.int .i64 j)).setCell ⟨w.heap.size + 1, 2, none⟩ (.slice qa L ma)) = v0 at hN R6 Q6 B6 IA6 IU6 ⊢
          have hH := hN
          have R5 := R6
          have Q5 := Q6
          have B5 := B6
          have IA5 := IA6
          have IU5 := IU6
          clear hN R6 Q6 B6 IA6 IU6
          refine wpAnyT_ready (rs := [3]) (by kernel_rfl) (by simp) ?_
          refine AllReadyT.cons (by simp only [List.getElem?_toArray, List.getElem?_cons_succ, List.getElem?_cons_zero]; rfl) (fun K hK => ?_) AllReadyT.nil
          obtain ⟨r0, r1, r2, f0, f1, f2⟩ := Q5.out.all
          go_simp
          try dsimp only
          have hN := And.intro (((hH.1.far (a := ⟨w.heap.size + 2, 0, none⟩) (by show bf ≠ w.heap.size + 2; have := n1.out; omega) (.int .i64 R)).far (a := ⟨w.heap.size + 2, 1, none⟩) (by show bf ≠ w.heap.size + 2; have := n1.out; omega) (.int .i64 R)).far (a := ⟨w.heap.size + 2, 2, none⟩) (by show bf ≠ w.heap.size + 2; have := n1.out; omega) (.slice qu LU mu)) (((hH.2.far (a := ⟨w.heap.size + 2, 0, none⟩) (by show ba ≠ w.heap.size + 2; have := n1.out; have := n2.out; omega) (.int .i64 R)).far (a := ⟨w.heap.size + 2, 1, none⟩) (by show ba ≠ w.heap.size + 2; have := n1.out; have := n2.out; omega) (.int .i64 R)).far (a := ⟨w.heap.size + 2, 2, none⟩) (by show ba ≠ w.heap.size + 2; have := n1.out; have := n2.out; omega) (.slice qu LU mu))
          have R6 := Lib.hid (((R5.out.far (a := ⟨w.heap.size + 2, 0, none⟩) (by show w.heap.size + 1 ≠ w.heap.size + 2; omega) (.int .i64 R)).far (a := ⟨w.heap.size + 2, 1, none⟩) (by show w.heap.size + 1 ≠ w.heap.size + 2; omega) (.int .i64 R)).far (a := ⟨w.heap.size + 2, 2, none⟩) (by show w.heap.size + 1 ≠ w.heap.size + 2; omega) (.slice qu LU mu))
          have Q6 := Lib.hid (((Q5.out.set0 (.int .i64 R)).set1 (.int .i64 R)).set2 (.slice qu LU mu))
          have B6 := Lib.hid (((B5.out.setCell (p := ⟨w.heap.size + 2, 0, none⟩) (by show w.heap.size ≤ w.heap.size + 2; omega) (.int .i64 R)).setCell (p := ⟨w.heap.size + 2, 1, none⟩) (by show w.heap.size ≤ w.heap.size + 2; omega) (.int .i64 R)).setCell (p := ⟨w.heap.size + 2, 2, none⟩) (by show w.heap.size ≤ w.heap.size + 2; omega) (.slice qu LU mu))
          have IA6 := Lib.hid (IA5.out.setA (b := w.heap.size + 2) (IA5.out.ne_box Q5.out) (.int .i64 R) (.int .i64 R) (.slice qu LU mu))
          have IU6 := Lib.hid (IU5.out.setA (b := w.heap.size + 2) (IU5.out.ne_box Q5.out) (.int .i64 R) (.int .i64 R) (.slice qu LU mu))
          refine hK.out _ _ (fun _ => hN) ?_
          clear hK K r0 r1 r2 f0 f1 f2 hH R5 Q5 B5 IA5 IU5
          try simp only [Act.put, List.setIfInBounds_toArray, List.set_cons_zero, List.set_cons_succ]
          try simp only [show w.heap.size + 1 + 1 = w.heap.size + 2 from rfl]
          generalize (((v0.setCell ⟨w.heap.size + 2, 0, none⟩ (.int .i64 R)).setCell ⟨w.heap.size + 2, 1, none⟩ (.int .i64 R)).setCell ⟨w.heap.size + 2, 2, none⟩ (.slice qu LU mu)) = v0 at hN R6 Q6 B6 IA6 IU6 ⊢
          have hH := hN
          have R5 := R6
          have Q5 := Q6
          have B5 := B6
          have IA5 := IA6
          have IU5 := IU6
          clear hN R6 Q6 B6 IA6 IU6
          refine wpAnyT_ready (rs := [4]) (by kernel_rfl) (by simp) ?_
          refine AllReadyT.cons (by simp only [List.getElem?_toArray, List.getElem?_cons_succ, List.getElem?_cons_zero]; rfl) (fun K hK => ?_) AllReadyT.nil
          go_simp
          try dsimp only
          refine hK.out _ _ (fun _ => hH) ?_
          clear hK K
          try simp only [Act.put, List.setIfInBounds_toArray, List.set_cons_zero, List.set_cons_succ]
          refine wpAnyT_done (by kernel_rfl) ?_ _
          go_wp2_with fail
          obtain ⟨E0, E1, E2, -, -, -⟩ := R5.out.all
          obtain ⟨E3, E4, E5, -, -, -⟩ := Q5.out.all
          refine bodyPost_ret (v := .tuple #[.agg #[.int .i64 R, .int .i64 j, .slice qa L ma], .agg #[.int .i64 R, .int .i64 R, .slice qu LU mu], .bool true]) (by simp [results, Try.results37, go_sem, E0, E1, E2, E3, E4, E5]) rfl ?_
          rw [V.out]
          exact ⟨.slice qa L ma, .slice qu LU mu, rfl, IA5.out, IU5.out, DF.out, B5.out⟩
        ·
          obtain ⟨r0, r1, r2, f0, f1, f2⟩ := R5.out.all
          go_simp
          try dsimp only
          have hN := And.intro (((hH.1.far (a := ⟨w.heap.size + 1, 0, none⟩) (by show bf ≠ w.heap.size + 1; have := n1.out; omega) (.int .i64 R)).far (a := ⟨w.heap.size + 1, 1, none⟩) (by show bf ≠ w.heap.size + 1; have := n1.out; omega) (.int .i64 j)).far (a := ⟨w.heap.size + 1, 2, none⟩) (by show bf ≠ w.heap.size + 1; have := n1.out; omega) (.slice qa L ma)) (((hH.2.far (a := ⟨w.heap.size + 1, 0, none⟩) (by show ba ≠ w.heap.size + 1; have := n1.out; have := n2.out; omega) (.int .i64 R)).far (a := ⟨w.heap.size + 1, 1, none⟩) (by show ba ≠ w.heap.size + 1; have := n1.out; have := n2.out; omega) (.int .i64 j)).far (a := ⟨w.heap.size + 1, 2, none⟩) (by show ba ≠ w.heap.size + 1; have := n1.out; have := n2.out; omega) (.slice qa L ma))
          have R6 := Lib.hid (((R5.out.set0 (.int .i64 R)).set1 (.int .i64 j)).set2 (.slice qa L ma))
          have Q6 := Lib.hid (((Q5.out.far (a := ⟨w.heap.size + 1, 0, none⟩) (by show w.heap.size + 2 ≠ w.heap.size + 1; omega) (.int .i64 R)).far (a := ⟨w.heap.size + 1, 1, none⟩) (by show w.heap.size + 2 ≠ w.heap.size + 1; omega) (.int .i64 j)).far (a := ⟨w.heap.size + 1, 2, none⟩) (by show w.heap.size + 2 ≠ w.heap.size + 1; omega) (.slice qa L ma))
          have B6 := Lib.hid (((B5.out.setCell (p := ⟨w.heap.size + 1, 0, none⟩) (by show w.heap.size ≤ w.heap.size + 1; omega) (.int .i64 R)).setCell (p := ⟨w.heap.size + 1, 1, none⟩) (by show w.heap.size ≤ w.heap.size + 1; omega) (.int .i64 j)).setCell (p := ⟨w.heap.size + 1, 2, none⟩) (by show w.heap.size ≤ w.heap.size + 1; omega) (.slice qa L ma))
          have IA6 := Lib.hid (IA5.out.setA (b := w.heap.size + 1) (IA5.out.ne_box R5.out) (.int .i64 R) (.int .i64 j) (.slice qa L ma))
          have IU6 := Lib.hid (IU5.out.setA (b := w.heap.size + 1) (IU5.out.ne_box R5.out) (.int .i64 R) (.int .i64 j) (.slice qa L ma))
          refine hK.out _ _ (fun _ => hN) ?_
          clear hK K r0 r1 r2 f0 f1 f2 hH R5 Q5 B5 IA5 IU5
          try simp only [Act.put, List.setIfInBounds_toArray, List.set_cons_zero, List.set_cons_succ]
          try simp only [show w.heap.size + 1 + 1 = w.heap.size + 2 from rfl]
          generalize (((v0.setCell ⟨w.heap.size + 1, 0, none⟩ (.int .i64 R)).setCell ⟨w.heap.size + 1, 1, none⟩ (.int .i64 j)).setCell ⟨w.heap.size + 1, 2, none⟩ (.slice qa L ma)) = v0 at hN R6 Q6 B6 IA6 IU6 ⊢
          have hH := hN
          have R5 := R6
          have Q5 := Q6
          have B5 := B6
          have IA5 := IA6
          have IU5 := IU6
          clear hN R6 Q6 B6 IA6 IU6
          refine wpAnyT_ready (rs := [1]) (by kernel_rfl) (by simp) ?_
          refine AllReadyT.cons (by simp only [List.getElem?_toArray, List.getElem?_cons_succ, List.getElem?_cons_zero]; rfl) (fun K hK => ?_) AllReadyT.nil
          obtain ⟨k1, k2, k3, -, -, -⟩ := hH.2.all
          go_simp
          try dsimp only
          refine hK.out _ _ (fun _ => hH) ?_
          clear hK K k1 k2 k3
          try simp only [Act.put, List.setIfInBounds_toArray, List.set_cons_zero, List.set_cons_succ]
          refine wpAnyT_ready (rs := [3]) (by kernel_rfl) (by simp) ?_
          refine AllReadyT.cons (by simp only [List.getElem?_toArray, List.getElem?_cons_succ, List.getElem?_cons_zero]; rfl) (fun K hK => ?_) AllReadyT.nil
          obtain ⟨r0, r1, r2, f0, f1, f2⟩ := Q5.out.all
          go_simp
          try dsimp only
          have hN := And.intro (((hH.1.far (a := ⟨w.heap.size + 2, 0, none⟩) (by show bf ≠ w.heap.size + 2; have := n1.out; omega) (.int .i64 R)).far (a := ⟨w.heap.size + 2, 1, none⟩) (by show bf ≠ w.heap.size + 2; have := n1.out; omega) (.int .i64 R)).far (a := ⟨w.heap.size + 2, 2, none⟩) (by show bf ≠ w.heap.size + 2; have := n1.out; omega) (.slice qu LU mu)) (((hH.2.far (a := ⟨w.heap.size + 2, 0, none⟩) (by show ba ≠ w.heap.size + 2; have := n1.out; have := n2.out; omega) (.int .i64 R)).far (a := ⟨w.heap.size + 2, 1, none⟩) (by show ba ≠ w.heap.size + 2; have := n1.out; have := n2.out; omega) (.int .i64 R)).far (a := ⟨w.heap.size + 2, 2, none⟩) (by show ba ≠ w.heap.size + 2; have := n1.out; have := n2.out; omega) (.slice qu LU mu))
          have R6 := Lib.hid (((R5.out.far (a := ⟨w.heap.size + 2, 0, none⟩) (by show w.heap.size + 1 ≠ w.heap.size + 2; omega) (.int .i64 R)).far (a := ⟨w.heap.size + 2, 1, none⟩) (by show w.heap.size + 1 ≠ w.heap.size + 2; omega) (.int .i64 R)).far (a := ⟨w.heap.size + 2, 2, none⟩) (by show w.heap.size + 1 ≠ w.heap.size + 2; omega) (.slice qu LU mu))
          have Q6 := Lib.hid (((Q5.out.set0 (.int .i64 R)).set1 (.int .i64 R)).set2 (.slice qu LU mu))
          have B6 := Lib.hid (((B5.out.setCell (p := ⟨w.heap.size + 2, 0, none⟩) (by show w.heap.size ≤ w.heap.size + 2; omega) (.int .i64 R)).setCell (p := ⟨w.heap.size + 2, 1, none⟩) (by show w.heap.size ≤ w.heap.size + 2; omega) (.int .i64 R)).setCell (p := ⟨w.heap.size + 2, 2, none⟩) (by show w.heap.size ≤ w.heap.size + 2; omega) (.slice qu LU mu))
          have IA6 := Lib.hid (IA5.out.setA (b := w.heap.size + 2) (IA5.out.ne_box Q5.out) (.int .i64 R) (.int .i64 R) (.slice qu LU mu))
          have IU6 := Lib.hid (IU5.out.setA (b := w.heap.size + 2) (IU5.out.ne_box Q5.out) (.int .i64 R) (.int .i64 R) (.slice qu LU mu))
          refine hK.out _ _ (fun _ => hN) ?_
          clear hK K r0 r1 r2 f0 f1 f2 hH R5 Q5 B5 IA5 IU5
          try simp only [Act.put, List.setIfInBounds_toArray, List.set_cons_zero, List.set_cons_succ]
          try simp only [show w.heap.size + 1 + 1 = w.heap.size + 2 from rfl]
          generalize (((v0.setCell ⟨w.heap.size + 2, 0, none⟩ (.int .i64 R)).setCell ⟨w.heap.size + 2, 1, none⟩ (.int .i64 R)).setCell ⟨w.heap.size + 2, 2, none⟩ (.slice qu LU mu)) = v0 at hN R6 Q6 B6 IA6 IU6 ⊢
          have hH := hN
          have R5 := R6
          have Q5 := Q6
          have B5 := B6
          have IA5 := IA6
          have IU5 := IU6
          clear hN R6 Q6 B6 IA6 IU6
          refine wpAnyT_ready (rs := [4]) (by kernel_rfl) (by simp) ?_
          refine AllReadyT.cons (by simp only [List.getElem?_toArray, List.getElem?_cons_succ, List.getElem?_cons_zero]; rfl) (fun K hK => ?_) AllReadyT.nil
          go_simp
          try dsimp only
          refine hK.out _ _ (fun _ => hH) ?_
          clear hK K
          try simp only [Act.put, List.setIfInBounds_toArray, List.set_cons_zero, List.set_cons_succ]
          refine wpAnyT_done (by kernel_rfl) ?_ _
          go_wp2_with fail
          obtain ⟨E0, E1, E2, -, -, -⟩ := R5.out.all
          obtain ⟨E3, E4, E5, -, -, -⟩ := Q5.out.all
          refine bodyPost_ret (v := .tuple #[.agg #[.int .i64 R, .int .i64 j, .slice qa L ma], .agg #[.int .i64 R, .int .i64 R, .slice qu LU mu], .bool true]) (by simp [results, Try.results37, go_sem, E0, E1, E2, E3, E4, E5]) rfl ?_
          rw [V.out]
          exact ⟨.slice qa L ma, .slice qu LU mu, rfl, IA5.out, IU5.out, DF.out, B5.out⟩
      obtain ⟨mk, hmk⟩ : ∃ mk, C - j = mk + 1 := ⟨C - j - 1, by omega⟩
      have EX : Hid (X = allF R C (mk + 1) j t s) := by rw [← hmk]; exact EX.out
      have EM : Hid (C - (j + 1) = mk) := by show _ = _; omega
      clear hmk
      obtain ⟨qa, qu, ma, mu, hV⟩ := WS.out.ac
      have PV1 := Lib.hid (PVC.out bf ba bx t j s wr qa qu ma mu hV ht hjC)
      obtain ⟨b0, b1, b2, -, -, -⟩ := hV.kf.all
      clear hV
      rcases leastS_says R C j t s ht with ⟨hl, hz⟩ | ⟨p, hL⟩
      · have EX : Hid (X = allF R C mk (j + 1) t s) := by
          refine Lib.hid ?_
          rw [EX.out]
          by_cases htR : t < R
          · exact all_some htR (col_skip hl)
          · rw [all_full htR, all_full htR]
        have I2 := Lib.hid (IN.out.skip hjC hz)
        rw [hx_none ht hz] at PV1
        clear hl hz
        go_wp2_with fail
        refine PV1.out.mono ?_
        rintro e w5 ⟨rfl, hb⟩
        have W5 := Lib.hid (WS.out.step hb)
        clear hb PV1 WS b0 b1 b2
        go_wp2_with fail
        go_roundw
        case rel => exact ⟨j + 1, t, s, q, rfl, by go_num, ht, by omega, FN.out, I2.out, by rw [EM.out]; exact EX.out, W5.out⟩
        case measure => simp [intOf]; omega
      · have htR : t < R := by have := hL.2.1; have := hL.2.2.1; omega
        obtain ⟨k0, hk0⟩ := hx_some hL.2.2.1 hL.2.1 hL.2.2.2.1
        rw [hk0] at PV1
        have LP := Lib.hid hL
        have n5 : ¬ (k0 : Int) < 0 := by omega
        clear hk0 hL
        go_wp2_with fail
        refine PV1.out.mono ?_
        rintro e w5 ⟨rfl, hb⟩
        have W5 := Lib.hid (WS.out.step hb)
        clear hb PV1 WS b0 b1 b2
        have PT1 := Lib.hid (PVT.out bf ba bx M q t j p s w5 W5.out FN.out IN.out htR hjC LP.out)
        obtain ⟨o, ho⟩ : ∃ o, colF R C j t s = o := ⟨_, rfl⟩
        rw [ho] at PT1
        have CN : Hid (o = none → X = none) := fun h9 => by rw [EX.out]; exact all_none htR (ho.trans h9)
        have CO : Hid (∀ s1, o = some (s1, t + 1) → X = allF R C mk (j + 1) (t + 1) s1 ∧ Fin2 R C M s1 ∧ ∃ q', HInv R C (mxC C s1.1) q' (t + 1) (j + 1)) := fun s1 h9 => ⟨by rw [EX.out]; exact all_some htR (ho.trans h9), colF_says FN.out IN.out hjC htR (ho.trans h9)⟩
        clear ho
        obtain ⟨a0, a1, -, -⟩ := W5.out.pt.all
        go_wp2_with fail
        refine PT1.out.mono ?_
        rintro e w6 ⟨hf, hr⟩
        rcases hr with ⟨s1, hs, rfl, hA⟩ | ⟨hs, rfl⟩
        · obtain ⟨e1, e2, q2, e3⟩ := CO.out s1 hs
          have X1 := Lib.hid e1
          have F1 := Lib.hid e2
          have I1 := Lib.hid e3
          have W6 := Lib.hid (W5.out.box n1.out n2.out s6.out hf hA)
          clear e1 e2 e3 hf hA hs PT1 W5 a0 a1 n5 CN CO
          go_wp2_with fail
          go_roundw
          case rel => exact ⟨j + 1, t + 1, s1, q2, by go_num, by go_num, by omega, by omega, F1.out, I1.out, by rw [EM.out]; exact X1.out, W6.out⟩
          case measure => simp [intOf]; omega
        · have V := Lib.hid (CN.out hs)
          obtain ⟨h1, h2, h3⟩ := W5.out.res n1.out n2.out hf
          have R6 := Lib.hid h1
          have Q6 := Lib.hid h2
          have B6 := Lib.hid h3
          clear hf hs PT1 W5 a0 a1 n5 CN CO h1 h2 h3
          obtain ⟨r0, r1, r2, f0, f1, f2⟩ := R6.out.all
          obtain ⟨e0, e1, e2, l0, l1, l2⟩ := Q6.out.all
          go_wp2_with fail
          obtain ⟨E0, E1, E2, -, -, -⟩ := ((((((R6.out.set0 (.int .i64 0)).set1 (.int .i64 0)).set2 (.slice none 0 0)).far (a := ⟨w.heap.size + 2, 0, none⟩) (by show _ ≠ _; simp) (.int .i64 0)).far (a := ⟨w.heap.size + 2, 1, none⟩) (by show _ ≠ _; simp) (.int .i64 0)).far (a := ⟨w.heap.size + 2, 2, none⟩) (by show _ ≠ _; simp) (.slice none 0 0)).all
          obtain ⟨E3, E4, E5, -, -, -⟩ := ((((((Q6.out.far (a := ⟨w.heap.size + 1, 0, none⟩) (by show _ ≠ _; simp) (.int .i64 0)).far (a := ⟨w.heap.size + 1, 1, none⟩) (by show _ ≠ _; simp) (.int .i64 0)).far (a := ⟨w.heap.size + 1, 2, none⟩) (by show _ ≠ _; simp) (.slice none 0 0)).set0 (.int .i64 0)).set1 (.int .i64 0)).set2 (.slice none 0 0)).all
          refine bodyPost_ret (v := .tuple #[.agg #[.int .i64 0, .int .i64 0, .slice none 0 0], .agg #[.int .i64 0, .int .i64 0, .slice none 0 0], .bool false]) (by simp [results, Try.results37, go_sem, E0, E1, E2, E3, E4, E5]) rfl ?_
          rw [V.out]
          refine ⟨_, _, rfl, .inl ⟨rfl, rfl⟩, .inl ⟨rfl, rfl⟩, fun k hk => by simp [Value.ownBlock] at hk, ?_⟩
          exact (((((B6.out.setCell (by show w.heap.size ≤ w.heap.size + 1; omega) _).setCell (by show w.heap.size ≤ w.heap.size + 1; omega) _).setCell (by show w.heap.size ≤ w.heap.size + 1; omega) _).setCell (by show w.heap.size ≤ w.heap.size + 2; omega) _).setCell (by show w.heap.size ≤ w.heap.size + 2; omega) _).setCell (by show w.heap.size ≤ w.heap.size + 2; omega) _
end Go.Proofs.Ytpelnfenfeoeeaa
end

section
/-
  Plain mathematics of chapter 12: telling a Hermite form by pivots that go to the right, without a look below them. Nothing of a program is used.
-/
namespace Go.Proofs.Ytpelnfenfeoeeaa
def pvOk (c : Nat) (xs : List Int) (i l : Nat) : Prop := 0 < mxC c xs i l ∧ ∀ s, s < i → 0 ≤ mxC c xs s l ∧ mxC c xs s l < mxC c xs i l
def HmD (c : Nat) (xs : List Int) : Nat → Nat → Int → Prop
  | 0, _, _ => True
  | k + 1, i, last => ¬ (leadC c (mxC c xs i) < c ∧ ((leadC c (mxC c xs i) : Int) ≤ last ∨ ¬ pvOk c xs i (leadC c (mxC c xs i)))) ∧ HmD c xs k (i + 1) (leadC c (mxC c xs i))
theorem HmD_step {c k i : Nat} {xs : List Int} {last : Int} : HmD c xs (k + 1) i last ↔ (¬ (leadC c (mxC c xs i) < c ∧ ((leadC c (mxC c xs i) : Int) ≤ last ∨ ¬ pvOk c xs i (leadC c (mxC c xs i)))) ∧ HmD c xs k (i + 1) (leadC c (mxC c xs i))) := Iff.rfl
theorem HmD.zero {r c : Nat} {xs : List Int} : ∀ (k i : Nat) (last : Int), i + k = r → HmD c xs k i last → ∀ p j : Nat, i ≤ p → p < r → (j : Int) ≤ last → j < c → mxC c xs p j = 0 := by
  intro k
  induction k with
  | zero => intro i last hik _ p j h1 h2; omega
  | succ k ih =>
    intro i last hik ⟨h1, h2⟩ p j h3 h4 h5 h6
    obtain ⟨l1, l2, -⟩ := leadC_says c (mxC c xs i)
    have hj : j < leadC c (mxC c xs i) := by
      rcases Nat.lt_or_ge (leadC c (mxC c xs i)) c with h | h
      · have : ¬ (leadC c (mxC c xs i) : Int) ≤ last := fun e => h1 ⟨h, .inl e⟩
        omega
      · omega
    rcases Nat.lt_or_ge i p with h7 | h7
    · exact ih (i + 1) _ (by omega) h2 p j h7 h4 (by omega) h6
    · obtain rfl : p = i := by omega
      exact l2 j hj
theorem HmD_HmB {r c : Nat} {xs : List Int} : ∀ (k i : Nat) (last : Int), i + k = r → (HmD c xs k i last ↔ HmB r c xs k i last) := by
  intro k
  induction k with
  | zero => intro i last _; exact Iff.rfl
  | succ k ih =>
    intro i last hik
    obtain ⟨l1, l2, l3⟩ := leadC_says c (mxC c xs i)
    rw [HmD_step, HmB_step]
    constructor
    · rintro ⟨h1, h2⟩
      refine ⟨?_, ?_, (ih (i + 1) _ (by omega)).mp h2⟩
      · rintro ⟨h3, h4⟩
        have h5 : ¬ (leadC c (mxC c xs i) : Int) ≤ last := fun e => h1 ⟨h3, .inl e⟩
        have h6 : pvOk c xs i (leadC c (mxC c xs i)) := Classical.byContradiction fun e => h1 ⟨h3, .inr e⟩
        rcases h4 with h4 | h4 | h4
        · omega
        · exact h5 h4
        · have := h6.1; omega
      · rintro ⟨h3, p, h4, h5⟩
        have h6 : pvOk c xs i (leadC c (mxC c xs i)) := Classical.byContradiction fun e => h1 ⟨h3, .inr e⟩
        rcases h5 with ⟨h7, h8⟩ | ⟨h7, h8⟩
        · have := h6.2 p h7
          exact h8 ⟨this.1, by omega⟩
        · exact h8 (HmD.zero k (i + 1) _ (by omega) h2 p _ h7 h4 (Int.le_refl _) h3)
    · rintro ⟨h1, h2, h3⟩
      refine ⟨?_, (ih (i + 1) _ (by omega)).mpr h3⟩
      rintro ⟨h4, h5⟩
      rcases h5 with h5 | h5
      · exact h1 ⟨h4, .inr (.inl h5)⟩
      · refine h5 ⟨?_, fun s hs => ?_⟩
        · have h6 : ¬ mxC c xs i (leadC c (mxC c xs i)) < 0 := fun e => h1 ⟨h4, .inr (.inr e)⟩
          have := l3 h4
          omega
        · have : 0 ≤ mxC c xs s (leadC c (mxC c xs i)) ∧ mxC c xs s (leadC c (mxC c xs i)) ≤ mxC c xs i (leadC c (mxC c xs i)) - 1 := Classical.byContradiction fun e => h2 ⟨h4, s, by omega, .inl ⟨hs, e⟩⟩
          exact ⟨this.1, by omega⟩
theorem HmD_iff {r c : Nat} {xs : List Int} (h : isMat r c xs = true) : HmD c xs r 0 (-1) ↔ herIs r c xs = true := (HmD_HmB r 0 (-1) (by omega)).trans (herIs_iff h)
end Go.Proofs.Ytpelnfenfeoeeaa
end

section
/-
  Chapter 12, in the program: IsHermite.
-/
namespace Go.Proofs.Ytpelnfenfeoeeaa
set_option maxRecDepth 100000
open Go.RowKit
theorem hx_cell {R C l : Nat} {a : Option Addr} {xs : List Int} {w : World} (h : Rd w a xs) (hx : xs.length = R * C) (hl : l < C) : ∀ i, i < R → ∃ g o : Nat, a = some ⟨g, o, none⟩ ∧ w.cell? ⟨g, o + i * C + l, none⟩ = some (.int .i64 (mxC C xs i l)) := fun i hi => by
  obtain ⟨g, o, h1, h2⟩ := h (i * C + l) (by rw [hx]; exact idx_lt hi hl)
  exact ⟨g, o, h1, by rw [Nat.add_assoc]; exact h2⟩
set_option maxHeartbeats 2000000 in
theorem iIsPivot (R C N i l : Nat) (a : Option Addr) (m : Nat) (xs : List Int) (w : World) (h : Rd w a xs) (ha : Spot a) (ham : N ≤ m) (haz : a = none → m = 0) (hx : xs.length = N) (hN : N = R * C) (hR : R ≤ 24) (hC : C ≤ 24) (hi : i < R) (hl : l < C) (b : Bool) (hb : b = true ↔ pvOk C xs i l) :
    Calls Try.prog 95 #[.agg #[.int .i64 R, .int .i64 C, .slice a N m], .int .i64 i, .int .i64 l] w (Gives (.bool b) w) := by
  have hle : R * C ≤ 24 * 24 := Nat.mul_le_mul hR hC
  have K0 : Hid (Blk3 (w.alloc (.cells #[.int .i64 R, .int .i64 C, .slice a N m] 26)) w.heap.size 26 (.int .i64 R) (.int .i64 C) (.slice a N m)) := Blk3.at_ _ _ _ _ rfl
  have B0 : Hid (Below w.heap.size w (w.alloc (.cells #[.int .i64 R, .int .i64 C, .slice a N m] 26))) := (Below.refl _ _).alloc (Nat.le_refl _) _
  have RW : Hid (∀ i w', i < R → Calls Try.prog 83 #[.agg #[.int .i64 R, .int .i64 C, .slice a N m], .int .i64 i] w' (RowAt a (i * C) C w')) := fun i w' hi => iRowIn R C i (i * C) N m a w' ha rfl (by rw [hN, ← Nat.succ_mul]; exact Nat.mul_le_mul_right _ hi) ham haz (by omega) (by omega)
  have CX : Hid (∀ i w', i < R → Below w.heap.size w w' → ∃ g o : Nat, a = some ⟨g, o, none⟩ ∧ w'.cell? ⟨g, o + i * C + l, none⟩ = some (.int .i64 (mxC C xs i l))) := fun i w' hi hb => hx_cell (h.below hb) (by rw [hx, hN]) hl i hi
  have cj : Hid ((0 : Int) ≤ (l : Int) ∧ (l : Int) < (C : Int)) := ⟨by omega, by omega⟩
  obtain ⟨f, hf⟩ : ∃ f : Nat → Int, (fun i => mxC C xs i l) = f := ⟨_, rfl⟩
  have CX : Hid (∀ i w', i < R → Below w.heap.size w w' → ∃ g o : Nat, a = some ⟨g, o, none⟩ ∧ w'.cell? ⟨g, o + i * C + l, none⟩ = some (.int .i64 (f i))) := by rw [← hf]; exact CX
  have HB : Hid (b = true ↔ 0 < f i ∧ ∀ s, s < i → 0 ≤ f s ∧ f s < f i) := by rw [← hf]; exact hb
  clear h ha ham haz hx hN hf hb hle
  go_enter Try.func95, Try.ntmps95
  go_wp2_with fail
  generalize w.alloc (.cells #[.int .i64 R, .int .i64 C, .slice a N m] 26) = W at K0 B0 ⊢
  obtain ⟨p0, p1, p2, -, -, -⟩ := K0.out.all
  go_wp2_with fail
  refine (RW.out i _ hi).mono ?_
  rintro e w1 ⟨q', m', rfl, -, hq', -, hb⟩
  have K := Lib.hid (K0.out.step hb)
  have B := Lib.hid (B0.out.trans (hb.mono B0.out.size))
  obtain ⟨g, o, hag, hcell⟩ := CX.out i w1 hi B.out
  obtain rfl := hq' g o hag (by omega)
  clear hb hq' hag p0 p1 p2 K0 B0
  obtain ⟨j1, j2⟩ := cj.out
  obtain ⟨p, hp⟩ : ∃ p, f i = p := ⟨_, rfl⟩
  have HB : Hid (b = true ↔ 0 < p ∧ ∀ s, s < i → 0 ≤ f s ∧ f s < p) := by rw [← hp]; exact HB
  rw [hp] at hcell
  clear hp
  obtain ⟨q0, q1, q2, -, -, -⟩ := K.out.all
  go_wp2_with fail
  clear hcell q0 q1 q2
  go_loopw [6, 8, 9, 17] (fun _ _ _ v17 wr => ∃ k : Nat, v17 = .int .i64 k ∧ k ≤ i ∧ (∀ s, s < k → 0 ≤ f s ∧ f s < p) ∧ Blk3 wr w.heap.size 26 (.int .i64 R) (.int .i64 C) (.slice a N m) ∧ Below w.heap.size w wr) (fun _ _ _ v17 _ => i - (intOf v17).toNat)
  case atStart => exact ⟨0, rfl, by omega, fun s h => by omega, K.out, B.out⟩
  case round =>
    clear K B
    obtain ⟨k, rfl, hk, hz, hK, hB⟩ := hrel
    have K := Lib.hid hK
    have B := Lib.hid hB
    have Z := Lib.hid hz
    clear hK hB hz
    obtain ⟨p0, p1, p2, -, -, -⟩ := K.out.all
    by_cases hki : k < i
    · go_wp2_with fail
      refine (RW.out k _ (by omega)).mono ?_
      rintro e w3 ⟨q', m', rfl, -, hq', -, hb⟩
      have K := Lib.hid (K.out.step hb)
      have B := Lib.hid (B.out.trans (hb.mono B.out.size))
      obtain ⟨g, o, hag, hcell⟩ := CX.out k w3 (by omega) B.out
      obtain rfl := hq' g o hag (by omega)
      clear hb hq' hag p0 p1 p2
      obtain ⟨x, hx⟩ : ∃ x, f k = x := ⟨_, rfl⟩
      rw [hx] at hcell
      have EX := Lib.hid hx
      clear hx
      by_cases h0 : x < 0
      · have b1 : decide (x < 0) = true := decide_eq_true h0
        have FB : Hid (b = false) := by
          show b = false
          cases hbb : b with
          | false => rfl
          | true =>
            have := ((HB.out.mp hbb).2 k hki).1
            rw [EX.out] at this
            omega
        clear h0
        go_wp2_with fail
        go_ret
        exact ⟨by rw [FB.out]; rfl, B.out⟩
      · have b1 : decide (x < 0) = false := decide_eq_false h0
        by_cases h1 : p ≤ x
        · have b2 : decide (p ≤ x) = true := decide_eq_true h1
          have FB : Hid (b = false) := by
            show b = false
            cases hbb : b with
            | false => rfl
            | true =>
              have := ((HB.out.mp hbb).2 k hki).2
              rw [EX.out] at this
              omega
          clear h0 h1
          go_wp2_with fail
          go_ret
          exact ⟨by rw [FB.out]; rfl, B.out⟩
        · have b2 : decide (p ≤ x) = false := decide_eq_false h1
          have Z1 : Hid (∀ s, s < k + 1 → 0 ≤ f s ∧ f s < p) := fun s hs => by
            rcases Nat.lt_or_ge s k with h2 | h2
            · exact Z.out s h2
            · obtain rfl : s = k := by omega
              rw [EX.out]; omega
          clear h0 h1
          go_wp2_with fail
          go_roundw
          case rel => exact ⟨k + 1, by go_num, by omega, Z1.out, K.out, B.out⟩
          case measure => simp [intOf]; omega
    · obtain rfl : k = i := by omega
      by_cases h0 : 0 < p
      · have b1 : decide (0 < p) = true := decide_eq_true h0
        have TB : Hid (b = true) := HB.out.mpr ⟨h0, Z.out⟩
        clear h0 hki
        go_wp2_with fail
        go_ret
        exact ⟨by rw [TB.out]; rfl, B.out⟩
      · have b1 : decide (0 < p) = false := decide_eq_false h0
        have FB : Hid (b = false) := by
          show b = false
          cases hbb : b with
          | false => rfl
          | true => exact absurd (HB.out.mp hbb).1 h0
        clear h0 hki
        go_wp2_with fail
        go_ret
        exact ⟨by rw [FB.out]; rfl, B.out⟩
structure HrSt (w : World) (r c : Nat) (a : Option Addr) (N m : Nat) (xs : List Int) (wr : World) : Prop where
  blk : Blk3 wr w.heap.size 26 (.int .i64 r) (.int .i64 c) (.slice a N m)
  rd : Rd wr a xs
  bel : Below w.heap.size w wr
theorem HrSt.step {w wr w' : World} {r c N m : Nat} {a : Option Addr} {xs : List Int} (h : HrSt w r c a N m xs wr) (hb : Below wr.heap.size wr w') : HrSt w r c a N m xs w' :=
  ⟨h.blk.keep hb h.blk.lt, h.rd.below hb, h.bel.trans (hb.mono h.bel.size)⟩
set_option maxHeartbeats 2000000 in
theorem iIsHer_t (r c N : Nat) (a : Option Addr) (m : Nat) (xs : List Int) (w : World) (h : Rd w a xs) (ha : Spot a) (ham : N ≤ m) (haz : a = none → m = 0) (hx : xs.length = N) (hN : N = r * c) (hr : r ≤ 24) (hc : c ≤ 24) (hm : isMat r c xs = true) (PB : Bool) (hPB : HmD c xs r 0 (-1) ↔ PB = true) :
    Calls Try.prog 41 #[.agg #[.int .i64 r, .int .i64 c, .slice a N m]] w (Gives (.bool PB) w) := by
  have hle : r * c ≤ 24 * 24 := Nat.mul_le_mul hr hc
  rw [← hN] at hle
  have hl : xs.length = r * c := by rw [hx, hN]
  have IM : Hid (∀ w', Rd w' a xs → Calls Try.prog 58 #[.agg #[.int .i64 r, .int .i64 c, .slice a N m]] w' (Gives (.bool true) w')) := fun w' h' => by
    have := iIsMat r c a m xs w' h' (by omega)
    rw [hx, hm] at this
    exact this
  have RW : Hid (∀ i w', i < r → Calls Try.prog 83 #[.agg #[.int .i64 r, .int .i64 c, .slice a N m], .int .i64 i] w' (RowAt a (i * c) c w')) := fun i w' hi => iRowIn r c i (i * c) N m a w' ha rfl (by rw [hN, ← Nat.succ_mul]; exact Nat.mul_le_mul_right _ hi) ham haz (by omega) (by omega)
  have RD : Hid (∀ i w' q', i < r → Rd w' a xs → (∀ g o : Nat, a = some ⟨g, o, none⟩ → 0 < c → q' = some ⟨g, o + i * c, none⟩) → Rd w' q' (rwL c (mxC c xs i))) := fun i w' q' hi h' hq => h'.row hl hi hq
  have IP : Hid (∀ i l w' b, i < r → l < c → Rd w' a xs → (b = true ↔ pvOk c xs i l) → Calls Try.prog 95 #[.agg #[.int .i64 r, .int .i64 c, .slice a N m], .int .i64 i, .int .i64 l] w' (Gives (.bool b) w')) := fun i l w' b hi hl' h' hb => iIsPivot r c N i l a m xs w' h' ha ham haz hx hN hr hc hi hl' b hb
  have ST : Hid (HrSt w r c a N m xs (w.alloc (.cells #[.int .i64 r, .int .i64 c, .slice a N m] 26))) := ⟨Blk3.at_ _ _ _ _ rfl, h.below ((Below.refl _ _).alloc (Nat.le_refl _) _), (Below.refl _ _).alloc (Nat.le_refl _) _⟩
  have HB := Lib.hid hPB
  clear hN hx hm h hPB hl ha ham haz
  go_enter Try.func41, Try.ntmps41
  go_wp2_with fail
  generalize w.alloc (.cells #[.int .i64 r, .int .i64 c, .slice a N m] 26) = W at ST ⊢
  obtain ⟨p0, p1, p2, -, -, -⟩ := ST.out.blk.all
  go_wp2_with fail
  refine (IM.out _ ST.out.rd).mono ?_
  rintro e w1 ⟨rfl, hb⟩
  have ST := Lib.hid (ST.out.step hb)
  clear hb p0 p1 p2
  obtain ⟨p0, p1, p2, -, -, -⟩ := ST.out.blk.all
  go_wp2_with fail
  clear p0 p1 p2
  go_loopw [2, 3, 4, 5, 11] (fun _ v3 _ _ v11 wr => ∃ (i k : Nat) (last : Int), v11 = .int .i64 i ∧ v3 = .int .i64 last ∧ i + k = r ∧ (-1 ≤ last ∧ last ≤ c) ∧ (HmD c xs k i last ↔ PB = true) ∧ HrSt w r c a N m xs wr) (fun _ _ _ _ v11 _ => r - (intOf v11).toNat)
  case atStart => exact ⟨0, r, -1, rfl, rfl, by omega, ⟨by omega, by omega⟩, HB.out, ST.out⟩
  case round =>
    clear ST HB
    obtain ⟨i, k, last, rfl, rfl, hik, ⟨la1, la2⟩, hB, hst⟩ := hrel
    have ST := Lib.hid hst
    have HB := Lib.hid hB
    clear hst hB
    obtain ⟨p0, p1, p2, -, -, -⟩ := ST.out.blk.all
    by_cases hir : i < r
    · obtain ⟨k, rfl⟩ : ∃ k', k = k' + 1 := ⟨k - 1, by omega⟩
      go_wp2_with fail
      refine (RW.out i _ hir).mono ?_
      rintro e w2 ⟨q', m', rfl, -, hq', -, hb⟩
      have ST := Lib.hid (ST.out.step hb)
      have R2 := Lib.hid (RD.out i _ q' hir ST.out.rd hq')
      clear hb hq' p0 p1 p2
      obtain ⟨p0, p1, p2, -, -, -⟩ := ST.out.blk.all
      have LD : Hid (Calls Try.prog 82 #[.slice q' c m'] w2 (fun e w' => e = .returned (.int .i64 (leadC c (mxC c xs i) : Int)) ∧ w' = w2)) := iLead c m' q' _ w2 R2.out hc
      obtain ⟨l1, -, -⟩ := leadC_says c (mxC c xs i)
      have HS : Hid (HmD c xs (k + 1) i last ↔ (¬ (leadC c (mxC c xs i) < c ∧ ((leadC c (mxC c xs i) : Int) ≤ last ∨ ¬ pvOk c xs i (leadC c (mxC c xs i)))) ∧ HmD c xs k (i + 1) (leadC c (mxC c xs i)))) := HmD_step
      have H2 : Hid (leadC c (mxC c xs i) < c → (leadC c (mxC c xs i) : Int) ≤ last → PB = false) := fun h h2 => by
        cases hp : PB with
        | false => rfl
        | true => exact absurd ⟨h, .inl h2⟩ (HS.out.mp (HB.out.mpr hp)).1
      have H3 : Hid (leadC c (mxC c xs i) < c → ¬ pvOk c xs i (leadC c (mxC c xs i)) → PB = false) := fun h h2 => by
        cases hp : PB with
        | false => rfl
        | true => exact absurd ⟨h, .inr h2⟩ (HS.out.mp (HB.out.mpr hp)).1
      have H4 : Hid ((leadC c (mxC c xs i) < c → ¬ (leadC c (mxC c xs i) : Int) ≤ last ∧ pvOk c xs i (leadC c (mxC c xs i))) → (HmD c xs k (i + 1) (leadC c (mxC c xs i)) ↔ PB = true)) := fun h2 => by
        rw [← HB.out, HS.out]
        refine ⟨fun h3 => ⟨?_, h3⟩, fun h3 => h3.2⟩
        rintro ⟨h5, h6 | h6⟩
        · exact (h2 h5).1 h6
        · exact h6 (h2 h5).2
      have IA : Hid (∀ w' b, leadC c (mxC c xs i) < c → Rd w' a xs → (b = true ↔ pvOk c xs i (leadC c (mxC c xs i))) → Calls Try.prog 95 #[.agg #[.int .i64 r, .int .i64 c, .slice a N m], .int .i64 i, .int .i64 (leadC c (mxC c xs i) : Int)] w' (Gives (.bool b) w')) := fun w' b hl' h' hb => IP.out i _ w' b hir hl' h' hb
      obtain ⟨P, hP⟩ : ∃ P : Nat → Prop, pvOk c xs i = P := ⟨_, rfl⟩
      rw [hP] at H3 H4 IA
      generalize leadC c (mxC c xs i) = l at LD l1 H2 H3 H4 IA
      clear R2 HB HS hP
      go_wp2_with fail
      refine LD.out.mono ?_
      rintro e w3 ⟨rfl, rfl⟩
      clear LD
      by_cases hlc : l < c
      · have n3 : decide ((l : Int) < (c : Int)) = true := decide_eq_true (by omega)
        by_cases hla : (l : Int) ≤ last
        · have n4 : decide ((l : Int) ≤ last) = true := decide_eq_true hla
          have F := Lib.hid (H2.out hlc hla)
          clear hla
          go_wp2_with fail
          go_ret
          exact ⟨by rw [F.out]; rfl, ST.out.bel⟩
        · have n4 : decide ((l : Int) ≤ last) = false := decide_eq_false hla
          by_cases hal : P l
          · have AT : Hid (∀ w', Rd w' a xs → Calls Try.prog 95 #[.agg #[.int .i64 r, .int .i64 c, .slice a N m], .int .i64 i, .int .i64 l] w' (Gives (.bool true) w')) := fun w' h' => IA.out w' true hlc h' ⟨fun _ => hal, fun _ => rfl⟩
            have HE := Lib.hid (H4.out (fun _ => ⟨by omega, hal⟩))
            clear hla hal
            go_wp2_with fail
            refine (AT.out _ ST.out.rd).mono ?_
            rintro e w5 ⟨rfl, hb⟩
            have ST := Lib.hid (ST.out.step hb)
            clear hb p0 p1 p2
            go_wp2_with fail
            go_roundw
            case rel => exact ⟨i + 1, k, l, by go_num, rfl, by omega, ⟨by omega, by omega⟩, HE.out, ST.out⟩
            case measure => simp [intOf]; omega
          · have AF : Hid (∀ w', Rd w' a xs → Calls Try.prog 95 #[.agg #[.int .i64 r, .int .i64 c, .slice a N m], .int .i64 i, .int .i64 l] w' (Gives (.bool false) w')) := fun w' h' => IA.out w' false hlc h' ⟨fun h => (by cases h), fun h => absurd h hal⟩
            have F := Lib.hid (H3.out hlc hal)
            clear hla hal
            go_wp2_with fail
            refine (AF.out _ ST.out.rd).mono ?_
            rintro e w5 ⟨rfl, hb⟩
            have ST := Lib.hid (ST.out.step hb)
            clear hb p0 p1 p2
            go_wp2_with fail
            go_ret
            exact ⟨by rw [F.out]; rfl, ST.out.bel⟩
      · have n3 : decide ((l : Int) < (c : Int)) = false := decide_eq_false (by omega)
        have HE := Lib.hid (H4.out (fun h => absurd h hlc))
        go_wp2_with fail
        go_roundw
        case rel => exact ⟨i + 1, k, l, by go_num, rfl, by omega, ⟨by omega, by omega⟩, HE.out, ST.out⟩
        case measure => simp [intOf]; omega
    · obtain rfl : k = 0 := by omega
      have T : Hid (PB = true) := HB.out.mp trivial
      clear hir
      go_wp2_with fail
      go_ret
      exact ⟨by rw [T.out]; rfl, ST.out.bel⟩
theorem iIsHer_f (r c : Int) (a : Option Addr) (m : Nat) (xs : List Int) (w : World) (h : Rd w a xs) (hn : xs.length ≤ 16777216) (hm : isMat r c xs = false) :
    Calls Try.prog 41 #[.agg #[.int .i64 r, .int .i64 c, .slice a xs.length m]] w (Gives (.bool false) w) := by
  have IM : Hid (∀ w', Rd w' a xs → Calls Try.prog 58 #[.agg #[.int .i64 r, .int .i64 c, .slice a xs.length m]] w' (Gives (.bool false) w')) := fun w' h' => by
    have := iIsMat r c a m xs w' h' hn
    rw [hm] at this
    exact this
  clear hm hn
  generalize xs.length = L at IM ⊢
  have K : Hid (Blk3 (w.alloc (.cells #[.int .i64 r, .int .i64 c, .slice a L m] 26)) w.heap.size 26 (.int .i64 r) (.int .i64 c) (.slice a L m)) := Blk3.at_ _ _ _ _ rfl
  have RX := Lib.hid (h.below ((Below.refl _ _).alloc (Nat.le_refl _) (.cells #[.int .i64 r, .int .i64 c, .slice a L m] 26)))
  have BX : Hid (Below w.heap.size w (w.alloc (.cells #[.int .i64 r, .int .i64 c, .slice a L m] 26))) := (Below.refl _ _).alloc (Nat.le_refl _) _
  clear h
  go_enter Try.func41, Try.ntmps41
  go_wp2_with fail
  generalize w.alloc (.cells #[.int .i64 r, .int .i64 c, .slice a L m] 26) = W at K RX BX ⊢
  obtain ⟨p0, p1, p2, -, -, -⟩ := K.out.all
  go_wp2_with fail
  refine (IM.out _ RX.out).mono ?_
  rintro e w0 ⟨rfl, hb⟩
  have B2 := Lib.hid (BX.out.trans (hb.mono BX.out.size))
  clear hb p0 p1 p2
  go_wp2_with fail
  exact bodyPost_ret (v := .bool false) (by simp [results, Try.results41, go_sem]) rfl ⟨rfl, B2.out⟩
theorem iIsHermite (r c : Int) (a : Option Addr) (m : Nat) (xs : List Int) (w : World) (h : Rd w a xs) (hn : xs.length ≤ 16777216) (ha : Spot a) (ham : xs.length ≤ m) (haz : a = none → m = 0) :
    Calls Try.prog 41 #[.agg #[.int .i64 r, .int .i64 c, .slice a xs.length m]] w (Gives (.bool (herIs r c xs)) w) := by
  rcases Bool.eq_false_or_eq_true (isMat r c xs) with hm | hm
  · obtain ⟨⟨r0, r1⟩, ⟨c0, c1⟩, hl, nx⟩ := isMat_says hm
    obtain ⟨R, rfl⟩ := Int.eq_ofNat_of_zero_le r0
    obtain ⟨C, rfl⟩ := Int.eq_ofNat_of_zero_le c0
    have hx : xs.length = R * C := by rw [← Int.natCast_mul] at hl; omega
    exact iIsHer_t R C xs.length a m xs w h ha ham haz rfl hx (by omega) (by omega) hm _ (HmD_iff hm)
  · rw [herIs_no hm]
    exact iIsHer_f r c a m xs w h hn hm
end Go.Proofs.Ytpelnfenfeoeeaa
end

section
/-
  Chapter 12, in the model: IsHermite.
-/
namespace Go.Proofs.Ytpelnfenfeoeeaa
set_option maxRecDepth 100000
open Go.RowKit
set_option maxHeartbeats 4000000 in
theorem sIsHer_t (r c N : Nat) (a : Option Addr) (m : Nat) (xs : List Int) (w : World) (h : Rd w a xs) (hx : xs.length = N) (hN : N = r * c) (hr : r ≤ 24) (hc : c ≤ 24) (nx : nums xs = true) (hm : isMat r c xs = true) (PB : Bool) (hPB : HmB r c xs r 0 (-1) ↔ PB = true) :
    Calls Try.prog 42 #[.agg #[.int .i64 r, .int .i64 c, .slice a N m]] w (Gives (.bool PB) w) := by
  have hle : r * c ≤ 24 * 24 := Nat.mul_le_mul hr hc
  rw [← hN] at hle
  have IM : Hid (∀ w', Rd w' a xs → Calls Try.prog 53 #[.agg #[.int .i64 r, .int .i64 c, .slice a N m]] w' (Gives (.bool true) w')) := fun w' h' => by
    have := sIsMat r c a m xs w' h' (by omega)
    rw [hx, hm] at this
    exact this
  have CE : Hid (∀ i j w', i < r → j < c → Rd w' a xs → Calls Try.prog 63 #[.agg #[.int .i64 r, .int .i64 c, .slice a N m], .int .i64 i, .int .i64 j] w' (Gives (.int .i64 (mxC c xs i j)) w')) := fun i j w' hi hj h' => sCel r c a N m i j xs w' h' hx hN hr hc hi hj
  have VN : Hid (∀ i j, i < r → j < c → NumP (mxC c xs i j)) := fun i j hi hj => mx_nums (by rw [hx, hN]) nx hi hj
  have ST : Hid (IsSt w r c a N m xs (w.alloc (.cells #[.int .i64 r, .int .i64 c, .slice a N m] 26))) := ⟨Blk3.at_ _ _ _ _ rfl, h.below ((Below.refl _ _).alloc (Nat.le_refl _) _), (Below.refl _ _).alloc (Nat.le_refl _) _⟩
  have HB := Lib.hid hPB
  clear hN hx nx hm h hPB
  go_enter Try.func42, Try.ntmps42
  go_wp2_with fail
  generalize w.alloc (.cells #[.int .i64 r, .int .i64 c, .slice a N m] 26) = W at ST ⊢
  go_loopw [2, 3, 4, 5, 6, 7] (fun _ v3 v4 _ _ _ wr => ∃ (i k : Nat) (last : Int), v3 = .int .i64 last ∧ v4 = .int .i64 i ∧ i + k = r ∧ (HmB r c xs k i last ↔ PB = true) ∧ IsSt w r c a N m xs wr) (fun _ _ v4 _ _ _ _ => r - (intOf v4).toNat)
  case atStart => exact ⟨0, r, -1, rfl, rfl, by omega, HB.out, ST.out⟩
  case round =>
    clear ST HB
    obtain ⟨i, k, last, rfl, rfl, hik, hB, hst⟩ := hrel
    have ST := Lib.hid hst
    have HB := Lib.hid hB
    clear hst hB
    obtain ⟨p0, p1, p2, -, -, -⟩ := ST.out.blk.all
    by_cases hir : i < r
    rotate_left
    · obtain rfl : k = 0 := by omega
      have PY : Hid (PB = true) := HB.out.mp trivial
      have IM1 := Lib.hid (IM.out _ ST.out.rd)
      go_wp2_with fail
      refine IM1.out.mono ?_
      rintro e w1 ⟨rfl, hb⟩
      have B1 := Lib.hid (ST.out.bel.trans (hb.mono ST.out.bel.size))
      clear hb
      go_wp2_with fail
      exact bodyPost_ret (v := .bool true) (by simp [results, Try.results42, go_sem]) rfl ⟨by rw [PY.out], B1.out⟩
    obtain ⟨k, rfl⟩ : ∃ k', k = k' + 1 := ⟨k - 1, by omega⟩
    have HB := Lib.hid (HmB_step.symm.trans HB.out)
    go_wp2_with fail
    refine (IM.out _ ST.out.rd).mono ?_
    rintro e w1 ⟨rfl, hb⟩
    have ST := Lib.hid (ST.out.step hb)
    clear hb p0 p1 p2
    obtain ⟨p0, p1, p2, -, -, -⟩ := ST.out.blk.all
    go_wp2_with fail
    clear p0 p1 p2
    go_loopw [5] (fun v5 wq => ∃ p : Nat, v5 = .int .i64 p ∧ p ≤ c ∧ (∀ q, q < p → mxC c xs i q = 0) ∧ IsSt w r c a N m xs wq) (fun v5 _ => c - (intOf v5).toNat)
    case atStart => exact ⟨0, rfl, by omega, fun q hq => by omega, ST.out⟩
    case round =>
      clear ST
      obtain ⟨p, rfl, hp, hz, hst⟩ := hrel
      have ST := Lib.hid hst
      have HZ := Lib.hid hz
      clear hst hz
      obtain ⟨p0, p1, p2, -, -, -⟩ := ST.out.blk.all
      by_cases hpc : p < c
      rotate_left
      · obtain rfl : c = p := by omega
        have LC : Hid (leadC c (mxC c xs i) = c) := leadF_eq (Nat.zero_le _) (by omega) (fun q _ hq => HZ.out q hq) (fun h1 => by omega)
        have HN2 : Hid (HmB r c xs k (i + 1) (c : Int) ↔ PB = true) := by
          have h := HB.out
          rw [LC.out] at h
          exact ⟨fun h1 => h.mp ⟨fun hh => by have := hh.1; rw [LC.out] at this; omega, fun hh => by have := hh.1; rw [LC.out] at this; omega, h1⟩, fun e => (h.mpr e).2.2⟩
        clear LC HZ HB
        go_wp2_with fail
        clear p0 p1 p2
        go_loopw [2, 6, 7] (fun _ v6 _ wk => v6 = .int .i64 0 ∧ IsSt w r c a N m xs wk) (fun _ _ _ _ => 0)
        case atStart => exact ⟨rfl, ST.out⟩
        case round =>
          clear ST
          obtain ⟨rfl, hst⟩ := hrel
          have ST := Lib.hid hst
          clear hst
          obtain ⟨p0, p1, p2, -, -, -⟩ := ST.out.blk.all
          have r1 : (0 : Int) < (r : Int) := by omega
          go_wp2_with fail
          go_roundw
          case rel => exact ⟨i + 1, k, (c : Int), rfl, by go_num, by omega, HN2.out, ST.out⟩
          case measure => simp [intOf]; omega
      have CX := Lib.hid (CE.out i p _ hir hpc ST.out.rd)
      have nX := VN.out i p hir hpc
      obtain ⟨x, hx⟩ : ∃ x, mxC c xs i p = x := ⟨_, rfl⟩
      have X := Lib.hid hx
      rw [hx] at CX nX
      clear hx
      go_wp2_with fail
      refine CX.out.mono ?_
      rintro e w2 ⟨rfl, hb⟩
      have ST := Lib.hid (ST.out.step hb)
      clear hb CX p0 p1 p2
      by_cases hx0 : x = 0
      · have HZ2 : Hid (∀ q, q < p + 1 → mxC c xs i q = 0) := fun q hq => by
          rcases Nat.lt_or_ge q p with h3 | h3
          · exact HZ.out q h3
          · obtain rfl : q = p := by omega
            rw [X.out]; exact hx0
        have n1 : (x == 0) = true := by simpa using hx0
        clear hx0
        go_wp2_with fail
        go_roundw
        case rel => exact ⟨p + 1, by go_num, by omega, HZ2.out, ST.out⟩
        case measure => simp [intOf]; omega
      have n1 : (x == 0) = false := by simpa using hx0
      have LC : Hid (leadC c (mxC c xs i) = p) := leadF_eq (Nat.zero_le _) (by omega) (fun q _ hq => HZ.out q hq) (fun _ e => hx0 (by rw [← X.out]; exact e))
      clear hx0 HZ
      obtain ⟨p0, p1, p2, -, -, -⟩ := ST.out.blk.all
      by_cases h1 : last = (c : Int)
      · have m1 : (last == (c : Int)) = true := by simp [h1]
        have PN : Hid (PB = false) := Bool.eq_false_iff.mpr (fun e => (HB.out.mpr e).1 ⟨by rw [LC.out]; exact hpc, .inl h1⟩)
        clear h1
        go_wp2_with fail
        exact bodyPost_ret (v := .bool false) (by simp [results, Try.results42, go_sem]) rfl ⟨by rw [PN.out], ST.out.bel⟩
      have m1 : (last == (c : Int)) = false := by simpa using h1
      by_cases h2 : (p : Int) ≤ last
      · have m2 : decide ((p : Int) ≤ last) = true := by simpa using h2
        have PN : Hid (PB = false) := Bool.eq_false_iff.mpr (fun e => (HB.out.mpr e).1 ⟨by rw [LC.out]; exact hpc, .inr (.inl (by rw [LC.out]; exact h2))⟩)
        clear h1
        go_wp2_with fail
        exact bodyPost_ret (v := .bool false) (by simp [results, Try.results42, go_sem]) rfl ⟨by rw [PN.out], ST.out.bel⟩
      have m2 : decide ((p : Int) ≤ last) = false := by simpa using h2
      have CX := Lib.hid (CE.out i p _ hir hpc ST.out.rd)
      rw [X.out] at CX
      have HR1 : Hid (¬ last = (c : Int)) := h1
      have HR2 : Hid (¬ (p : Int) ≤ last) := h2
      clear h1 h2
      go_wp2_with fail
      refine CX.out.mono ?_
      rintro e w3 ⟨rfl, hb⟩
      have ST := Lib.hid (ST.out.step hb)
      clear hb CX p0 p1 p2
      obtain ⟨p0, p1, p2, -, -, -⟩ := ST.out.blk.all
      by_cases h3 : x < 0
      · have PN : Hid (PB = false) := Bool.eq_false_iff.mpr (fun e => (HB.out.mpr e).1 ⟨by rw [LC.out]; exact hpc, .inr (.inr (by rw [LC.out, X.out]; exact h3))⟩)
        go_wp2_with fail
        exact bodyPost_ret (v := .bool false) (by simp [results, Try.results42, go_sem]) rfl ⟨by rw [PN.out], ST.out.bel⟩
      have GR : Hid (¬ hrBad c xs i last) := fun ⟨_, h⟩ => by
        rw [LC.out, X.out] at h
        rcases h with h | h | h
        · exact HR1.out h
        · exact absurd h (by have := HR2.out; omega)
        · exact h3 h
      go_wp2_with fail
      clear p0 p1 p2 m1 m2 HR1 HR2 n1
      obtain ⟨nX1, nX2⟩ := nX
      have v1 : IntKind.i64.wrap (x - 1) = x - 1 := IntWalk.i64_in _ (by omega)
      go_loopw [2, 6, 7] (fun _ v6 _ wk => ∃ k2 : Nat, v6 = .int .i64 k2 ∧ k2 ≤ r ∧ (∀ q, q < k2 → (q < i → 0 ≤ mxC c xs q p ∧ mxC c xs q p ≤ x - 1) ∧ (i < q → mxC c xs q p = 0)) ∧ IsSt w r c a N m xs wk) (fun _ v6 _ _ => r - (intOf v6).toNat)
      case atStart => exact ⟨0, rfl, by omega, fun q hq => by omega, ST.out⟩
      case round =>
        clear ST
        obtain ⟨k2, rfl, hk2, hk0, hst⟩ := hrel
        have ST := Lib.hid hst
        have K0 := Lib.hid hk0
        clear hst hk0
        obtain ⟨p0, p1, p2, -, -, -⟩ := ST.out.blk.all
        by_cases hkr : k2 < r
        rotate_left
        · obtain rfl : r = k2 := by omega
          have NC : Hid (¬ hcBad r c xs i) := fun ⟨_, q, hq, h⟩ => by
            rw [LC.out, X.out] at h
            rcases h with ⟨h5, h6⟩ | ⟨h5, h6⟩
            · exact h6 ((K0.out q hq).1 h5)
            · exact h6 ((K0.out q hq).2 h5)
          have HN2 : Hid (HmB r c xs k (i + 1) (p : Int) ↔ PB = true) := by
            have h := HB.out
            rw [LC.out] at h
            exact ⟨fun h1 => h.mp ⟨GR.out, NC.out, h1⟩, fun e => (h.mpr e).2.2⟩
          clear NC GR HB K0
          go_wp2_with fail
          go_roundw
          case rel => exact ⟨i + 1, k, (p : Int), rfl, by go_num, by omega, HN2.out, ST.out⟩
          case measure => simp [intOf]; omega
        have CY := Lib.hid (CE.out k2 p _ hkr hpc ST.out.rd)
        obtain ⟨y, hy⟩ : ∃ y, mxC c xs k2 p = y := ⟨_, rfl⟩
        have Y := Lib.hid hy
        rw [hy] at CY
        have KS : Hid ((k2 < i → 0 ≤ y ∧ y ≤ x - 1) → (i < k2 → y = 0) → ∀ q, q < k2 + 1 → (q < i → 0 ≤ mxC c xs q p ∧ mxC c xs q p ≤ x - 1) ∧ (i < q → mxC c xs q p = 0)) := fun e1 e2 q hq => by
          rcases Nat.lt_or_ge q k2 with h3 | h3
          · exact K0.out q h3
          · obtain rfl : q = k2 := by omega
            rw [Y.out]
            exact ⟨e1, e2⟩
        clear hy K0
        go_wp2_with fail
        refine CY.out.mono ?_
        rintro e w4 ⟨rfl, hb⟩
        have ST := Lib.hid (ST.out.step hb)
        clear hb CY p0 p1 p2
        obtain ⟨p0, p1, p2, -, -, -⟩ := ST.out.blk.all
        by_cases hki : k2 < i
        · have k9 : ¬ i < k2 := by omega
          have CX := Lib.hid (CE.out i p _ hir hpc ST.out.rd)
          rw [X.out] at CX
          go_wp2_with fail
          refine CX.out.mono ?_
          rintro e w5 ⟨rfl, hb⟩
          have ST := Lib.hid (ST.out.step hb)
          clear hb CX p0 p1 p2
          by_cases hin : 0 ≤ y ∧ y ≤ x - 1
          · have KN := Lib.hid (KS.out (fun _ => hin) (fun h => by omega))
            have IN : Hid (∀ w', Calls Try.prog 70 #[.int .i64 y, .int .i64 0, .int .i64 (x - 1)] w' fun e w2 => e = .returned (.bool true) ∧ w' = w2) := fun w' => sIn_t y 0 (x - 1) w' hin.1 hin.2
            clear hin KS
            go_wp2_with fail
            with_reducible refine (IN.out _).mono ?_
            rintro e w6 ⟨rfl, rfl⟩
            go_wp2_with fail
            go_roundw
            case rel => exact ⟨k2 + 1, by go_num, by omega, KN.out, ST.out⟩
            case measure => simp [intOf]; omega
          · have PN : Hid (PB = false) := Bool.eq_false_iff.mpr (fun e => (HB.out.mpr e).2.1 ⟨by rw [LC.out]; exact hpc, k2, hkr, .inl ⟨hki, by rw [LC.out, X.out, Y.out]; exact hin⟩⟩)
            have IN : Hid (∀ w', Calls Try.prog 70 #[.int .i64 y, .int .i64 0, .int .i64 (x - 1)] w' fun e w2 => e = .returned (.bool false) ∧ w' = w2) := fun w' => sIn_f y 0 (x - 1) w' (by omega)
            clear hin KS
            go_wp2_with fail
            with_reducible refine (IN.out _).mono ?_
            rintro e w6 ⟨rfl, rfl⟩
            go_wp2_with fail
            exact bodyPost_ret (v := .bool false) (by simp [results, Try.results42, go_sem]) rfl ⟨by rw [PN.out], ST.out.bel⟩
        · by_cases hik2 : i < k2
          · by_cases hy0 : y = 0
            · have n6 : (y != 0) = false := by simp [hy0]
              have KN := Lib.hid (KS.out (fun h => absurd h hki) (fun _ => hy0))
              clear hy0 KS
              go_wp2_with fail
              go_roundw
              case rel => exact ⟨k2 + 1, by go_num, by omega, KN.out, ST.out⟩
              case measure => simp [intOf]; omega
            · have n6 : (y != 0) = true := by simpa using hy0
              have PN : Hid (PB = false) := Bool.eq_false_iff.mpr (fun e => (HB.out.mpr e).2.1 ⟨by rw [LC.out]; exact hpc, k2, hkr, .inr ⟨hik2, by rw [LC.out, Y.out]; exact hy0⟩⟩)
              clear hy0 KS
              go_wp2_with fail
              exact bodyPost_ret (v := .bool false) (by simp [results, Try.results42, go_sem]) rfl ⟨by rw [PN.out], ST.out.bel⟩
          · have KN := Lib.hid (KS.out (fun h => absurd h hki) (fun h => absurd h hik2))
            clear KS
            go_wp2_with fail
            go_roundw
            case rel => exact ⟨k2 + 1, by go_num, by omega, KN.out, ST.out⟩
            case measure => simp [intOf]; omega
theorem sIsHer_f (r c : Int) (a : Option Addr) (m : Nat) (xs : List Int) (w : World) (h : Rd w a xs) (hn : xs.length ≤ 16777216) (hm : isMat r c xs = false) :
    Calls Try.prog 42 #[.agg #[.int .i64 r, .int .i64 c, .slice a xs.length m]] w (Gives (.bool false) w) := by
  have IM : Hid (∀ w', Rd w' a xs → Calls Try.prog 53 #[.agg #[.int .i64 r, .int .i64 c, .slice a xs.length m]] w' (Gives (.bool false) w')) := fun w' h' => by
    have := sIsMat r c a m xs w' h' hn
    rw [hm] at this
    exact this
  clear hm hn
  generalize xs.length = L at IM ⊢
  have K : Hid (Blk3 (w.alloc (.cells #[.int .i64 r, .int .i64 c, .slice a L m] 26)) w.heap.size 26 (.int .i64 r) (.int .i64 c) (.slice a L m)) := Blk3.at_ _ _ _ _ rfl
  have RX := Lib.hid (h.below ((Below.refl _ _).alloc (Nat.le_refl _) (.cells #[.int .i64 r, .int .i64 c, .slice a L m] 26)))
  have BX : Hid (Below w.heap.size w (w.alloc (.cells #[.int .i64 r, .int .i64 c, .slice a L m] 26))) := (Below.refl _ _).alloc (Nat.le_refl _) _
  clear h
  go_enter Try.func42, Try.ntmps42
  go_wp2_with fail
  generalize w.alloc (.cells #[.int .i64 r, .int .i64 c, .slice a L m] 26) = W at K RX BX ⊢
  go_loopw [2, 3, 4, 5, 6, 7] (fun _ _ v4 _ _ _ wr => v4 = .int .i64 0 ∧ Blk3 wr w.heap.size 26 (.int .i64 r) (.int .i64 c) (.slice a L m) ∧ Rd wr a xs ∧ Below w.heap.size w wr) (fun _ _ _ _ _ _ _ => 0)
  case atStart => exact ⟨rfl, K.out, RX.out, BX.out⟩
  case round =>
    clear K RX BX
    obtain ⟨rfl, hk, hr, hb⟩ := hrel
    have K := Lib.hid hk
    have RX := Lib.hid hr
    have BX := Lib.hid hb
    clear hk hr hb
    obtain ⟨p0, p1, p2, -, -, -⟩ := K.out.all
    by_cases h0 : 0 < r
    · go_wp2_with fail
      refine (IM.out _ RX.out).mono ?_
      rintro e w0 ⟨rfl, hb⟩
      have K := Lib.hid (K.out.step hb)
      have RX := Lib.hid (RX.out.below hb)
      have BX := Lib.hid (BX.out.trans (hb.mono BX.out.size))
      clear hb p0 p1 p2
      obtain ⟨p0, p1, p2, -, -, -⟩ := K.out.all
      go_wp2_with fail
      refine (IM.out _ RX.out).mono ?_
      rintro e w1 ⟨rfl, hb⟩
      have B2 := Lib.hid (BX.out.trans (hb.mono BX.out.size))
      clear hb p0 p1 p2
      go_wp2_with fail
      exact bodyPost_ret (v := .bool false) (by simp [results, Try.results42, go_sem]) rfl ⟨rfl, B2.out⟩
    · go_wp2_with fail
      refine (IM.out _ RX.out).mono ?_
      rintro e w1 ⟨rfl, hb⟩
      have B2 := Lib.hid (BX.out.trans (hb.mono BX.out.size))
      clear hb p0 p1 p2
      go_wp2_with fail
      exact bodyPost_ret (v := .bool false) (by simp [results, Try.results42, go_sem]) rfl ⟨rfl, B2.out⟩
theorem sIsHermite (r c : Int) (a : Option Addr) (m : Nat) (xs : List Int) (w : World) (h : Rd w a xs) (hn : xs.length ≤ 16777216) :
    Calls Try.prog 42 #[.agg #[.int .i64 r, .int .i64 c, .slice a xs.length m]] w (Gives (.bool (herIs r c xs)) w) := by
  rcases Bool.eq_false_or_eq_true (isMat r c xs) with hm | hm
  · obtain ⟨⟨r0, r1⟩, ⟨c0, c1⟩, hl, nx⟩ := isMat_says hm
    obtain ⟨R, rfl⟩ := Int.eq_ofNat_of_zero_le r0
    obtain ⟨C, rfl⟩ := Int.eq_ofNat_of_zero_le c0
    have hx : xs.length = R * C := by rw [← Int.natCast_mul] at hl; omega
    exact sIsHer_t R C xs.length a m xs w h rfl hx (by omega) (by omega) nx hm _ (herIs_iff hm)
  · rw [herIs_no hm]
    exact sIsHer_f r c a m xs w h hn hm
end Go.Proofs.Ytpelnfenfeoeeaa
end

section
/-
  Chapter 3, in the program: a fold whose closure writes into its value (MultiplyMatrices).
-/
namespace Go.Proofs.Ytpelnfenfeoeeaa
set_option maxRecDepth 100000
open Go.RowKit
theorem far_of {w : World} {a : Option Addr} {zs : List Int} {n : Nat} (h : Rd w a zs) (hn : zs.length = n) : ∀ b o : Nat, a = some ⟨b, o, none⟩ → 0 < n → b ≠ w.heap.size := by
  intro b o e hz
  obtain ⟨b', o', e', hc⟩ := h 0 (by omega)
  rw [e] at e'
  injection e' with e'
  injection e' with e1 e2
  have := World.block_lt_of_cell? w _ hc
  simp at this
  omega
set_option maxRecDepth 100000 in
set_option maxHeartbeats 1000000 in
theorem iFoldM (pb R C n : Nat) (a : Option Addr) (cap : Nat) (zs : List Int) (g m mc : Nat) (L : Nat → List Int) (w : World) (hx : zs.length = n) (h : Rd w a zs) (hn : n = R * C) (hR : R ≤ 24) (hC : C ≤ 24) (hg : Ints w g (L 0)) (hz : ∀ b o : Nat, a = some ⟨b, o, none⟩ → 0 < n → b ≠ g)
    (step : ∀ (k : Nat) (w1 : World), k < n → w.grownBy w1 (some g) → Ints w1 g (L k) → Calls Try.prog 91 #[.slice (some ⟨g, 0, none⟩) m mc, .int .i64 ((k : Int) / (C : Int)), .int .i64 ((k : Int) % (C : Int)), .int .i64 (zs.getD k 0), .pointer (some ⟨pb, 0, none⟩)] w1
      (fun e w2 => e = .returned (.slice (some ⟨g, 0, none⟩) m mc) ∧ Ints w2 g (L (k + 1)) ∧ w1.grownBy w2 (some g))) :
    Calls Try.prog 86 #[.agg #[.int .i64 R, .int .i64 C, .slice a n cap], .slice (some ⟨g, 0, none⟩) m mc, .func (.func 91) #[] #[.pointer (some ⟨pb, 0, none⟩)]] w
      (fun e w' => e = .returned (.slice (some ⟨g, 0, none⟩) m mc) ∧ Ints w' g (L n) ∧ w.grownBy w' (some g)) := by
  have H := Lib.hid h
  have ST := Lib.hid step
  have HZ := Lib.hid hz
  have hle : R * C ≤ 24 * 24 := Nat.mul_le_mul hR hC
  have HN := Lib.hid hx
  rw [← hn] at hle
  have HM := Lib.hid hn
  have gw : w.grownBy (w.alloc (.cells #[.int .i64 R, .int .i64 C, .slice a n cap] 26)) (some g) := World.grownBy_alloc w _ _
  have G0 := Lib.hid gw
  have I0 := Lib.hid (hg.old (.cells #[.int .i64 R, .int .i64 C, .slice a n cap] 26))
  have K0 : Hid (Blk3 (w.alloc (.cells #[.int .i64 R, .int .i64 C, .slice a n cap] 26)) w.heap.size 26 (.int .i64 R) (.int .i64 C) (.slice a n cap)) := Blk3.at_ _ _ _ _ rfl
  have lg := hg.lt
  clear h step hz hx hn gw hg
  go_enter Try.func86, Try.ntmps86
  go_wp2_with fail
  go_loopw [7, 8, 9, 14] (fun v _ _ i wr => ∃ k : Nat, i = .int .i64 k ∧ k ≤ n ∧ v = .slice (some ⟨g, 0, none⟩) m mc ∧ Ints wr g (L k) ∧ (w.alloc (.cells #[.int .i64 R, .int .i64 C, .slice a n cap] 26)).grownBy wr (some g)) (fun _ _ _ i _ => n - (intOf i).toNat)
  case atStart => exact ⟨0, rfl, by omega, rfl, I0.out, World.grownBy.refl _ _⟩
  case round =>
    obtain ⟨k, rfl, hk, rfl, hi, hgr⟩ := hrel
    have I := Lib.hid hi
    have G := Lib.hid hgr
    have GW := Lib.hid (G0.out.trans hgr)
    clear hi hgr
    have R0 := Lib.hid (K0.out.keepOne G.out (by omega))
    by_cases hlt : k < n
    · have hC0 : 0 < C := by
        rcases Nat.eq_zero_or_pos C with e | e
        · have := HM.out; rw [e, Nat.mul_zero] at this; omega
        · exact e
      have c0 : ((C : Int) == 0) = false := by simp; omega
      obtain ⟨b, o, rfl, hcell⟩ := H.out k (by rw [HN.out]; exact hlt)
      have u1 := World.block_lt_of_cell? w _ hcell
      have hb : b ≠ g := HZ.out b o rfl (by omega)
      have hcell := GW.out.cell hcell (by simpa using hb)
      have d1 : (k : Int) / (C : Int) = ((k / C : Nat) : Int) := (Int.natCast_ediv k C).symm
      have d2 : (k : Int) % (C : Int) = ((k % C : Nat) : Int) := (Int.natCast_emod k C).symm
      have d3 : k / C ≤ k := Nat.div_le_self k C
      have d4 : k % C ≤ k := Nat.mod_le k C
      have d5 : 0 ≤ (k : Int) / (C : Int) := by rw [d1]; exact Int.natCast_nonneg _
      have d6 : (k : Int) / (C : Int) ≤ 600 := by rw [d1]; exact Int.ofNat_le.mpr (show k / C ≤ 600 by omega)
      have c1 : ¬ C = 0 := by omega
      have w1 : IntKind.i64.wrap ((k : Int) / (C : Int)) = (k : Int) / (C : Int) := IntWalk.i64_in _ (by omega)
      have e2 : Int.tmod (k : Int) (C : Int) = (k : Int) % (C : Int) := Int.tmod_eq_emod_of_nonneg (by omega)
      have e3 : Int.tdiv (k : Int) (C : Int) = (k : Int) / (C : Int) := Int.tdiv_eq_ediv_of_nonneg (by omega)
      clear d1 d2
      obtain ⟨z, hz⟩ : ∃ z, zs.getD k 0 = z := ⟨_, rfl⟩
      rw [hz] at hcell
      have Z := Lib.hid hz
      clear hz u1
      obtain ⟨r0, r1, r2, -, -, -⟩ := R0.out.all
      go_wp2_with fail
      go_still_tail 11, (by kernel_rfl)
      go_wp2_with fail
      rw [← Z.out]
      refine (ST.out k _ hlt (grown_drew_one GW.out) I.out.drew).mono ?_
      rintro e w2 ⟨rfl, hi2, hg2⟩
      have I2 := Lib.hid hi2
      have G2 := Lib.hid ((grown_drew_one G.out).trans hg2)
      clear hi2 hg2
      go_wp2_with fail
      go_roundw
      case rel => exact ⟨k + 1, by go_num, by omega, rfl, I2.out, G2.out⟩
      case measure => simp [intOf]; omega
    · obtain rfl : n = k := by omega
      go_wp2_with fail
      go_ret
      exact ⟨rfl, I.out, GW.out⟩
end Go.Proofs.Ytpelnfenfeoeeaa
end

section
/-
  Chapter 3, in the program: MultiplyMatrices.
-/
namespace Go.Proofs.Ytpelnfenfeoeeaa
set_option maxRecDepth 100000
open Go.RowKit
def mrTo (L ys : List Int) (C i p : Nat) (t : Int) (j : Nat) : List Int := (List.range L.length).map fun q => if q / C = i ∧ q % C < j then L.getD q 0 + t * ys.getD (p * C + q % C) 0 else L.getD q 0
theorem mrTo_length (L ys : List Int) (C i p : Nat) (t : Int) (j : Nat) : (mrTo L ys C i p t j).length = L.length := by simp [mrTo]
theorem mrTo_getD (L ys : List Int) (C i p : Nat) (t : Int) (j q : Nat) (hq : q < L.length) : (mrTo L ys C i p t j).getD q 0 = if q / C = i ∧ q % C < j then L.getD q 0 + t * ys.getD (p * C + q % C) 0 else L.getD q 0 := by
  simp [mrTo, List.getD, hq]
theorem mrTo_zero (L ys : List Int) (C i p : Nat) (t : Int) : mrTo L ys C i p t 0 = L := by
  refine list_getD (mrTo_length _ _ _ _ _ _ _) fun q hq => ?_
  rw [mrTo_length] at hq
  rw [mrTo_getD _ _ _ _ _ _ _ _ hq, if_neg (by omega)]
theorem mrTo_at (L ys : List Int) (C i p : Nat) (t : Int) (j : Nat) (hj : j < C) (hq : i * C + j < L.length) : (mrTo L ys C i p t j).getD (i * C + j) 0 = L.getD (i * C + j) 0 := by
  rw [mrTo_getD _ _ _ _ _ _ _ _ hq, idx_mod hj, if_neg (by omega)]
theorem mrTo_step (L ys : List Int) (C i p : Nat) (t : Int) (j : Nat) (hj : j < C) (hq : i * C + j < L.length) : (mrTo L ys C i p t j).set (i * C + j) (L.getD (i * C + j) 0 + t * ys.getD (p * C + j) 0) = mrTo L ys C i p t (j + 1) := by
  refine list_getD (by rw [List.length_set, mrTo_length, mrTo_length]) fun q hq' => ?_
  rw [List.length_set, mrTo_length] at hq'
  rw [getD_set _ _ _ _ (by rw [mrTo_length]; exact hq), mrTo_getD _ _ _ _ _ _ _ _ hq', mrTo_getD _ _ _ _ _ _ _ _ hq']
  by_cases e : q = i * C + j
  · subst e
    rw [if_pos rfl, idx_div hj, idx_mod hj, if_pos ⟨rfl, by omega⟩]
  · rw [if_neg e]
    have hC : 0 < C := by omega
    by_cases h1 : q / C = i ∧ q % C < j
    · rw [if_pos h1, if_pos ⟨h1.1, by omega⟩]
    · rw [if_neg h1, if_neg]
      rintro ⟨h2, h3⟩
      have : q % C = j := by omega
      have hh : q / C * C + q % C = q := by rw [Nat.mul_comm]; exact Nat.div_add_mod q C
      rw [h2, this] at hh
      exact e hh.symm
set_option maxRecDepth 100000 in
set_option maxHeartbeats 1000000 in
theorem iMulStep (pb K C : Nat) (r : Value) (b : Option Addr) (nb : Nat) (ys : List Int) (n : Nat) (g m mc i p : Nat) (t : Int) (L : List Int) (w : World) (hp : Blk3 w pb 26 r (.int .i64 C) (.slice b n nb)) (hd : Rd w b ys) (hn : ys.length = n) (hy : n = K * C) (hC : C ≤ 24) (hK : K ≤ 24) (ny : nums ys = true)
    (hz : ∀ b' o : Nat, b = some ⟨b', o, none⟩ → 0 < n → b' ≠ g) (hne : pb ≠ g) (hI : Ints w g L) (hpK : p < K) (hm : ∀ j, j < C → i * C + j < m) (hl : m = L.length) (hb : m ≤ 576) (t1 : -400000000 ≤ t) (t2 : t ≤ 400000000)
    (bd : ∀ q : Nat, -4000000000000000000 ≤ L.getD q 0 ∧ L.getD q 0 ≤ 4000000000000000000) :
    Calls Try.prog 91 #[.slice (some ⟨g, 0, none⟩) m mc, .int .i64 (i : Int), .int .i64 (p : Int), .int .i64 t, .pointer (some ⟨pb, 0, none⟩)] w
      (fun e w2 => e = .returned (.slice (some ⟨g, 0, none⟩) m mc) ∧ Ints w2 g (mrTo L ys C i p t C) ∧ w.grownBy w2 (some g)) := by
  have I0 := Lib.hid hI
  have D := Lib.hid hd
  have HN := Lib.hid hn
  have HY := Lib.hid hy
  have NY := Lib.hid ny
  have HZ := Lib.hid hz
  have HM := Lib.hid hm
  have HL := Lib.hid hl
  have BD := Lib.hid bd
  have KP := Lib.hid hp
  obtain ⟨p0, p1, p2, -, -, -⟩ := hp.all
  clear hI hd hn hy ny hz hm hl bd hp
  go_enter Try.func91, Try.ntmps91
  go_wp2_with fail
  clear p0 p1 p2
  go_loopw [10, 13] (fun _ i' wr => ∃ j : Nat, i' = .int .i64 j ∧ j ≤ C ∧ Ints wr g (mrTo L ys C i p t j) ∧ w.grownBy wr (some g)) (fun _ i' _ => C - (intOf i').toNat)
  case atStart => exact ⟨0, rfl, by omega, by rw [mrTo_zero]; exact I0.out, World.grownBy.refl _ _⟩
  case round =>
    obtain ⟨j, rfl, hj, hi, hgr⟩ := hrel
    have I := Lib.hid hi
    have G := Lib.hid hgr
    clear hi hgr
    obtain ⟨p0, p1, p2, -, -, -⟩ := (KP.out.keepOne G.out hne).all
    by_cases hlt : j < C
    · have q1 : i * C + j < m := HM.out j hlt
      have q2 : p * C + j < n := by rw [HY.out]; exact idx_lt hpK hlt
      obtain ⟨b', o, rfl, hc2⟩ := D.out (p * C + j) (by rw [HN.out]; exact q2)
      have hbg : b' ≠ g := HZ.out b' o rfl (by omega)
      have hc2 := G.out.cell hc2 (by simpa using hbg)
      have hold := I.out.cell (i := i * C + j) (by rw [mrTo_length, ← HL.out]; exact q1)
      rw [mrTo_at L ys C i p t j hlt (by rw [← HL.out]; exact q1)] at hold
      have v1 := BD.out (i * C + j)
      have v2 := nums_at NY.out (j := p * C + j) (by rw [HN.out]; exact q2)
      obtain ⟨x, hx⟩ : ∃ x, L.getD (i * C + j) 0 = x := ⟨_, rfl⟩
      obtain ⟨y, hy⟩ : ∃ y, ys.getD (p * C + j) 0 = y := ⟨_, rfl⟩
      rw [hx] at hold v1
      rw [hy] at hc2 v2
      obtain ⟨v11, v12⟩ := v1
      obtain ⟨m1, m2⟩ := mul_num t y ⟨t1, t2⟩ v2
      have hfr := I.out.free (i * C + j)
      have XX := Lib.hid hx
      have YY := Lib.hid hy
      have n576 : n ≤ 576 := by rw [HY.out]; exact Nat.mul_le_mul hK hC
      have c1 : (i : Int) * (C : Int) = ((i * C : Nat) : Int) := (Int.natCast_mul _ _).symm
      have c2 : (p : Int) * (C : Int) = ((p * C : Nat) : Int) := (Int.natCast_mul _ _).symm
      have d1 : 0 ≤ (i : Int) * (C : Int) ∧ (i : Int) * (C : Int) ≤ 600 := by rw [c1]; omega
      have d2 : 0 ≤ (p : Int) * (C : Int) ∧ (p : Int) * (C : Int) ≤ 600 := by rw [c2]; omega
      have e1 : 0 ≤ (i : Int) * (C : Int) + (j : Int) := by omega
      have e2 : (i : Int) * (C : Int) + (j : Int) < (m : Int) := by rw [c1]; omega
      have e3 : ((i : Int) * (C : Int) + (j : Int)).toNat = i * C + j := by rw [c1]; omega
      have f1 : 0 ≤ (p : Int) * (C : Int) + (j : Int) := by omega
      have f2 : (p : Int) * (C : Int) + (j : Int) < (n : Int) := by rw [c2]; omega
      have f3 : ((p : Int) * (C : Int) + (j : Int)).toNat = p * C + j := by rw [c2]; omega
      obtain ⟨d11, d12⟩ := d1
      obtain ⟨d21, d22⟩ := d2
      have w1 : IntKind.i64.wrap ((i : Int) * (C : Int)) = (i : Int) * (C : Int) := IntWalk.i64_in _ (by omega)
      have w2 : IntKind.i64.wrap ((i : Int) * (C : Int) + (j : Int)) = (i : Int) * (C : Int) + (j : Int) := IntWalk.i64_in _ (by omega)
      have w3 : IntKind.i64.wrap ((p : Int) * (C : Int)) = (p : Int) * (C : Int) := IntWalk.i64_in _ (by omega)
      have w4 : IntKind.i64.wrap ((p : Int) * (C : Int) + (j : Int)) = (p : Int) * (C : Int) + (j : Int) := IntWalk.i64_in _ (by omega)
      have w5 : IntKind.i64.wrap (t * y) = t * y := IntWalk.i64_in _ (by omega)
      have w6 : IntKind.i64.wrap (x + t * y) = x + t * y := IntWalk.i64_in _ (by omega)
      clear c1 c2 hx hy v2 q1 q2
      go_wp2_with fail
      go_still_tail 23, (by kernel_rfl)
      go_wp2_with fail
      go_roundw
      case rel =>
        refine ⟨j + 1, by go_num, by omega, ?_, ?_⟩
        · rw [← mrTo_step L ys C i p t j hlt (by rw [← HL.out]; exact HM.out j hlt)]
          rw [XX.out, YY.out]
          first | exact I.out.set (i * C + j) _ | exact I.out.drew.set (i * C + j) _
        · first | exact grown_set_one G.out rfl _ | exact grown_drew_one (grown_set_one G.out rfl _)
      case measure => simp [intOf]; omega
    · obtain rfl : C = j := by omega
      go_wp2_with fail
      go_ret
      exact ⟨rfl, I.out, G.out⟩
def mulTo (R K C : Nat) (xs ys : List Int) (k : Nat) : List Int := tab R C fun i j => dot K C xs ys i j (min K (k - i * K))
theorem mulTo_length (R K C : Nat) (xs ys : List Int) (k : Nat) : (mulTo R K C xs ys k).length = R * C := tab_length _ _ _
theorem mulTo_zero (R K C : Nat) (xs ys : List Int) : mulTo R K C xs ys 0 = List.replicate (R * C) 0 := by
  apply List.ext_getElem (by simp [mulTo, tab])
  intro i h1 h2
  simp [mulTo, tab, dot]
theorem mulTo_all (R K C : Nat) (xs ys : List Int) : mulTo R K C xs ys (R * K) = mulL R K C xs ys := by
  refine tab_ext (mulTo_length _ _ _ _ _ _) fun i j hi hj => ?_
  unfold mulTo
  rw [tab_at R C _ hi hj]
  have h : (i + 1) * K ≤ R * K := Nat.mul_le_mul_right K hi
  rw [Nat.add_mul, Nat.one_mul] at h
  rw [show min K (R * K - i * K) = K by omega]
theorem mulTo_step (R K C : Nat) (xs ys : List Int) {i p : Nat} (hi : i < R) (hp : p < K) : mrTo (mulTo R K C xs ys (i * K + p)) ys C i p (xs.getD (i * K + p) 0) C = mulTo R K C xs ys (i * K + p + 1) := by
  refine tab_ext (by rw [mrTo_length, mulTo_length]) fun i' j' hi' hj' => ?_
  rw [mrTo_getD _ _ _ _ _ _ _ _ (by rw [mulTo_length]; exact idx_lt hi' hj'), idx_div hj', idx_mod hj']
  have e0 : (mulTo R K C xs ys (i * K + p)).getD (i' * C + j') 0 = dot K C xs ys i' j' (min K (i * K + p - i' * K)) := by unfold mulTo; rw [tab_at R C _ hi' hj']
  rw [e0]
  by_cases e : i' = i
  · subst e
    rw [if_pos ⟨rfl, hj'⟩, show min K (i' * K + p - i' * K) = p by omega, show min K (i' * K + p + 1 - i' * K) = p + 1 by omega]
    rfl
  · rw [if_neg (fun h => e h.1)]
    rcases Nat.lt_or_gt_of_ne e with h | h
    · have : (i' + 1) * K ≤ i * K := Nat.mul_le_mul_right K h
      rw [Nat.add_mul, Nat.one_mul] at this
      rw [show min K (i * K + p - i' * K) = K by omega, show min K (i * K + p + 1 - i' * K) = K by omega]
    · have : (i + 1) * K ≤ i' * K := Nat.mul_le_mul_right K h
      rw [Nat.add_mul, Nat.one_mul] at this
      rw [show min K (i * K + p - i' * K) = 0 by omega, show min K (i * K + p + 1 - i' * K) = 0 by omega]
theorem mulTo_bd (R K C : Nat) (xs ys : List Int) (hx : nums xs = true) (hy : nums ys = true) (lx : xs.length = R * K) (ly : ys.length = K * C) (hK : K ≤ 24) (k q : Nat) : -4000000000000000000 ≤ (mulTo R K C xs ys k).getD q 0 ∧ (mulTo R K C xs ys k).getD q 0 ≤ 4000000000000000000 := by
  rcases Nat.lt_or_ge q (R * C) with hq | hq
  · have hC : 0 < C := by
      rcases Nat.eq_zero_or_pos C with e | e
      · rw [e, Nat.mul_zero] at hq; omega
      · exact e
    have hi : q / C < R := Nat.div_lt_of_lt_mul (by rw [Nat.mul_comm]; exact hq)
    have hj : q % C < C := Nat.mod_lt q hC
    have e : q / C * C + q % C = q := by rw [Nat.mul_comm]; exact Nat.div_add_mod q C
    have := dot_bd (K := K) (C := C) (xs := xs) (ys := ys) (i := q / C) (j := q % C) (fun p hp => nums_at hx (by rw [lx]; exact idx_lt hi hp)) (fun p hp => nums_at hy (by rw [ly]; exact idx_lt hp hj)) (min K (k - q / C * K)) (Nat.min_le_left _ _)
    have e0 : (mulTo R K C xs ys k).getD q 0 = dot K C xs ys (q / C) (q % C) (min K (k - q / C * K)) := by
      rw [← e]
      unfold mulTo
      rw [tab_at R C _ hi hj, e]
    rw [e0]
    have hmin : min K (k - q / C * K) ≤ 24 := Nat.le_trans (Nat.min_le_left _ _) hK
    omega
  · have e0 : (mulTo R K C xs ys k).getD q 0 = 0 := by
      simp [List.getD, mulTo_length, hq]
    rw [e0]; omega
theorem mulStepOf (pb R K C nx n g m : Nat) (r : Value) (b : Option Addr) (nb : Nat) (xs ys : List Int) (w : World) (hp : Blk3 w pb 26 r (.int .i64 C) (.slice b n nb)) (hd : Rd w b ys) (hx : xs.length = nx) (hnx : nx = R * K) (hn : ys.length = n) (hy : n = K * C) (hR : R ≤ 24) (hK : K ≤ 24) (hC : C ≤ 24) (mx : nums xs = true) (ny : nums ys = true)
    (hz : ∀ b' o : Nat, b = some ⟨b', o, none⟩ → 0 < n → b' ≠ g) (hne : pb ≠ g) (hm : m = R * C) :
    ∀ (k : Nat) (w1 : World), k < nx → w.grownBy w1 (some g) → Ints w1 g (mulTo R K C xs ys k) → Calls Try.prog 91 #[.slice (some ⟨g, 0, none⟩) m m, .int .i64 ((k : Int) / (K : Int)), .int .i64 ((k : Int) % (K : Int)), .int .i64 (xs.getD k 0), .pointer (some ⟨pb, 0, none⟩)] w1
      (fun e w2 => e = .returned (.slice (some ⟨g, 0, none⟩) m m) ∧ Ints w2 g (mulTo R K C xs ys (k + 1)) ∧ w1.grownBy w2 (some g)) := by
  intro k w1 hk hg hI
  have hK0 : 0 < K := by
    rcases Nat.eq_zero_or_pos K with e | e
    · rw [e, Nat.mul_zero] at hnx; omega
    · exact e
  have e1 : k / K * K + k % K = k := by rw [Nat.mul_comm]; exact Nat.div_add_mod k K
  have hj : k % K < K := Nat.mod_lt k hK0
  have hi : k / K < R := Nat.div_lt_of_lt_mul (by rw [Nat.mul_comm, ← hnx]; exact hk)
  have st := mulTo_step R K C xs ys hi hj
  rw [e1] at st
  rw [← Int.natCast_ediv, ← Int.natCast_emod]
  have mle : m ≤ 576 := by rw [hm]; exact Nat.mul_le_mul hR hC
  have tb := nums_at mx (j := k) (by rw [hx]; exact hk)
  have hd1 : Rd w1 b ys := fun i hi => by
    obtain ⟨b', o, rfl, hc⟩ := hd i hi
    exact ⟨b', o, rfl, hg.cell hc (by simpa using hz b' o rfl (by omega))⟩
  refine (iMulStep pb K C r b nb ys n g m m (k / K) (k % K) (xs.getD k 0) _ w1 (hp.keepOne hg hne) hd1 hn hy hC hK ny hz hne hI hj (fun j hj' => by rw [hm]; exact idx_lt hi hj') (by rw [mulTo_length, hm]) mle tb.1 tb.2 (mulTo_bd R K C xs ys mx ny (by rw [hx, hnx]) (by rw [hn, hy]) hK k)).mono ?_
  rintro e w2 ⟨h1, h2, h3⟩
  rw [st] at h2
  exact ⟨h1, h2, h3⟩
set_option maxRecDepth 100000 in
set_option maxHeartbeats 1000000 in
theorem iMul_t (R K C : Nat) (a b : Option Addr) (m n : Nat) (xs ys : List Int) (w : World) (h : Rd w a xs) (h' : Rd w b ys) (hn : xs.length ≤ 16777216) (hn' : ys.length ≤ 16777216)
    (hm : isMat R K xs = true) (hm' : isMat K C ys = true) :
    Calls Try.prog 39 #[.agg #[.int .i64 R, .int .i64 K, .slice a xs.length m], .agg #[.int .i64 K, .int .i64 C, .slice b ys.length n]] w (MatRes (MR.done R C (mulL R K C xs ys)) w) := by
  obtain ⟨⟨r1, r2⟩, ⟨k1, k2⟩, l1, nx⟩ := isMat_says hm
  obtain ⟨-, ⟨c1, c2⟩, l2, ny⟩ := isMat_says hm'
  rw [← Int.natCast_mul] at l1 l2
  have hR : R ≤ 24 := by omega
  have hK : K ≤ 24 := by omega
  have hC : C ≤ 24 := by omega
  have hle : R * C ≤ 24 * 24 := Nat.mul_le_mul hR hC
  obtain ⟨nxs, hx⟩ : ∃ n, xs.length = n := ⟨_, rfl⟩
  obtain ⟨nys, hy⟩ : ∃ n, ys.length = n := ⟨_, rfl⟩
  have HX := Lib.hid hx
  have HY := Lib.hid hy
  have HXN : Hid (nxs = R * K) := by show nxs = R * K; omega
  have HYN : Hid (nys = K * C) := by show nys = K * C; omega
  have hmk := makeProd R C (by omega)
  have hp1 : (0 : Int) ≤ (R : Int) * (C : Int) := by rw [← Int.natCast_mul]; omega
  have hp2 : (R : Int) * (C : Int) ≤ 16777216 := by rw [← Int.natCast_mul]; omega
  have hp3 : IntKind.i64.wrap ((R : Int) * (C : Int)) = (R : Int) * (C : Int) := IntWalk.i64_in _ (by omega)
  obtain ⟨N, hN⟩ : ∃ N, R * C = N := ⟨_, rfl⟩
  have HN := Lib.hid hN
  rw [hN] at hmk hle
  have NX := Lib.hid nx
  have NY := Lib.hid ny
  have M := Lib.hid hm
  have M' := Lib.hid hm'
  rw [hx] at hn ⊢
  rw [hy] at hn' ⊢
  have B0 : ∀ o1 o2 o3, Below w.heap.size w (((w.alloc o1).alloc o2).alloc o3) := fun o1 o2 o3 => (((Below.refl _ _).alloc (Nat.le_refl _) _).alloc (by simp) _).alloc (by simp <;> omega) _
  have BH := Lib.hid B0
  have H := Lib.hid h
  have H' := Lib.hid h'
  clear r1 r2 k1 k2 c1 c2 l1 l2 nx ny hm hm' hx hy hN h h' B0
  go_enter Try.func39, Try.ntmps39
  go_wp2_with fail
  have ST := iIsMat R K a m xs _ (H.out.below (BH.out (.cells #[.int .i64 R, .int .i64 K, .slice a nxs m] 26) (.cells #[.int .i64 K, .int .i64 C, .slice b nys n] 26) (.cells #[.int .i64 0, .int .i64 0, .slice none 0 0] 26))) (by rw [HX.out]; omega)
  rw [HX.out] at ST
  refine ST.mono ?_
  clear ST
  rintro e w1 ⟨rfl, hb⟩
  have K0 : Hid (Blk3 w1 w.heap.size 26 (.int .i64 R) (.int .i64 K) (.slice a nxs m)) := (((Blk3.at_ _ _ _ _ rfl).old _).old _).keep hb (by simp <;> omega)
  have K1 : Hid (Blk3 w1 (w.heap.size + 1) 26 (.int .i64 K) (.int .i64 C) (.slice b nys n)) := ((Blk3.at_ _ _ _ _ (by simp)).old _).keep hb (by simp <;> omega)
  have K2 : Hid (Blk3 w1 (w.heap.size + 1 + 1) 26 (.int .i64 0) (.int .i64 0) (.slice none 0 0)) := (Blk3.at_ _ _ _ _ (by simp)).keep hb (by simp)
  have B : Hid (Below w.heap.size w w1) := (BH.out _ _ _).trans (hb.mono (by simp <;> omega))
  clear hb
  obtain ⟨c0, c1, c2, -, -, -⟩ := K0.out.all
  obtain ⟨d0, d1, d2, -, -, -⟩ := K1.out.all
  rw [M.out]
  go_wp2_with fail
  have ST := iIsMat K C b n ys _ (H'.out.below B.out) (by rw [HY.out]; omega)
  rw [HY.out] at ST
  refine ST.mono ?_
  clear ST
  rintro e w2 ⟨rfl, hb⟩
  have K0 := Lib.hid (K0.out.step hb)
  have K1 := Lib.hid (K1.out.step hb)
  have K2 := Lib.hid (K2.out.step hb)
  have B := Lib.hid (stepB B.out hb)
  clear hb
  obtain ⟨e0, e1, e2, -, -, -⟩ := K0.out.all
  obtain ⟨g0, g1, g2, -, -, -⟩ := K1.out.all
  rw [M'.out]
  go_upto_region 3 with fail
  refine wp_region_held_drew (S := fun w' => Below w2.heap.size w2 w') (by kernel_rfl) (Below.refl _ _).drew (fun hH => ?_)
  refine wpAnyH_take (i := 0) (v := ?_) (by simp only [List.getElem?_toArray, List.getElem?_cons_zero]; rfl) (by kernel_rfl) (by kernel_rfl) (by kernel_rfl) (by exact fun _ _ _ h => h) (Or.inl ⟨by rfl, ?_⟩) hH ?_
  rotate_left
  · (intro wS hS; (try dsimp only at hS); obtain ⟨k1, k2, k3, k4, k5, k6⟩ := six K0.out K1.out hS; go_simp; try rfl)
  try simp only [Act.put, List.setIfInBounds_toArray, List.set_cons_zero, List.set_cons_succ]
  refine wpAnyH_take (i := 1) (v := ?_) (by simp only [List.getElem?_toArray, List.getElem?_cons_succ, List.getElem?_cons_zero]; rfl) (by kernel_rfl) (by kernel_rfl) (by kernel_rfl) (by exact fun _ _ _ h => h) (Or.inl ⟨by rfl, ?_⟩) hH ?_
  rotate_left
  · (intro wS hS; (try dsimp only at hS); obtain ⟨k1, k2, k3, k4, k5, k6⟩ := six K0.out K1.out hS; go_simp; try rfl)
  try simp only [Act.put, List.setIfInBounds_toArray, List.set_cons_zero, List.set_cons_succ]
  refine wpAnyH_take (i := 2) (v := ?_) (by simp only [List.getElem?_toArray, List.getElem?_cons_succ, List.getElem?_cons_zero]; rfl) (by kernel_rfl) (by kernel_rfl) (by kernel_rfl) (by exact fun _ _ _ h => h) (Or.inl ⟨by rfl, ?_⟩) hH ?_
  rotate_left
  · (intro wS hS; (try dsimp only at hS); obtain ⟨k1, k2, k3, k4, k5, k6⟩ := six K0.out K1.out hS; go_simp; try rfl)
  try simp only [Act.put, List.setIfInBounds_toArray, List.set_cons_zero, List.set_cons_succ]
  refine wpAnyH_take (i := 3) (v := ?_) (by simp only [List.getElem?_toArray, List.getElem?_cons_succ, List.getElem?_cons_zero]; rfl) (by kernel_rfl) (by kernel_rfl) (by kernel_rfl) (by exact fun _ _ _ h => h) (Or.inl ⟨by rfl, ?_⟩) hH ?_
  rotate_left
  · (intro wS hS; (try dsimp only at hS); obtain ⟨k1, k2, k3, k4, k5, k6⟩ := six K0.out K1.out hS; go_simp; try rfl)
  try simp only [Act.put, List.setIfInBounds_toArray, List.set_cons_zero, List.set_cons_succ]
  refine wpAnyH_take (i := 4) (v := ?_) (by simp only [List.getElem?_toArray, List.getElem?_cons_succ, List.getElem?_cons_zero]; rfl) (by kernel_rfl) (by kernel_rfl) (by kernel_rfl) (by exact fun _ _ _ h => h) (Or.inl ⟨by rfl, ?_⟩) hH ?_
  rotate_left
  · (intro wS hS; (try dsimp only at hS); obtain ⟨k1, k2, k3, k4, k5, k6⟩ := six K0.out K1.out hS; go_simp; try rfl)
  try simp only [Act.put, List.setIfInBounds_toArray, List.set_cons_zero, List.set_cons_succ]
  refine wpAnyH_take (i := 5) (v := ?_) (by simp only [List.getElem?_toArray, List.getElem?_cons_succ, List.getElem?_cons_zero]; rfl) (by kernel_rfl) (by kernel_rfl) (by kernel_rfl) (by exact fun _ _ _ h => h) (Or.inl ⟨by rfl, ?_⟩) hH ?_
  rotate_left
  · (intro wS hS; clear hS; go_simp; try rfl)
  try simp only [Act.put, List.setIfInBounds_toArray, List.set_cons_zero, List.set_cons_succ]
  refine wpAnyH_take (i := 7) (v := ?_) (by simp only [List.getElem?_toArray, List.getElem?_cons_succ, List.getElem?_cons_zero]; rfl) (by kernel_rfl) (by kernel_rfl) (by kernel_rfl) (by exact fun _ _ _ h => h) (Or.inl ⟨by rfl, ?_⟩) hH ?_
  rotate_left
  · (intro wS hS; clear hS; go_simp; try rfl)
  try simp only [Act.put, List.setIfInBounds_toArray, List.set_cons_zero, List.set_cons_succ]
  refine wpAnyH_ready (rs := [6]) (by kernel_rfl) (by simp) ?_
  refine AllReadyH.cons (by simp only [List.getElem?_toArray, List.getElem?_cons_succ, List.getElem?_cons_zero]; rfl) (fun KK hKK => ?_) AllReadyH.nil
  go_simp
  have I0 : Hid (Ints (w2.alloc (.cells (madeCells #[.int .i64 0] N) 3)) w2.heap.size (List.replicate N 0)) := Ints.made N rfl
  try dsimp only
  refine hKK.out _ _ ?_ (fun hH2 => ?_)
  · exact hH.alloc hH.size _
  clear hKK KK
  have hO := hH
  clear hH
  have hH := hH2
  clear hH2
  try simp only [Act.put, List.setIfInBounds_toArray, List.set_cons_zero, List.set_cons_succ]
  refine wpAnyH_ready (rs := [8]) (by kernel_rfl) (by simp) ?_
  refine AllReadyH.cons (by simp only [List.getElem?_toArray, List.getElem?_cons_succ, List.getElem?_cons_zero]; rfl) (fun KK hKK => ?_) AllReadyH.nil
  go_simp
  refine (iFoldM (w.heap.size + 1) R K nxs a m xs w2.heap.size N N (mulTo R K C xs ys) _ HX.out (H.out.below (B.out.trans (hH.mono B.out.size))) HXN.out hR hK (by rw [mulTo_zero, HN.out]; first | exact I0.out | exact I0.out.drew) (far_of (H.out.below B.out) HX.out) (mulStepOf (w.heap.size + 1) R K C nxs nys w2.heap.size N _ b n xs ys _ (K1.out.keep hH K1.out.lt) (H'.out.below (B.out.trans (hH.mono B.out.size))) HX.out HXN.out HY.out HYN.out hR hK hC NX.out NY.out (far_of (H'.out.below B.out) HY.out) (Nat.ne_of_lt K1.out.lt) HN.out.symm)).mono ?_
  rintro e v1 ⟨rfl, hi, hg⟩
  have I2 := Lib.hid hi
  clear hi
  try dsimp only
  refine hKK.out _ _ ?_ (fun hH2 => ?_)
  · exact hH.trans (below_of_one hg (Nat.le_refl _) hH.size)
  clear hKK KK
  have hO := hH
  clear hH
  have hH := hH2
  clear hH2
  try simp only [Act.put, List.setIfInBounds_toArray, List.set_cons_zero, List.set_cons_succ]
  refine wpAnyH_take (i := 9) (v := ?_) (by simp only [List.getElem?_toArray, List.getElem?_cons_succ, List.getElem?_cons_zero]; rfl) (by kernel_rfl) (by kernel_rfl) (by kernel_rfl) (by exact fun _ _ _ h => h) (Or.inl ⟨by rfl, ?_⟩) hH ?_
  rotate_left
  · (intro wS hS; clear hS; go_simp; try rfl)
  try simp only [Act.put, List.setIfInBounds_toArray, List.set_cons_zero, List.set_cons_succ]
  refine wpAnyH_done (by kernel_rfl) ?_ _
  have hb := hH
  clear hH hO hg
  have EQ : mulTo R K C xs ys nxs = mulL R K C xs ys := by rw [HXN.out]; exact mulTo_all R K C xs ys
  rw [EQ] at I2
  have HL : Hid ((mulL R K C xs ys).length = N) := by show (mulL R K C xs ys).length = N; unfold mulL; rw [tab_length, HN.out]
  have gl := K2.out.lt
  have K0 := Lib.hid (K0.out.step hb)
  have K1 := Lib.hid (K1.out.step hb)
  have R2 := Lib.hid (K2.out.step hb)
  have B := Lib.hid (stepB B.out hb)
  clear hb EQ
  obtain ⟨u0, u1, u2, -, -, -⟩ := K0.out.all
  obtain ⟨y0, y1, y2, -, -, -⟩ := K1.out.all
  go_wp2_with fail
  have ST := iDone R C (some ⟨w2.heap.size, 0, none⟩) N (mulL R K C xs ys) _ I2.out.rd (by rw [HL.out]; omega)
  rw [HL.out] at ST
  refine ST.mono ?_
  clear ST
  rintro e w4 ⟨rfl, hb⟩
  have R2 := Lib.hid (R2.out.step hb)
  have I2 := Lib.hid (I2.out.keep hb I2.out.lt)
  have B := Lib.hid (stepB B.out hb)
  clear hb
  obtain ⟨s0, s1, s2, t0, t1, t2⟩ := R2.out.all
  have be : ∀ x y z, Below w.heap.size w (((w4.setCell ⟨w.heap.size + 1 + 1, 0, none⟩ x).setCell ⟨w.heap.size + 1 + 1, 1, none⟩ y).setCell ⟨w.heap.size + 1 + 1, 2, none⟩ z) := fun x y z =>
    (((B.out.setCell (by show w.heap.size ≤ w.heap.size + 1 + 1; omega) _).setCell (by show w.heap.size ≤ w.heap.size + 1 + 1; omega) _).setCell (by show w.heap.size ≤ w.heap.size + 1 + 1; omega) _)
  have BE := Lib.hid be
  clear be
  rcases Bool.eq_false_or_eq_true (isMat R C (mulL R K C xs ys)) with hd | hd
  · have E : Hid (MR.done R C (mulL R K C xs ys) = ⟨true, R, C, mulL R K C xs ys⟩) := by show MR.done R C (mulL R K C xs ys) = _; unfold MR.done; rw [hd]; rfl
    rw [hd]
    clear hd
    unfold DoneRes
    go_wp2_with fail
    obtain ⟨E0, E1, E2, -, -, -⟩ := (((R2.out.set0 (.int .i64 R)).set1 (.int .i64 C)).set2 (.slice (some ⟨w2.heap.size, 0, none⟩) N N)).all
    rw [E.out]
    refine bodyPost_ret (v := .tuple #[.agg #[.int .i64 R, .int .i64 C, .slice (some ⟨w2.heap.size, 0, none⟩) N N], .bool true]) (by simp [results, Try.results39, go_sem, E0, E1, E2]) rfl ⟨_, rfl, ?_, ?_⟩
    · refine .inr ⟨w2.heap.size, N, by rw [HL.out], by omega, ?_, by rw [HL.out]; omega, by rw [HL.out]; omega⟩
      exact ((I2.out.far (by show w2.heap.size ≠ w.heap.size + 1 + 1; omega) _).far (by show w2.heap.size ≠ w.heap.size + 1 + 1; omega) _).far (by show w2.heap.size ≠ w.heap.size + 1 + 1; omega) _
    · exact BE.out _ _ _
  · have E : Hid (MR.done R C (mulL R K C xs ys) = MR.no) := by show MR.done R C (mulL R K C xs ys) = _; unfold MR.done; rw [hd]; rfl
    rw [hd]
    clear hd
    unfold DoneRes
    go_wp2_with fail
    obtain ⟨E0, E1, E2, -, -, -⟩ := (((R2.out.set0 (.int .i64 0)).set1 (.int .i64 0)).set2 (.slice none 0 0)).all
    rw [E.out]
    exact bodyPost_ret (v := .tuple #[.agg #[.int .i64 0, .int .i64 0, .slice none 0 0], .bool false]) (by simp [results, Try.results39, go_sem, E0, E1, E2]) rfl ⟨_, rfl, .inl ⟨rfl, rfl⟩, BE.out _ _ _⟩
set_option maxRecDepth 100000 in
set_option maxHeartbeats 1000000 in
theorem iMul (r c r' c' : Int) (a b : Option Addr) (m n : Nat) (xs ys : List Int) (w : World) (h : Rd w a xs) (h' : Rd w b ys) (hn : xs.length ≤ 16777216) (hn' : ys.length ≤ 16777216) :
    Calls Try.prog 39 #[.agg #[.int .i64 r, .int .i64 c, .slice a xs.length m], .agg #[.int .i64 r', .int .i64 c', .slice b ys.length n]] w (MatRes (mulM r c xs r' c' ys) w) := by
  rcases Bool.eq_false_or_eq_true (isMat r c xs) with hm | hm
  · rcases Bool.eq_false_or_eq_true (isMat r' c' ys) with hm' | hm'
    · by_cases e1 : c = r'
      · subst e1
        obtain ⟨⟨r1, r2⟩, ⟨k1, k2⟩, -, -⟩ := isMat_says hm
        obtain ⟨-, ⟨c1, c2⟩, -, -⟩ := isMat_says hm'
        obtain ⟨R, rfl⟩ := Int.eq_ofNat_of_zero_le r1
        obtain ⟨K, rfl⟩ := Int.eq_ofNat_of_zero_le k1
        obtain ⟨C, rfl⟩ := Int.eq_ofNat_of_zero_le c1
        have E : mulM R K xs K C ys = MR.done R C (mulL R K C xs ys) := by unfold mulM; rw [hm, hm']; simp
        rw [E]
        exact iMul_t R K C a b m n xs ys w h h' hn hn' hm hm'
      · have E : Hid (mulM r c xs r' c' ys = MR.no) := by show mulM r c xs r' c' ys = _; unfold mulM; rw [hm, hm']; simp [e1]
        have n1 : (c == r') = false := by simpa using e1
        have n2 : (c != r') = true := by simpa using e1
        have B0 : ∀ o1 o2 o3, Below w.heap.size w (((w.alloc o1).alloc o2).alloc o3) := fun o1 o2 o3 => (((Below.refl _ _).alloc (Nat.le_refl _) _).alloc (by simp) _).alloc (by simp <;> omega) _
        have BH := Lib.hid B0
        have H := Lib.hid h
        have H' := Lib.hid h'
        clear B0 h h'
        have M := Lib.hid hm
        have M' := Lib.hid hm'
        clear hm hm' e1
        go_enter Try.func39, Try.ntmps39
        go_wp2_with fail
        refine (iIsMat r c a m xs _ (H.out.below (BH.out (.cells #[.int .i64 r, .int .i64 c, .slice a xs.length m] 26) (.cells #[.int .i64 r', .int .i64 c', .slice b ys.length n] 26) (.cells #[.int .i64 0, .int .i64 0, .slice none 0 0] 26))) hn).mono ?_
        rintro e w1 ⟨rfl, hb⟩
        have K0 : Hid (Blk3 w1 w.heap.size 26 (.int .i64 r) (.int .i64 c) (.slice a xs.length m)) := (((Blk3.at_ _ _ _ _ rfl).old _).old _).keep hb (by simp <;> omega)
        have K1 : Hid (Blk3 w1 (w.heap.size + 1) 26 (.int .i64 r') (.int .i64 c') (.slice b ys.length n)) := ((Blk3.at_ _ _ _ _ (by simp)).old _).keep hb (by simp <;> omega)
        have K2 : Hid (Blk3 w1 (w.heap.size + 1 + 1) 26 (.int .i64 0) (.int .i64 0) (.slice none 0 0)) := (Blk3.at_ _ _ _ _ (by simp)).keep hb (by simp)
        have B : Hid (Below w.heap.size w w1) := (BH.out _ _ _).trans (hb.mono (by simp <;> omega))
        clear hb
        obtain ⟨ca0, ca1, ca2, -, -, -⟩ := K0.out.all
        obtain ⟨cb0, cb1, cb2, -, -, -⟩ := K1.out.all
        obtain ⟨cc0, cc1, cc2, ff0, ff1, ff2⟩ := K2.out.all
        rw [M.out]
        go_wp2_with fail
        refine (iIsMat r' c' b n ys _ (H'.out.below B.out) hn').mono ?_
        rintro e w2 ⟨rfl, hb⟩
        have K0 := Lib.hid (K0.out.keep hb K0.out.lt)
        have K1 := Lib.hid (K1.out.keep hb K1.out.lt)
        have K2 := Lib.hid (K2.out.keep hb K2.out.lt)
        have B := Lib.hid (B.out.trans (hb.mono B.out.size))
        clear hb
        obtain ⟨da0, da1, da2, -, -, -⟩ := K0.out.all
        obtain ⟨db0, db1, db2, -, -, -⟩ := K1.out.all
        obtain ⟨dc0, dc1, dc2, gf0, gf1, gf2⟩ := K2.out.all
        rw [M'.out]
        go_wp2_with fail
        obtain ⟨E0, E1, E2, -, -, -⟩ := (((K2.out.set0 (.int .i64 0)).set1 (.int .i64 0)).set2 (.slice none 0 0)).all
        rw [E.out]
        exact bodyPost_ret (v := .tuple #[.agg #[.int .i64 0, .int .i64 0, .slice none 0 0], .bool false]) (by simp [results, Try.results39, go_sem, E0, E1, E2]) rfl ⟨_, rfl, .inl ⟨rfl, rfl⟩, ((B.out.setCell (by show w.heap.size ≤ w.heap.size + 1 + 1; omega) _).setCell (by show w.heap.size ≤ w.heap.size + 1 + 1; omega) _).setCell (by show w.heap.size ≤ w.heap.size + 1 + 1; omega) _⟩
    · have E : Hid (mulM r c xs r' c' ys = MR.no) := by show mulM r c xs r' c' ys = _; unfold mulM; rw [hm, hm']; simp
      have B0 : ∀ o1 o2 o3, Below w.heap.size w (((w.alloc o1).alloc o2).alloc o3) := fun o1 o2 o3 => (((Below.refl _ _).alloc (Nat.le_refl _) _).alloc (by simp) _).alloc (by simp <;> omega) _
      have BH := Lib.hid B0
      have H := Lib.hid h
      have H' := Lib.hid h'
      clear B0 h h'
      have M := Lib.hid hm
      have M' := Lib.hid hm'
      clear hm hm'
      go_enter Try.func39, Try.ntmps39
      go_wp2_with fail
      refine (iIsMat r c a m xs _ (H.out.below (BH.out (.cells #[.int .i64 r, .int .i64 c, .slice a xs.length m] 26) (.cells #[.int .i64 r', .int .i64 c', .slice b ys.length n] 26) (.cells #[.int .i64 0, .int .i64 0, .slice none 0 0] 26))) hn).mono ?_
      rintro e w1 ⟨rfl, hb⟩
      have K0 : Hid (Blk3 w1 w.heap.size 26 (.int .i64 r) (.int .i64 c) (.slice a xs.length m)) := (((Blk3.at_ _ _ _ _ rfl).old _).old _).keep hb (by simp <;> omega)
      have K1 : Hid (Blk3 w1 (w.heap.size + 1) 26 (.int .i64 r') (.int .i64 c') (.slice b ys.length n)) := ((Blk3.at_ _ _ _ _ (by simp)).old _).keep hb (by simp <;> omega)
      have K2 : Hid (Blk3 w1 (w.heap.size + 1 + 1) 26 (.int .i64 0) (.int .i64 0) (.slice none 0 0)) := (Blk3.at_ _ _ _ _ (by simp)).keep hb (by simp)
      have B : Hid (Below w.heap.size w w1) := (BH.out _ _ _).trans (hb.mono (by simp <;> omega))
      clear hb
      obtain ⟨ca0, ca1, ca2, -, -, -⟩ := K0.out.all
      obtain ⟨cb0, cb1, cb2, -, -, -⟩ := K1.out.all
      obtain ⟨cc0, cc1, cc2, ff0, ff1, ff2⟩ := K2.out.all
      rw [M.out]
      go_wp2_with fail
      refine (iIsMat r' c' b n ys _ (H'.out.below B.out) hn').mono ?_
      rintro e w2 ⟨rfl, hb⟩
      have K0 := Lib.hid (K0.out.keep hb K0.out.lt)
      have K1 := Lib.hid (K1.out.keep hb K1.out.lt)
      have K2 := Lib.hid (K2.out.keep hb K2.out.lt)
      have B := Lib.hid (B.out.trans (hb.mono B.out.size))
      clear hb
      obtain ⟨da0, da1, da2, -, -, -⟩ := K0.out.all
      obtain ⟨db0, db1, db2, -, -, -⟩ := K1.out.all
      obtain ⟨dc0, dc1, dc2, gf0, gf1, gf2⟩ := K2.out.all
      rw [M'.out]
      go_wp2_with fail
      obtain ⟨E0, E1, E2, -, -, -⟩ := (((K2.out.set0 (.int .i64 0)).set1 (.int .i64 0)).set2 (.slice none 0 0)).all
      rw [E.out]
      exact bodyPost_ret (v := .tuple #[.agg #[.int .i64 0, .int .i64 0, .slice none 0 0], .bool false]) (by simp [results, Try.results39, go_sem, E0, E1, E2]) rfl ⟨_, rfl, .inl ⟨rfl, rfl⟩, ((B.out.setCell (by show w.heap.size ≤ w.heap.size + 1 + 1; omega) _).setCell (by show w.heap.size ≤ w.heap.size + 1 + 1; omega) _).setCell (by show w.heap.size ≤ w.heap.size + 1 + 1; omega) _⟩
  · have E : Hid (mulM r c xs r' c' ys = MR.no) := by show mulM r c xs r' c' ys = _; unfold mulM; rw [hm]; simp
    have B0 : ∀ o1 o2 o3, Below w.heap.size w (((w.alloc o1).alloc o2).alloc o3) := fun o1 o2 o3 => (((Below.refl _ _).alloc (Nat.le_refl _) _).alloc (by simp) _).alloc (by simp <;> omega) _
    have BH := Lib.hid B0
    have H := Lib.hid h
    have H' := Lib.hid h'
    clear B0 h h'
    have M := Lib.hid hm
    clear hm hn'
    go_enter Try.func39, Try.ntmps39
    go_wp2_with fail
    refine (iIsMat r c a m xs _ (H.out.below (BH.out (.cells #[.int .i64 r, .int .i64 c, .slice a xs.length m] 26) (.cells #[.int .i64 r', .int .i64 c', .slice b ys.length n] 26) (.cells #[.int .i64 0, .int .i64 0, .slice none 0 0] 26))) hn).mono ?_
    rintro e w1 ⟨rfl, hb⟩
    have K0 : Hid (Blk3 w1 w.heap.size 26 (.int .i64 r) (.int .i64 c) (.slice a xs.length m)) := (((Blk3.at_ _ _ _ _ rfl).old _).old _).keep hb (by simp <;> omega)
    have K1 : Hid (Blk3 w1 (w.heap.size + 1) 26 (.int .i64 r') (.int .i64 c') (.slice b ys.length n)) := ((Blk3.at_ _ _ _ _ (by simp)).old _).keep hb (by simp <;> omega)
    have K2 : Hid (Blk3 w1 (w.heap.size + 1 + 1) 26 (.int .i64 0) (.int .i64 0) (.slice none 0 0)) := (Blk3.at_ _ _ _ _ (by simp)).keep hb (by simp)
    have B : Hid (Below w.heap.size w w1) := (BH.out _ _ _).trans (hb.mono (by simp <;> omega))
    clear hb
    obtain ⟨ca0, ca1, ca2, -, -, -⟩ := K0.out.all
    obtain ⟨cb0, cb1, cb2, -, -, -⟩ := K1.out.all
    obtain ⟨cc0, cc1, cc2, ff0, ff1, ff2⟩ := K2.out.all
    rw [M.out]
    go_wp2_with fail
    obtain ⟨E0, E1, E2, -, -, -⟩ := (((K2.out.set0 (.int .i64 0)).set1 (.int .i64 0)).set2 (.slice none 0 0)).all
    rw [E.out]
    exact bodyPost_ret (v := .tuple #[.agg #[.int .i64 0, .int .i64 0, .slice none 0 0], .bool false]) (by simp [results, Try.results39, go_sem, E0, E1, E2]) rfl ⟨_, rfl, .inl ⟨rfl, rfl⟩, ((B.out.setCell (by show w.heap.size ≤ w.heap.size + 1 + 1; omega) _).setCell (by show w.heap.size ≤ w.heap.size + 1 + 1; omega) _).setCell (by show w.heap.size ≤ w.heap.size + 1 + 1; omega) _⟩
end Go.Proofs.Ytpelnfenfeoeeaa
end

section
/-
  Chapter 7, in the program: two rows of any matrix swapped in place.
-/
namespace Go.Proofs.Ytpelnfenfeoeeaa
set_option maxRecDepth 100000
open Go.RowKit
end Go.Proofs.Ytpelnfenfeoeeaa
end

section
/-
  Chapter 1, in the program: GcdOf.
-/
namespace Go.Proofs.Ytpelnfenfeoeeaa
open Go.RowKit
end Go.Proofs.Ytpelnfenfeoeeaa
end

section
/-
  Chapter 7, in the program: a row without its cell in the pivot's column.
-/
namespace Go.Proofs.Ytpelnfenfeoeeaa
set_option maxRecDepth 100000
open Go.RowKit
end Go.Proofs.Ytpelnfenfeoeeaa
end

section
/-
  Chapter 7, in the program: the elimination.
-/
namespace Go.Proofs.Ytpelnfenfeoeeaa
set_option maxRecDepth 100000
open Go.RowKit
theorem cel3 {w : World} {b : Nat} {x y z : Value} (h : Blk3 w b 26 x y z) : w.cell? ⟨b, 0, none⟩ = some x ∧ w.cell? ⟨b, 1, none⟩ = some y ∧ w.cell? ⟨b, 2, none⟩ = some z := ⟨h.all.1, h.all.2.1, h.all.2.2.1⟩
end Go.Proofs.Ytpelnfenfeoeeaa
end

section
/-
  Chapter 7, in the program: the elimination, walked.
-/
namespace Go.Proofs.Ytpelnfenfeoeeaa
set_option maxRecDepth 100000
open Go.RowKit
end Go.Proofs.Ytpelnfenfeoeeaa
end

section
/-
  Chapter 7, in the program: EchelonOf and RankOf of any matrix.
-/
namespace Go.Proofs.Ytpelnfenfeoeeaa
set_option maxRecDepth 100000
open Go.RowKit
end Go.Proofs.Ytpelnfenfeoeeaa
end
