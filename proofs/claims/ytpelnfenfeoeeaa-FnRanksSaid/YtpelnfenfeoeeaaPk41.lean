/-
  Texts of this seat, joined: ZBHmX · ZBMatI3 · ZBHiX · ZBHmB · ZBHmI · ZBHmR · ZBApC · ZBHmZ
-/
import Derived.Test.YtpelnfenfeoeeaaPk34
import Derived.Test.YtpelnfenfeoeeaaPk35
import Derived.Test.YtpelnfenfeoeeaaPk38
import Derived.Test.YtpelnfenfeoeeaaPk39
import Derived.Test.YtpelnfenfeoeeaaPk40

section
/-
  Chapter 12, in the model: HermiteForm.
-/
namespace Go.Proofs.Ytpelnfenfeoeeaa
set_option maxRecDepth 100000
open Go.RowKit
structure HR where
  ok : Bool
  r1 : Int
  c1 : Int
  zs : List Int
  r2 : Int
  c2 : Int
  us : List Int
def HR.no : HR := ⟨false, 0, 0, [], 0, 0, []⟩
def HR.of (r c : Int) : Option HSt → HR
  | some s => ⟨true, r, c, s.1, r, r, s.2⟩
  | none => HR.no
def herR (r c : Int) (xs : List Int) : HR := if isMat r c xs = true then HR.of r c (herX r.toNat c.toNat xs) else HR.no
def HerG (w : World) (R : HR) (e : Ending) (w' : World) : Prop :=
  ∃ (va vb : Value), e = .returned (.tuple #[.agg #[.int .i64 R.r1, .int .i64 R.c1, va], .agg #[.int .i64 R.r2, .int .i64 R.c2, vb], .bool R.ok]) ∧ Own w.heap.size w' va R.zs ∧ Own w.heap.size w' vb R.us ∧ (∀ k, va.ownBlock = some k → vb.ownBlock ≠ some k) ∧ Below w.heap.size w w'
set_option maxHeartbeats 4000000 in
theorem sHerm (r c : Int) (a : Option Addr) (m : Nat) (xs : List Int) (w : World) (h : Rd w a xs) (hn : xs.length ≤ 16777216) (ha : Spot a) :
    Calls Try.prog 36 #[.agg #[.int .i64 r, .int .i64 c, .slice a xs.length m]] w (HerG w (herR r c xs)) := by
  have IM : Hid (∀ w', Below w.heap.size w w' → Calls Try.prog 53 #[.agg #[.int .i64 r, .int .i64 c, .slice a xs.length m]] w' (Gives (.bool (isMat r c xs)) w')) := fun w' hb => sIsMat r c a m xs w' (h.below hb) hn
  cases hm : isMat r c xs with
  | false =>
    have RN : Hid (herR r c xs = HR.no) := by show _ = _; unfold herR; rw [if_neg (by rw [hm]; decide)]
    rw [hm] at IM
    generalize herR r c xs = RES at RN ⊢
    generalize xs.length = L at IM ⊢
    clear h hn ha hm
    go_enter Try.func36, Try.ntmps36
    go_upto_region 1 with fail
    have K0 : Hid (Blk3 (((w.alloc (.cells #[.int .i64 r, .int .i64 c, .slice a L m] 26)).alloc (.cells #[.int .i64 0, .int .i64 0, .slice none 0 0] 26)).alloc (.cells #[.int .i64 0, .int .i64 0, .slice none 0 0] 26)) w.heap.size 26 (.int .i64 r) (.int .i64 c) (.slice a L m)) := ((Blk3.at_ _ _ _ _ rfl).old _).old _
    have R0 : Hid (Blk3 (((w.alloc (.cells #[.int .i64 r, .int .i64 c, .slice a L m] 26)).alloc (.cells #[.int .i64 0, .int .i64 0, .slice none 0 0] 26)).alloc (.cells #[.int .i64 0, .int .i64 0, .slice none 0 0] 26)) (w.heap.size + 1) 26 (.int .i64 0) (.int .i64 0) (.slice none 0 0)) := (Blk3.at_ _ _ _ _ (by simp)).old _
    have Q0 : Hid (Blk3 (((w.alloc (.cells #[.int .i64 r, .int .i64 c, .slice a L m] 26)).alloc (.cells #[.int .i64 0, .int .i64 0, .slice none 0 0] 26)).alloc (.cells #[.int .i64 0, .int .i64 0, .slice none 0 0] 26)) (w.heap.size + 2) 26 (.int .i64 0) (.int .i64 0) (.slice none 0 0)) := Blk3.at_ _ _ _ _ (by simp)
    have B0 : Hid (Below w.heap.size w (((w.alloc (.cells #[.int .i64 r, .int .i64 c, .slice a L m] 26)).alloc (.cells #[.int .i64 0, .int .i64 0, .slice none 0 0] 26)).alloc (.cells #[.int .i64 0, .int .i64 0, .slice none 0 0] 26))) := (((Below.refl _ _).alloc (Nat.le_refl _) _).alloc (by simp) _).alloc (by simp; omega) _
    have S0 : Hid ((((w.alloc (.cells #[.int .i64 r, .int .i64 c, .slice a L m] 26)).alloc (.cells #[.int .i64 0, .int .i64 0, .slice none 0 0] 26)).alloc (.cells #[.int .i64 0, .int .i64 0, .slice none 0 0] 26)).heap.size = w.heap.size + 3) := by show _ = _; simp
    generalize ((w.alloc (.cells #[.int .i64 r, .int .i64 c, .slice a L m] 26)).alloc (.cells #[.int .i64 0, .int .i64 0, .slice none 0 0] 26)).alloc (.cells #[.int .i64 0, .int .i64 0, .slice none 0 0] 26) = W0 at K0 R0 Q0 B0 S0 ⊢
    obtain ⟨p0, p1, p2, -, -, -⟩ := K0.out.all
    go_wp2_with fail
    refine (IM.out _ B0.out).mono ?_
    rintro e w1 ⟨rfl, hb⟩
    have R1 := Lib.hid (R0.out.step hb)
    have R2 := Lib.hid (Q0.out.step hb)
    have B1 := Lib.hid (B0.out.trans (hb.mono (by have := S0.out; omega)))
    clear hb p0 p1 p2 K0 R0 Q0 B0
    obtain ⟨r0, r1, r2, f0, f1, f2⟩ := R1.out.all
    obtain ⟨e0, e1, e2, l0, l1, l2⟩ := R2.out.all
    go_wp2_with fail
    obtain ⟨E0, E1, E2, -, -, -⟩ := ((((((R1.out.set0 (.int .i64 0)).set1 (.int .i64 0)).set2 (.slice none 0 0)).far (a := ⟨w.heap.size + 2, 0, none⟩) (by show _ ≠ _; simp) (.int .i64 0)).far (a := ⟨w.heap.size + 2, 1, none⟩) (by show _ ≠ _; simp) (.int .i64 0)).far (a := ⟨w.heap.size + 2, 2, none⟩) (by show _ ≠ _; simp) (.slice none 0 0)).all
    obtain ⟨E3, E4, E5, -, -, -⟩ := ((((((R2.out.far (a := ⟨w.heap.size + 1, 0, none⟩) (by show _ ≠ _; simp) (.int .i64 0)).far (a := ⟨w.heap.size + 1, 1, none⟩) (by show _ ≠ _; simp) (.int .i64 0)).far (a := ⟨w.heap.size + 1, 2, none⟩) (by show _ ≠ _; simp) (.slice none 0 0)).set0 (.int .i64 0)).set1 (.int .i64 0)).set2 (.slice none 0 0)).all
    refine bodyPost_ret (v := .tuple #[.agg #[.int .i64 0, .int .i64 0, .slice none 0 0], .agg #[.int .i64 0, .int .i64 0, .slice none 0 0], .bool false]) (by simp [results, Try.results36, go_sem, E0, E1, E2, E3, E4, E5]) rfl ?_
    rw [RN.out]
    refine ⟨_, _, rfl, .inl ⟨rfl, rfl⟩, .inl ⟨rfl, rfl⟩, fun k hk => by simp [Value.ownBlock] at hk, ?_⟩
    exact (((((B1.out.setCell (by show w.heap.size ≤ w.heap.size + 1; omega) _).setCell (by show w.heap.size ≤ w.heap.size + 1; omega) _).setCell (by show w.heap.size ≤ w.heap.size + 1; omega) _).setCell (by show w.heap.size ≤ w.heap.size + 2; omega) _).setCell (by show w.heap.size ≤ w.heap.size + 2; omega) _).setCell (by show w.heap.size ≤ w.heap.size + 2; omega) _
  | true =>
    obtain ⟨⟨r0, r1⟩, ⟨c0, c1⟩, hl, nx⟩ := isMat_says hm
    obtain ⟨R, rfl⟩ := Int.eq_ofNat_of_zero_le r0
    obtain ⟨C, rfl⟩ := Int.eq_ofNat_of_zero_le c0
    have hl : xs.length = R * C := by rw [← Int.natCast_mul] at hl; omega
    have R24 : R ≤ 24 := by omega
    have C24 : C ≤ 24 := by omega
    have hbd : R * C ≤ 24 * 24 := Nat.mul_le_mul R24 C24
    have hbu : R * R ≤ 24 * 24 := Nat.mul_le_mul R24 R24
    have RS : Hid (herR R C xs = HR.of R C (herX R C xs)) := by show _ = _; unfold herR; rw [if_pos hm]; rfl
    have SZ : Hid (∀ s, herX R C xs = some s → Siz R C s) := fun s hs => (herX_says hl nx hs).1.siz
    have CP : Hid (∀ w', Below w.heap.size w w' → Calls Try.prog 54 #[.agg #[.int .i64 R, .int .i64 C, .slice a xs.length m]] w' (fun e w2 => ∃ g cap : Nat, e = .returned (.agg #[.int .i64 R, .int .i64 C, .slice (some ⟨g, 0, none⟩) xs.length cap]) ∧ w'.heap.size ≤ g ∧ IntsC w2 g cap xs ∧ Below w'.heap.size w' w2)) := fun w' hb => sCopyA R C a m xs.length xs w' (h.below hb) ha rfl (by omega)
    have HE : Hid (∀ (ga gu ca cu : Nat) w', Ints w' ga xs → Ints w' gu (idL R R) → ga ≠ gu → Calls Try.prog 88 #[.agg #[.int .i64 R, .int .i64 C, .slice (some ⟨ga, 0, none⟩) xs.length ca], .agg #[.int .i64 R, .int .i64 R, .slice (some ⟨gu, 0, none⟩) (R * R) cu]] w' (HerRes ga gu (herX R C xs) w')) := fun ga gu ca cu w' h1 h2 h3 => sHer R C ga gu xs.length (R * R) ca cu xs w' h1 h2 h3 rfl hl rfl R24 C24 nx
    have ID : Hid (∀ w', Calls Try.prog 55 #[.int .i64 R] w' (fun e w2 => ∃ g : Nat, e = .returned (.tuple #[.agg #[.int .i64 R, .int .i64 R, .slice (some ⟨g, 0, none⟩) (R * R) (R * R)], .bool true]) ∧ w'.heap.size ≤ g ∧ IntsC w2 g (R * R) (idL R R) ∧ Below w'.heap.size w' w2)) := fun w' => sIdentC R w' R24
    rw [hm] at IM
    rw [RS.out]
    generalize herX R C xs = X at SZ HE ⊢
    have HL := Lib.hid hl
    obtain ⟨L, hL⟩ : ∃ L, xs.length = L := ⟨_, rfl⟩
    rw [hL] at IM CP HE HL ⊢
    obtain ⟨LU, hLU⟩ : ∃ LU, R * R = LU := ⟨_, rfl⟩
    rw [hLU] at HE ID
    have HLU := Lib.hid hLU
    have XL := Lib.hid hL
    clear h hn ha hm r0 r1 c0 c1 hl nx RS hL hLU
    go_enter Try.func36, Try.ntmps36
    go_upto_region 1 with fail
    have K0 : Hid (Blk3 (((w.alloc (.cells #[.int .i64 R, .int .i64 C, .slice a L m] 26)).alloc (.cells #[.int .i64 0, .int .i64 0, .slice none 0 0] 26)).alloc (.cells #[.int .i64 0, .int .i64 0, .slice none 0 0] 26)) w.heap.size 26 (.int .i64 R) (.int .i64 C) (.slice a L m)) := ((Blk3.at_ _ _ _ _ rfl).old _).old _
    have R0 : Hid (Blk3 (((w.alloc (.cells #[.int .i64 R, .int .i64 C, .slice a L m] 26)).alloc (.cells #[.int .i64 0, .int .i64 0, .slice none 0 0] 26)).alloc (.cells #[.int .i64 0, .int .i64 0, .slice none 0 0] 26)) (w.heap.size + 1) 26 (.int .i64 0) (.int .i64 0) (.slice none 0 0)) := (Blk3.at_ _ _ _ _ (by simp)).old _
    have Q0 : Hid (Blk3 (((w.alloc (.cells #[.int .i64 R, .int .i64 C, .slice a L m] 26)).alloc (.cells #[.int .i64 0, .int .i64 0, .slice none 0 0] 26)).alloc (.cells #[.int .i64 0, .int .i64 0, .slice none 0 0] 26)) (w.heap.size + 2) 26 (.int .i64 0) (.int .i64 0) (.slice none 0 0)) := Blk3.at_ _ _ _ _ (by simp)
    have B0 : Hid (Below w.heap.size w (((w.alloc (.cells #[.int .i64 R, .int .i64 C, .slice a L m] 26)).alloc (.cells #[.int .i64 0, .int .i64 0, .slice none 0 0] 26)).alloc (.cells #[.int .i64 0, .int .i64 0, .slice none 0 0] 26))) := (((Below.refl _ _).alloc (Nat.le_refl _) _).alloc (by simp) _).alloc (by simp; omega) _
    have S0 : Hid ((((w.alloc (.cells #[.int .i64 R, .int .i64 C, .slice a L m] 26)).alloc (.cells #[.int .i64 0, .int .i64 0, .slice none 0 0] 26)).alloc (.cells #[.int .i64 0, .int .i64 0, .slice none 0 0] 26)).heap.size = w.heap.size + 3) := by show _ = _; simp
    generalize ((w.alloc (.cells #[.int .i64 R, .int .i64 C, .slice a L m] 26)).alloc (.cells #[.int .i64 0, .int .i64 0, .slice none 0 0] 26)).alloc (.cells #[.int .i64 0, .int .i64 0, .slice none 0 0] 26) = W0 at K0 R0 Q0 B0 S0 ⊢
    obtain ⟨p0, p1, p2, -, -, -⟩ := K0.out.all
    go_wp2_with fail
    refine (IM.out _ B0.out).mono ?_
    rintro e w1 ⟨rfl, hb⟩
    have K1 := Lib.hid (K0.out.step hb)
    have R1 := Lib.hid (R0.out.step hb)
    have Q1 := Lib.hid (Q0.out.step hb)
    have B1 := Lib.hid (B0.out.trans (hb.mono (by have := S0.out; omega)))
    have s1 : w.heap.size + 3 ≤ w1.heap.size := by have := S0.out; have := hb.size; omega
    clear hb p0 p1 p2 K0 R0 Q0 B0 S0
    obtain ⟨p0, p1, p2, -, -, -⟩ := K1.out.all
    go_wp2_with fail
    refine (CP.out _ B1.out).mono ?_
    rintro e w2 ⟨ga, ca, rfl, hga, hia, hb⟩
    have la := hia.ints.lt
    have K2 := Lib.hid ((K1.out.step hb).old (.cells #[.int .i64 R, .int .i64 C, .slice (some ⟨ga, 0, none⟩) L ca] 26))
    have R2 := Lib.hid ((R1.out.step hb).old (.cells #[.int .i64 R, .int .i64 C, .slice (some ⟨ga, 0, none⟩) L ca] 26))
    have Q2 := Lib.hid ((Q1.out.step hb).old (.cells #[.int .i64 R, .int .i64 C, .slice (some ⟨ga, 0, none⟩) L ca] 26))
    have A2 : Hid (Blk3 (w2.alloc (.cells #[.int .i64 R, .int .i64 C, .slice (some ⟨ga, 0, none⟩) L ca] 26)) w2.heap.size 26 (.int .i64 R) (.int .i64 C) (.slice (some ⟨ga, 0, none⟩) L ca)) := Blk3.at_ _ _ _ _ rfl
    have I2 := Lib.hid (IntsC.move hia (Below.heap_alloc w2 (.cells #[.int .i64 R, .int .i64 C, .slice (some ⟨ga, 0, none⟩) L ca] 26) ga la))
    have B2 := Lib.hid ((B1.out.trans (hb.mono (by omega))).alloc (by have := hb.size; omega) (.cells #[.int .i64 R, .int .i64 C, .slice (some ⟨ga, 0, none⟩) L ca] 26))
    have s2 := hb.size
    clear hb hia K1 R1 Q1 B1 p0 p1 p2 IM CP
    go_upto_region 4 with fail
    obtain ⟨b5, hb5⟩ : ∃ b, w2.heap.size = b := ⟨_, rfl⟩
    rw [hb5] at A2 la s2 ⊢
    have s3 : Hid ((w2.alloc (.cells #[.int .i64 R, .int .i64 C, .slice (some ⟨ga, 0, none⟩) L ca] 26)).heap.size = b5 + 1) := by show _ = _; simp [hb5]
    generalize w2.alloc (.cells #[.int .i64 R, .int .i64 C, .slice (some ⟨ga, 0, none⟩) L ca] 26) = W2 at K2 R2 Q2 A2 I2 B2 s3 ⊢
    clear hb5
    obtain ⟨p0, p1, p2, -, -, -⟩ := K2.out.all
    go_wp2_with fail
    refine (ID.out _).mono ?_
    rintro e w3 ⟨gu, rfl, hgu, hiu, hb⟩
    have lu := hiu.ints.lt
    have R3 := Lib.hid ((R2.out.step hb).old (.cells #[.int .i64 R, .int .i64 R, .slice (some ⟨gu, 0, none⟩) LU LU] 26))
    have Q3 := Lib.hid ((Q2.out.step hb).old (.cells #[.int .i64 R, .int .i64 R, .slice (some ⟨gu, 0, none⟩) LU LU] 26))
    have A3 := Lib.hid ((A2.out.step hb).old (.cells #[.int .i64 R, .int .i64 R, .slice (some ⟨gu, 0, none⟩) LU LU] 26))
    have U3 : Hid (Blk3 (w3.alloc (.cells #[.int .i64 R, .int .i64 R, .slice (some ⟨gu, 0, none⟩) LU LU] 26)) w3.heap.size 26 (.int .i64 R) (.int .i64 R) (.slice (some ⟨gu, 0, none⟩) LU LU)) := Blk3.at_ _ _ _ _ rfl
    have I3 := Lib.hid ((IntsC.move I2.out (hb.block ga (by have := s3.out; omega))).move (Below.heap_alloc w3 (.cells #[.int .i64 R, .int .i64 R, .slice (some ⟨gu, 0, none⟩) LU LU] 26) ga (by have := s3.out; have := hb.size; omega)))
    have J3 := Lib.hid (IntsC.move hiu (Below.heap_alloc w3 (.cells #[.int .i64 R, .int .i64 R, .slice (some ⟨gu, 0, none⟩) LU LU] 26) gu lu))
    have B3 := Lib.hid ((B2.out.trans (hb.mono B2.out.size)).alloc (by have := hb.size; have := B2.out.size; omega) (.cells #[.int .i64 R, .int .i64 R, .slice (some ⟨gu, 0, none⟩) LU LU] 26))
    have s4 := hb.size
    have n1 : Hid (w.heap.size + 1 < ga) := by show _ < _; omega
    have n2 : Hid (w.heap.size + 2 < ga) := by show _ < _; omega
    have n3 : Hid (ga < b5) := la
    have n4 : Hid (b5 < gu) := by show _ < _; have := s3.out; omega
    clear hb hiu K2 R2 Q2 A2 I2 B2 p0 p1 p2 ID
    go_upto_region 5 with fail
    obtain ⟨b6, hb6⟩ : ∃ b, w3.heap.size = b := ⟨_, rfl⟩
    rw [hb6] at U3 lu ⊢
    have n5 : Hid (gu < b6) := lu
    generalize w3.alloc (.cells #[.int .i64 R, .int .i64 R, .slice (some ⟨gu, 0, none⟩) LU LU] 26) = W3 at R3 Q3 A3 U3 I3 J3 B3 ⊢
    clear hb6 s1 s2 s3 s4 la lu hga hgu
    obtain ⟨p0, p1, p2, -, -, -⟩ := A3.out.all
    obtain ⟨u0, u1, u2, -, -, -⟩ := U3.out.all
    go_wp2_with fail
    refine (HE.out ga gu ca LU _ I3.out.ints J3.out.ints (by have := n3.out; have := n4.out; omega)).mono ?_
    rintro e w4 ⟨rfl, hf, hs⟩
    have nA : ∀ b, b < ga → ¬ (b = ga ∨ b = gu) := fun b hb => by have := n3.out; have := n4.out; omega
    have R4 := Lib.hid (R3.out.frs hf (nA _ n1.out))
    have Q4 := Lib.hid (Q3.out.frs hf (nA _ n2.out))
    have A4 := Lib.hid (A3.out.frs hf (by have := n3.out; have := n4.out; omega))
    have U4 := Lib.hid (U3.out.frs hf (by have := n3.out; have := n4.out; have := n5.out; omega))
    have B4 := Lib.hid (B3.out.trans (hf.below (B := w.heap.size) (fun k hk => by have := n2.out; have := n3.out; have := n4.out; omega) B3.out.size))
    have HS := Lib.hid hs
    have cA := I3.out
    have cU := J3.out
    obtain ⟨cA1, rA, cA2, -⟩ := cA
    obtain ⟨cU1, rU, cU2, -⟩ := cU
    rw [XL.out] at cA2
    have lA : L ≤ ca := by omega
    clear hf hs p0 p1 p2 u0 u1 u2 R3 Q3 A3 U3 I3 J3 B3 nA HE cA1 rA cA2 cU1 rU cU2
    obtain ⟨r0, r1, r2, f0, f1, f2⟩ := R4.out.all
    obtain ⟨e0, e1, e2, l0, l1, l2⟩ := Q4.out.all
    cases X with
    | none =>
      dsimp only [Option.isSome]
      go_wp2_with fail
      obtain ⟨E0, E1, E2, -, -, -⟩ := ((((((R4.out.set0 (.int .i64 0)).set1 (.int .i64 0)).set2 (.slice none 0 0)).far (a := ⟨w.heap.size + 2, 0, none⟩) (by show _ ≠ _; simp) (.int .i64 0)).far (a := ⟨w.heap.size + 2, 1, none⟩) (by show _ ≠ _; simp) (.int .i64 0)).far (a := ⟨w.heap.size + 2, 2, none⟩) (by show _ ≠ _; simp) (.slice none 0 0)).all
      obtain ⟨E3, E4, E5, -, -, -⟩ := ((((((Q4.out.far (a := ⟨w.heap.size + 1, 0, none⟩) (by show _ ≠ _; simp) (.int .i64 0)).far (a := ⟨w.heap.size + 1, 1, none⟩) (by show _ ≠ _; simp) (.int .i64 0)).far (a := ⟨w.heap.size + 1, 2, none⟩) (by show _ ≠ _; simp) (.slice none 0 0)).set0 (.int .i64 0)).set1 (.int .i64 0)).set2 (.slice none 0 0)).all
      refine bodyPost_ret (v := .tuple #[.agg #[.int .i64 0, .int .i64 0, .slice none 0 0], .agg #[.int .i64 0, .int .i64 0, .slice none 0 0], .bool false]) (by simp [results, Try.results36, go_sem, E0, E1, E2, E3, E4, E5]) rfl ?_
      refine ⟨_, _, rfl, .inl ⟨rfl, rfl⟩, .inl ⟨rfl, rfl⟩, fun k hk => by simp [Value.ownBlock] at hk, ?_⟩
      exact (((((B4.out.setCell (by show w.heap.size ≤ w.heap.size + 1; omega) _).setCell (by show w.heap.size ≤ w.heap.size + 1; omega) _).setCell (by show w.heap.size ≤ w.heap.size + 1; omega) _).setCell (by show w.heap.size ≤ w.heap.size + 2; omega) _).setCell (by show w.heap.size ≤ w.heap.size + 2; omega) _).setCell (by show w.heap.size ≤ w.heap.size + 2; omega) _
    | some s =>
      obtain ⟨i1, i2⟩ := HS.out s rfl
      have IA := Lib.hid i1
      have IU := Lib.hid i2
      have SI := Lib.hid (SZ.out s rfl)
      clear i1 i2 HS SZ r0 r1 r2 f0 f1 f2 e0 e1 e2 l0 l1 l2
      dsimp only [Option.isSome]
      go_wp2_with fail
      refine wp_region_T (S := fun w' => Blk3 w' b5 26 (.int .i64 R) (.int .i64 C) (.slice (some ⟨ga, 0, none⟩) L ca) ∧ Blk3 w' b6 26 (.int .i64 R) (.int .i64 R) (.slice (some ⟨gu, 0, none⟩) LU LU)) (T := fun _ => false) (by kernel_rfl) ⟨A4.out.drew, U4.out.drew⟩ (fun hH => ?_)
      have R5 := Lib.hid R4.out.drew
      have Q5 := Lib.hid Q4.out.drew
      have B5 := Lib.hid B4.out.drew
      have IA5 := Lib.hid (Ints.move IA.out (rfl : w4.drew.heap[ga]? = w4.heap[ga]?))
      have IU5 := Lib.hid (Ints.move IU.out (rfl : w4.drew.heap[gu]? = w4.heap[gu]?))
      generalize w4.drew = v0 at hH R5 Q5 B5 IA5 IU5 ⊢
      clear R4 Q4 B4 IA IU A4 U4
      refine wpAnyT_take (i := 0) (v := ?_) (by simp only [List.getElem?_toArray, List.getElem?_cons_zero]; rfl) (by kernel_rfl) (by kernel_rfl) (by kernel_rfl) (by kernel_rfl) (fun _ hj => by cases hj) (by exact fun _ _ _ h => h) (Or.inl ⟨by rfl, ?_⟩) hH ?_
      rotate_left
      · (intro wS hS; (try dsimp only at hS); obtain ⟨k1, k2, k3, -, -, -⟩ := hS.1.all; go_simp; try rfl)
      try simp only [Act.put, List.setIfInBounds_toArray, List.set_cons_zero, List.set_cons_succ]
      refine wpAnyT_ready (rs := [1, 2]) (by kernel_rfl) (by simp) ?_
      refine AllReadyT.cons (by simp only [List.getElem?_toArray, List.getElem?_cons_succ, List.getElem?_cons_zero]; rfl) (fun K hK => ?_) (AllReadyT.cons (by simp only [List.getElem?_toArray, List.getElem?_cons_succ, List.getElem?_cons_zero]; rfl) (fun K hK => ?_) AllReadyT.nil)
      ·
        obtain ⟨k1, k2, k3, -, -, -⟩ := hH.2.all
        go_simp
        try dsimp only
        refine hK.out _ _ (fun _ => hH) ?_
        clear hK K k1 k2 k3
        try simp only [Act.put, List.setIfInBounds_toArray, List.set_cons_zero, List.set_cons_succ]
        refine wpAnyT_ready (rs := [2]) (by kernel_rfl) (by simp) ?_
        refine AllReadyT.cons (by simp only [List.getElem?_toArray, List.getElem?_cons_succ, List.getElem?_cons_zero]; rfl) (fun K hK => ?_) AllReadyT.nil
        obtain ⟨r0, r1, r2, f0, f1, f2⟩ := R5.out.all
        go_simp
        try dsimp only
        have hN := And.intro (((hH.1.far (a := ⟨w.heap.size + 1, 0, none⟩) (by show b5 ≠ w.heap.size + 1; have := n1.out; have := n2.out; have := n3.out; omega) (.int .i64 R)).far (a := ⟨w.heap.size + 1, 1, none⟩) (by show b5 ≠ w.heap.size + 1; have := n1.out; have := n2.out; have := n3.out; omega) (.int .i64 C)).far (a := ⟨w.heap.size + 1, 2, none⟩) (by show b5 ≠ w.heap.size + 1; have := n1.out; have := n2.out; have := n3.out; omega) (.slice (some ⟨ga, 0, none⟩) L ca)) (((hH.2.far (a := ⟨w.heap.size + 1, 0, none⟩) (by show b6 ≠ w.heap.size + 1; have := n1.out; have := n2.out; have := n3.out; have := n4.out; have := n5.out; omega) (.int .i64 R)).far (a := ⟨w.heap.size + 1, 1, none⟩) (by show b6 ≠ w.heap.size + 1; have := n1.out; have := n2.out; have := n3.out; have := n4.out; have := n5.out; omega) (.int .i64 C)).far (a := ⟨w.heap.size + 1, 2, none⟩) (by show b6 ≠ w.heap.size + 1; have := n1.out; have := n2.out; have := n3.out; have := n4.out; have := n5.out; omega) (.slice (some ⟨ga, 0, none⟩) L ca))
        have R6 := Lib.hid (((R5.out.set0 (.int .i64 R)).set1 (.int .i64 C)).set2 (.slice (some ⟨ga, 0, none⟩) L ca))
        have Q6 := Lib.hid (((Q5.out.far (a := ⟨w.heap.size + 1, 0, none⟩) (by show w.heap.size + 2 ≠ w.heap.size + 1; omega) (.int .i64 R)).far (a := ⟨w.heap.size + 1, 1, none⟩) (by show w.heap.size + 2 ≠ w.heap.size + 1; omega) (.int .i64 C)).far (a := ⟨w.heap.size + 1, 2, none⟩) (by show w.heap.size + 2 ≠ w.heap.size + 1; omega) (.slice (some ⟨ga, 0, none⟩) L ca))
        have B6 := Lib.hid (((B5.out.setCell (p := ⟨w.heap.size + 1, 0, none⟩) (by show w.heap.size ≤ w.heap.size + 1; omega) (.int .i64 R)).setCell (p := ⟨w.heap.size + 1, 1, none⟩) (by show w.heap.size ≤ w.heap.size + 1; omega) (.int .i64 C)).setCell (p := ⟨w.heap.size + 1, 2, none⟩) (by show w.heap.size ≤ w.heap.size + 1; omega) (.slice (some ⟨ga, 0, none⟩) L ca))
        have IA6 := Lib.hid (((IA5.out.far (a := ⟨w.heap.size + 1, 0, none⟩) (by show ga ≠ w.heap.size + 1; have := n1.out; have := n2.out; omega) (.int .i64 R)).far (a := ⟨w.heap.size + 1, 1, none⟩) (by show ga ≠ w.heap.size + 1; have := n1.out; have := n2.out; omega) (.int .i64 C)).far (a := ⟨w.heap.size + 1, 2, none⟩) (by show ga ≠ w.heap.size + 1; have := n1.out; have := n2.out; omega) (.slice (some ⟨ga, 0, none⟩) L ca))
        have IU6 := Lib.hid (((IU5.out.far (a := ⟨w.heap.size + 1, 0, none⟩) (by show gu ≠ w.heap.size + 1; have := n1.out; have := n2.out; have := n3.out; have := n4.out; omega) (.int .i64 R)).far (a := ⟨w.heap.size + 1, 1, none⟩) (by show gu ≠ w.heap.size + 1; have := n1.out; have := n2.out; have := n3.out; have := n4.out; omega) (.int .i64 C)).far (a := ⟨w.heap.size + 1, 2, none⟩) (by show gu ≠ w.heap.size + 1; have := n1.out; have := n2.out; have := n3.out; have := n4.out; omega) (.slice (some ⟨ga, 0, none⟩) L ca))
        refine hK.out _ _ (fun _ => hN) ?_
        clear hK K r0 r1 r2 f0 f1 f2 hH R5 Q5 B5 IA5 IU5
        try simp only [Act.put, List.setIfInBounds_toArray, List.set_cons_zero, List.set_cons_succ]
        try simp only [show w.heap.size + 1 + 1 = w.heap.size + 2 from rfl]
        generalize (((v0.setCell ⟨w.heap.size + 1, 0, none⟩ (.int .i64 R)).setCell ⟨w.heap.size + 1, 1, none⟩ (.int .i64 C)).setCell ⟨w.heap.size + 1, 2, none⟩ (.slice (some ⟨ga, 0, none⟩) L ca)) = v0 at hN R6 Q6 B6 IA6 IU6 ⊢
        have hH := hN
        have R5 := R6
        have Q5 := Q6
        have B5 := B6
        have IA5 := IA6
        have IU5 := IU6
        clear hN R6 Q6 B6 IA6 IU6
        refine wpAnyT_ready (rs := [3]) (by kernel_rfl) (by simp) ?_
        refine AllReadyT.cons (by simp only [List.getElem?_toArray, List.getElem?_cons_succ, List.getElem?_cons_zero]; rfl) (fun K hK => ?_) AllReadyT.nil
        obtain ⟨r0, r1, r2, f0, f1, f2⟩ := Q5.out.all
        go_simp
        try dsimp only
        have hN := And.intro (((hH.1.far (a := ⟨w.heap.size + 2, 0, none⟩) (by show b5 ≠ w.heap.size + 2; have := n1.out; have := n2.out; have := n3.out; omega) (.int .i64 R)).far (a := ⟨w.heap.size + 2, 1, none⟩) (by show b5 ≠ w.heap.size + 2; have := n1.out; have := n2.out; have := n3.out; omega) (.int .i64 R)).far (a := ⟨w.heap.size + 2, 2, none⟩) (by show b5 ≠ w.heap.size + 2; have := n1.out; have := n2.out; have := n3.out; omega) (.slice (some ⟨gu, 0, none⟩) LU LU)) (((hH.2.far (a := ⟨w.heap.size + 2, 0, none⟩) (by show b6 ≠ w.heap.size + 2; have := n1.out; have := n2.out; have := n3.out; have := n4.out; have := n5.out; omega) (.int .i64 R)).far (a := ⟨w.heap.size + 2, 1, none⟩) (by show b6 ≠ w.heap.size + 2; have := n1.out; have := n2.out; have := n3.out; have := n4.out; have := n5.out; omega) (.int .i64 R)).far (a := ⟨w.heap.size + 2, 2, none⟩) (by show b6 ≠ w.heap.size + 2; have := n1.out; have := n2.out; have := n3.out; have := n4.out; have := n5.out; omega) (.slice (some ⟨gu, 0, none⟩) LU LU))
        have R6 := Lib.hid (((R5.out.far (a := ⟨w.heap.size + 2, 0, none⟩) (by show w.heap.size + 1 ≠ w.heap.size + 2; omega) (.int .i64 R)).far (a := ⟨w.heap.size + 2, 1, none⟩) (by show w.heap.size + 1 ≠ w.heap.size + 2; omega) (.int .i64 R)).far (a := ⟨w.heap.size + 2, 2, none⟩) (by show w.heap.size + 1 ≠ w.heap.size + 2; omega) (.slice (some ⟨gu, 0, none⟩) LU LU))
        have Q6 := Lib.hid (((Q5.out.set0 (.int .i64 R)).set1 (.int .i64 R)).set2 (.slice (some ⟨gu, 0, none⟩) LU LU))
        have B6 := Lib.hid (((B5.out.setCell (p := ⟨w.heap.size + 2, 0, none⟩) (by show w.heap.size ≤ w.heap.size + 2; omega) (.int .i64 R)).setCell (p := ⟨w.heap.size + 2, 1, none⟩) (by show w.heap.size ≤ w.heap.size + 2; omega) (.int .i64 R)).setCell (p := ⟨w.heap.size + 2, 2, none⟩) (by show w.heap.size ≤ w.heap.size + 2; omega) (.slice (some ⟨gu, 0, none⟩) LU LU))
        have IA6 := Lib.hid (((IA5.out.far (a := ⟨w.heap.size + 2, 0, none⟩) (by show ga ≠ w.heap.size + 2; have := n1.out; have := n2.out; omega) (.int .i64 R)).far (a := ⟨w.heap.size + 2, 1, none⟩) (by show ga ≠ w.heap.size + 2; have := n1.out; have := n2.out; omega) (.int .i64 R)).far (a := ⟨w.heap.size + 2, 2, none⟩) (by show ga ≠ w.heap.size + 2; have := n1.out; have := n2.out; omega) (.slice (some ⟨gu, 0, none⟩) LU LU))
        have IU6 := Lib.hid (((IU5.out.far (a := ⟨w.heap.size + 2, 0, none⟩) (by show gu ≠ w.heap.size + 2; have := n1.out; have := n2.out; have := n3.out; have := n4.out; omega) (.int .i64 R)).far (a := ⟨w.heap.size + 2, 1, none⟩) (by show gu ≠ w.heap.size + 2; have := n1.out; have := n2.out; have := n3.out; have := n4.out; omega) (.int .i64 R)).far (a := ⟨w.heap.size + 2, 2, none⟩) (by show gu ≠ w.heap.size + 2; have := n1.out; have := n2.out; have := n3.out; have := n4.out; omega) (.slice (some ⟨gu, 0, none⟩) LU LU))
        refine hK.out _ _ (fun _ => hN) ?_
        clear hK K r0 r1 r2 f0 f1 f2 hH R5 Q5 B5 IA5 IU5
        try simp only [Act.put, List.setIfInBounds_toArray, List.set_cons_zero, List.set_cons_succ]
        try simp only [show w.heap.size + 1 + 1 = w.heap.size + 2 from rfl]
        generalize (((v0.setCell ⟨w.heap.size + 2, 0, none⟩ (.int .i64 R)).setCell ⟨w.heap.size + 2, 1, none⟩ (.int .i64 R)).setCell ⟨w.heap.size + 2, 2, none⟩ (.slice (some ⟨gu, 0, none⟩) LU LU)) = v0 at hN R6 Q6 B6 IA6 IU6 ⊢
        have hH := hN
        have R5 := R6
        have Q5 := Q6
        have B5 := B6
        have IA5 := IA6
        have IU5 := IU6
        clear hN R6 Q6 B6 IA6 IU6
        refine wpAnyT_ready (rs := [4]) (by kernel_rfl) (by simp) ?_
        refine AllReadyT.cons (by simp only [List.getElem?_toArray, List.getElem?_cons_succ, List.getElem?_cons_zero]; rfl) (fun K hK => ?_) AllReadyT.nil
        go_simp
        try dsimp only
        refine hK.out _ _ (fun _ => hH) ?_
        clear hK K
        try simp only [Act.put, List.setIfInBounds_toArray, List.set_cons_zero, List.set_cons_succ]
        refine wpAnyT_done (by kernel_rfl) ?_ _
        go_wp2_with fail
        obtain ⟨E0, E1, E2, -, -, -⟩ := R5.out.all
        obtain ⟨E3, E4, E5, -, -, -⟩ := Q5.out.all
        have e1 : s.1.length = L := by rw [SI.out.l1, HL.out]
        have e2 : s.2.length = LU := by rw [SI.out.l2, HLU.out]
        refine bodyPost_ret (v := .tuple #[.agg #[.int .i64 R, .int .i64 C, .slice (some ⟨ga, 0, none⟩) L ca], .agg #[.int .i64 R, .int .i64 R, .slice (some ⟨gu, 0, none⟩) LU LU], .bool true]) (by simp [results, Try.results36, go_sem, E0, E1, E2, E3, E4, E5]) rfl ?_
        refine ⟨.slice (some ⟨ga, 0, none⟩) L ca, .slice (some ⟨gu, 0, none⟩) LU LU, rfl, .inr ⟨ga, ca, by rw [← e1]; rfl, by have := n2.out; omega, IA5.out, by show s.1.length ≤ ca; omega, by show s.1.length ≤ 16777216; have := HL.out; omega⟩, .inr ⟨gu, LU, by rw [← e2]; rfl, by have := n2.out; have := n3.out; have := n4.out; omega, IU5.out, by show s.2.length ≤ LU; omega, by show s.2.length ≤ 16777216; have := HLU.out; omega⟩, fun k hk => ?_, B5.out⟩
        have hk : some ga = some k := hk
        intro h9
        have h9 : some gu = some k := h9
        have hk := Option.some.inj hk
        have h9 := Option.some.inj h9
        have := n3.out
        have := n4.out
        omega
      ·
        obtain ⟨r0, r1, r2, f0, f1, f2⟩ := R5.out.all
        go_simp
        try dsimp only
        have hN := And.intro (((hH.1.far (a := ⟨w.heap.size + 1, 0, none⟩) (by show b5 ≠ w.heap.size + 1; have := n1.out; have := n2.out; have := n3.out; omega) (.int .i64 R)).far (a := ⟨w.heap.size + 1, 1, none⟩) (by show b5 ≠ w.heap.size + 1; have := n1.out; have := n2.out; have := n3.out; omega) (.int .i64 C)).far (a := ⟨w.heap.size + 1, 2, none⟩) (by show b5 ≠ w.heap.size + 1; have := n1.out; have := n2.out; have := n3.out; omega) (.slice (some ⟨ga, 0, none⟩) L ca)) (((hH.2.far (a := ⟨w.heap.size + 1, 0, none⟩) (by show b6 ≠ w.heap.size + 1; have := n1.out; have := n2.out; have := n3.out; have := n4.out; have := n5.out; omega) (.int .i64 R)).far (a := ⟨w.heap.size + 1, 1, none⟩) (by show b6 ≠ w.heap.size + 1; have := n1.out; have := n2.out; have := n3.out; have := n4.out; have := n5.out; omega) (.int .i64 C)).far (a := ⟨w.heap.size + 1, 2, none⟩) (by show b6 ≠ w.heap.size + 1; have := n1.out; have := n2.out; have := n3.out; have := n4.out; have := n5.out; omega) (.slice (some ⟨ga, 0, none⟩) L ca))
        have R6 := Lib.hid (((R5.out.set0 (.int .i64 R)).set1 (.int .i64 C)).set2 (.slice (some ⟨ga, 0, none⟩) L ca))
        have Q6 := Lib.hid (((Q5.out.far (a := ⟨w.heap.size + 1, 0, none⟩) (by show w.heap.size + 2 ≠ w.heap.size + 1; omega) (.int .i64 R)).far (a := ⟨w.heap.size + 1, 1, none⟩) (by show w.heap.size + 2 ≠ w.heap.size + 1; omega) (.int .i64 C)).far (a := ⟨w.heap.size + 1, 2, none⟩) (by show w.heap.size + 2 ≠ w.heap.size + 1; omega) (.slice (some ⟨ga, 0, none⟩) L ca))
        have B6 := Lib.hid (((B5.out.setCell (p := ⟨w.heap.size + 1, 0, none⟩) (by show w.heap.size ≤ w.heap.size + 1; omega) (.int .i64 R)).setCell (p := ⟨w.heap.size + 1, 1, none⟩) (by show w.heap.size ≤ w.heap.size + 1; omega) (.int .i64 C)).setCell (p := ⟨w.heap.size + 1, 2, none⟩) (by show w.heap.size ≤ w.heap.size + 1; omega) (.slice (some ⟨ga, 0, none⟩) L ca))
        have IA6 := Lib.hid (((IA5.out.far (a := ⟨w.heap.size + 1, 0, none⟩) (by show ga ≠ w.heap.size + 1; have := n1.out; have := n2.out; omega) (.int .i64 R)).far (a := ⟨w.heap.size + 1, 1, none⟩) (by show ga ≠ w.heap.size + 1; have := n1.out; have := n2.out; omega) (.int .i64 C)).far (a := ⟨w.heap.size + 1, 2, none⟩) (by show ga ≠ w.heap.size + 1; have := n1.out; have := n2.out; omega) (.slice (some ⟨ga, 0, none⟩) L ca))
        have IU6 := Lib.hid (((IU5.out.far (a := ⟨w.heap.size + 1, 0, none⟩) (by show gu ≠ w.heap.size + 1; have := n1.out; have := n2.out; have := n3.out; have := n4.out; omega) (.int .i64 R)).far (a := ⟨w.heap.size + 1, 1, none⟩) (by show gu ≠ w.heap.size + 1; have := n1.out; have := n2.out; have := n3.out; have := n4.out; omega) (.int .i64 C)).far (a := ⟨w.heap.size + 1, 2, none⟩) (by show gu ≠ w.heap.size + 1; have := n1.out; have := n2.out; have := n3.out; have := n4.out; omega) (.slice (some ⟨ga, 0, none⟩) L ca))
        refine hK.out _ _ (fun _ => hN) ?_
        clear hK K r0 r1 r2 f0 f1 f2 hH R5 Q5 B5 IA5 IU5
        try simp only [Act.put, List.setIfInBounds_toArray, List.set_cons_zero, List.set_cons_succ]
        try simp only [show w.heap.size + 1 + 1 = w.heap.size + 2 from rfl]
        generalize (((v0.setCell ⟨w.heap.size + 1, 0, none⟩ (.int .i64 R)).setCell ⟨w.heap.size + 1, 1, none⟩ (.int .i64 C)).setCell ⟨w.heap.size + 1, 2, none⟩ (.slice (some ⟨ga, 0, none⟩) L ca)) = v0 at hN R6 Q6 B6 IA6 IU6 ⊢
        have hH := hN
        have R5 := R6
        have Q5 := Q6
        have B5 := B6
        have IA5 := IA6
        have IU5 := IU6
        clear hN R6 Q6 B6 IA6 IU6
        refine wpAnyT_ready (rs := [1]) (by kernel_rfl) (by simp) ?_
        refine AllReadyT.cons (by simp only [List.getElem?_toArray, List.getElem?_cons_succ, List.getElem?_cons_zero]; rfl) (fun K hK => ?_) AllReadyT.nil
        obtain ⟨k1, k2, k3, -, -, -⟩ := hH.2.all
        go_simp
        try dsimp only
        refine hK.out _ _ (fun _ => hH) ?_
        clear hK K k1 k2 k3
        try simp only [Act.put, List.setIfInBounds_toArray, List.set_cons_zero, List.set_cons_succ]
        refine wpAnyT_ready (rs := [3]) (by kernel_rfl) (by simp) ?_
        refine AllReadyT.cons (by simp only [List.getElem?_toArray, List.getElem?_cons_succ, List.getElem?_cons_zero]; rfl) (fun K hK => ?_) AllReadyT.nil
        obtain ⟨r0, r1, r2, f0, f1, f2⟩ := Q5.out.all
        go_simp
        try dsimp only
        have hN := And.intro (((hH.1.far (a := ⟨w.heap.size + 2, 0, none⟩) (by show b5 ≠ w.heap.size + 2; have := n1.out; have := n2.out; have := n3.out; omega) (.int .i64 R)).far (a := ⟨w.heap.size + 2, 1, none⟩) (by show b5 ≠ w.heap.size + 2; have := n1.out; have := n2.out; have := n3.out; omega) (.int .i64 R)).far (a := ⟨w.heap.size + 2, 2, none⟩) (by show b5 ≠ w.heap.size + 2; have := n1.out; have := n2.out; have := n3.out; omega) (.slice (some ⟨gu, 0, none⟩) LU LU)) (((hH.2.far (a := ⟨w.heap.size + 2, 0, none⟩) (by show b6 ≠ w.heap.size + 2; have := n1.out; have := n2.out; have := n3.out; have := n4.out; have := n5.out; omega) (.int .i64 R)).far (a := ⟨w.heap.size + 2, 1, none⟩) (by show b6 ≠ w.heap.size + 2; have := n1.out; have := n2.out; have := n3.out; have := n4.out; have := n5.out; omega) (.int .i64 R)).far (a := ⟨w.heap.size + 2, 2, none⟩) (by show b6 ≠ w.heap.size + 2; have := n1.out; have := n2.out; have := n3.out; have := n4.out; have := n5.out; omega) (.slice (some ⟨gu, 0, none⟩) LU LU))
        have R6 := Lib.hid (((R5.out.far (a := ⟨w.heap.size + 2, 0, none⟩) (by show w.heap.size + 1 ≠ w.heap.size + 2; omega) (.int .i64 R)).far (a := ⟨w.heap.size + 2, 1, none⟩) (by show w.heap.size + 1 ≠ w.heap.size + 2; omega) (.int .i64 R)).far (a := ⟨w.heap.size + 2, 2, none⟩) (by show w.heap.size + 1 ≠ w.heap.size + 2; omega) (.slice (some ⟨gu, 0, none⟩) LU LU))
        have Q6 := Lib.hid (((Q5.out.set0 (.int .i64 R)).set1 (.int .i64 R)).set2 (.slice (some ⟨gu, 0, none⟩) LU LU))
        have B6 := Lib.hid (((B5.out.setCell (p := ⟨w.heap.size + 2, 0, none⟩) (by show w.heap.size ≤ w.heap.size + 2; omega) (.int .i64 R)).setCell (p := ⟨w.heap.size + 2, 1, none⟩) (by show w.heap.size ≤ w.heap.size + 2; omega) (.int .i64 R)).setCell (p := ⟨w.heap.size + 2, 2, none⟩) (by show w.heap.size ≤ w.heap.size + 2; omega) (.slice (some ⟨gu, 0, none⟩) LU LU))
        have IA6 := Lib.hid (((IA5.out.far (a := ⟨w.heap.size + 2, 0, none⟩) (by show ga ≠ w.heap.size + 2; have := n1.out; have := n2.out; omega) (.int .i64 R)).far (a := ⟨w.heap.size + 2, 1, none⟩) (by show ga ≠ w.heap.size + 2; have := n1.out; have := n2.out; omega) (.int .i64 R)).far (a := ⟨w.heap.size + 2, 2, none⟩) (by show ga ≠ w.heap.size + 2; have := n1.out; have := n2.out; omega) (.slice (some ⟨gu, 0, none⟩) LU LU))
        have IU6 := Lib.hid (((IU5.out.far (a := ⟨w.heap.size + 2, 0, none⟩) (by show gu ≠ w.heap.size + 2; have := n1.out; have := n2.out; have := n3.out; have := n4.out; omega) (.int .i64 R)).far (a := ⟨w.heap.size + 2, 1, none⟩) (by show gu ≠ w.heap.size + 2; have := n1.out; have := n2.out; have := n3.out; have := n4.out; omega) (.int .i64 R)).far (a := ⟨w.heap.size + 2, 2, none⟩) (by show gu ≠ w.heap.size + 2; have := n1.out; have := n2.out; have := n3.out; have := n4.out; omega) (.slice (some ⟨gu, 0, none⟩) LU LU))
        refine hK.out _ _ (fun _ => hN) ?_
        clear hK K r0 r1 r2 f0 f1 f2 hH R5 Q5 B5 IA5 IU5
        try simp only [Act.put, List.setIfInBounds_toArray, List.set_cons_zero, List.set_cons_succ]
        try simp only [show w.heap.size + 1 + 1 = w.heap.size + 2 from rfl]
        generalize (((v0.setCell ⟨w.heap.size + 2, 0, none⟩ (.int .i64 R)).setCell ⟨w.heap.size + 2, 1, none⟩ (.int .i64 R)).setCell ⟨w.heap.size + 2, 2, none⟩ (.slice (some ⟨gu, 0, none⟩) LU LU)) = v0 at hN R6 Q6 B6 IA6 IU6 ⊢
        have hH := hN
        have R5 := R6
        have Q5 := Q6
        have B5 := B6
        have IA5 := IA6
        have IU5 := IU6
        clear hN R6 Q6 B6 IA6 IU6
        refine wpAnyT_ready (rs := [4]) (by kernel_rfl) (by simp) ?_
        refine AllReadyT.cons (by simp only [List.getElem?_toArray, List.getElem?_cons_succ, List.getElem?_cons_zero]; rfl) (fun K hK => ?_) AllReadyT.nil
        go_simp
        try dsimp only
        refine hK.out _ _ (fun _ => hH) ?_
        clear hK K
        try simp only [Act.put, List.setIfInBounds_toArray, List.set_cons_zero, List.set_cons_succ]
        refine wpAnyT_done (by kernel_rfl) ?_ _
        go_wp2_with fail
        obtain ⟨E0, E1, E2, -, -, -⟩ := R5.out.all
        obtain ⟨E3, E4, E5, -, -, -⟩ := Q5.out.all
        have e1 : s.1.length = L := by rw [SI.out.l1, HL.out]
        have e2 : s.2.length = LU := by rw [SI.out.l2, HLU.out]
        refine bodyPost_ret (v := .tuple #[.agg #[.int .i64 R, .int .i64 C, .slice (some ⟨ga, 0, none⟩) L ca], .agg #[.int .i64 R, .int .i64 R, .slice (some ⟨gu, 0, none⟩) LU LU], .bool true]) (by simp [results, Try.results36, go_sem, E0, E1, E2, E3, E4, E5]) rfl ?_
        refine ⟨.slice (some ⟨ga, 0, none⟩) L ca, .slice (some ⟨gu, 0, none⟩) LU LU, rfl, .inr ⟨ga, ca, by rw [← e1]; rfl, by have := n2.out; omega, IA5.out, by show s.1.length ≤ ca; omega, by show s.1.length ≤ 16777216; have := HL.out; omega⟩, .inr ⟨gu, LU, by rw [← e2]; rfl, by have := n2.out; have := n3.out; have := n4.out; omega, IU5.out, by show s.2.length ≤ LU; omega, by show s.2.length ≤ 16777216; have := HLU.out; omega⟩, fun k hk => ?_, B5.out⟩
        have hk : some ga = some k := hk
        intro h9
        have h9 : some gu = some k := h9
        have hk := Option.some.inj hk
        have h9 := Option.some.inj h9
        have := n3.out
        have := n4.out
        omega
end Go.Proofs.Ytpelnfenfeoeeaa
end

section
/-
  Chapter 3, in the program: IdentityMatrix.
-/
namespace Go.Proofs.Ytpelnfenfeoeeaa
open Go.RowKit
set_option maxHeartbeats 1000000 in
theorem iIdent_t (n : Nat) (w : World) (hn : n ≤ 24) :
    Calls Try.prog 59 #[.int .i64 n] w (MatRes ⟨true, n, n, idL n n⟩ w) := by
  have hle : n * n ≤ 24 * 24 := Nat.mul_le_mul hn hn
  have B0 : ∀ o1, Below w.heap.size w (w.alloc o1) := fun o1 => (Below.refl _ _).alloc (Nat.le_refl _) _
  have BH := Lib.hid B0
  clear B0
  go_enter Try.func59, Try.ntmps59
  go_wp2_with fail
  refine (iSize_t n _ (by omega) (by omega)).mono ?_
  rintro e w2 ⟨rfl, rfl⟩
  have hmk := makeProd n n (by omega)
  obtain ⟨N, hN⟩ : ∃ N, n * n = N := ⟨_, rfl⟩
  have HN := Lib.hid hN
  have hp1 : (0 : Int) ≤ (n : Int) * (n : Int) := by rw [← Int.natCast_mul]; omega
  have hp2 : (n : Int) * (n : Int) ≤ 16777216 := by rw [← Int.natCast_mul]; omega
  rw [hN] at hmk hle
  clear hN
  have B2 := Lib.hid (((BH.out (.cells #[.int .i64 0, .int .i64 0, .slice none 0 0] 26)).alloc (by simp) (.cells (madeCells #[.int .i64 0] N) 3)).alloc (by simp <;> omega) (.cells #[.int .i64 n, .int .i64 n, .slice (some ⟨w.heap.size + 1, 0, none⟩) N N] 26))
  have K2 : Hid (Blk3 (((w.alloc (.cells #[.int .i64 0, .int .i64 0, .slice none 0 0] 26)).alloc (.cells (madeCells #[.int .i64 0] N) 3)).alloc (.cells #[.int .i64 n, .int .i64 n, .slice (some ⟨w.heap.size + 1, 0, none⟩) N N] 26)) w.heap.size 26 (.int .i64 0) (.int .i64 0) (.slice none 0 0)) := ((Blk3.at_ _ _ _ _ rfl).old _).old _
  have K6 : Hid (Blk3 (((w.alloc (.cells #[.int .i64 0, .int .i64 0, .slice none 0 0] 26)).alloc (.cells (madeCells #[.int .i64 0] N) 3)).alloc (.cells #[.int .i64 n, .int .i64 n, .slice (some ⟨w.heap.size + 1, 0, none⟩) N N] 26)) (w.heap.size + 2) 26 (.int .i64 n) (.int .i64 n) (.slice (some ⟨w.heap.size + 1, 0, none⟩) N N)) := Blk3.at_ _ _ _ _ (by simp)
  have I : Hid (Ints (((w.alloc (.cells #[.int .i64 0, .int .i64 0, .slice none 0 0] 26)).alloc (.cells (madeCells #[.int .i64 0] N) 3)).alloc (.cells #[.int .i64 n, .int .i64 n, .slice (some ⟨w.heap.size + 1, 0, none⟩) N N] 26)) (w.heap.size + 1) (List.replicate N 0)) := (Ints.made N (by simp)).old _
  go_wp2_with fail
  go_wp2_with fail
  go_loopw [5, 18] (fun _ i wr => ∃ k : Nat, i = .int .i64 k ∧ k ≤ n ∧ Ints wr (w.heap.size + 1) (idL n k) ∧ (((w.alloc (.cells #[.int .i64 0, .int .i64 0, .slice none 0 0] 26)).alloc (.cells (madeCells #[.int .i64 0] N) 3)).alloc (.cells #[.int .i64 n, .int .i64 n, .slice (some ⟨w.heap.size + 1, 0, none⟩) N N] 26)).grownBy wr (some (w.heap.size + 1))) (fun _ i _ => n - (intOf i).toNat)
  case atStart => exact ⟨0, rfl, by omega, by rw [idL_zero, HN.out]; exact I.out, World.grownBy.refl _ _⟩
  case round =>
    obtain ⟨k, rfl, hk, hi, hgr⟩ := hrel
    have I := Lib.hid hi
    have G := Lib.hid hgr
    clear hi hgr
    have R2 := Lib.hid (K2.out.keepOne G.out (by omega))
    have R6 := Lib.hid (K6.out.keepOne G.out (by omega))
    obtain ⟨r0, r1, r2, -, -, -⟩ := R6.out.all
    by_cases hlt : k < n
    · have i1 : k * n + k < N := by rw [← HN.out]; exact idx_lt hlt hlt
      have hold := I.out.cell (i := k * n + k) (by rw [idL_length, HN.out]; exact i1)
      rw [idL_at] at hold
      have hfr := I.out.free (k * n + k)
      have c1 : (k : Int) * (n : Int) = ((k * n : Nat) : Int) := (Int.natCast_mul _ _).symm
      have d1 : 0 ≤ (k : Int) * (n : Int) ∧ (k : Int) * (n : Int) ≤ 600 := by rw [c1]; omega
      have e1 : 0 ≤ (k : Int) * (n : Int) + (k : Int) := by omega
      have e2 : (k : Int) * (n : Int) + (k : Int) < (N : Int) := by rw [c1]; omega
      have e3 : ((k : Int) * (n : Int) + (k : Int)).toNat = k * n + k := by rw [c1]; omega
      obtain ⟨d11, d12⟩ := d1
      have v1 : IntKind.i64.wrap ((k : Int) * (n : Int)) = (k : Int) * (n : Int) := IntWalk.i64_in _ (by omega)
      have v2 : IntKind.i64.wrap ((k : Int) * (n : Int) + (k : Int)) = (k : Int) * (n : Int) + (k : Int) := IntWalk.i64_in _ (by omega)
      clear c1
      go_wp2_with fail
      go_roundw
      case rel =>
        refine ⟨k + 1, by go_num, by omega, ?_, ?_⟩
        · rw [← idL_step]
          first | exact I.out.set (k * n + k) _ | exact I.out.drew.set (k * n + k) _
        · first | exact grown_set_one G.out rfl _ | exact grown_drew_one (grown_set_one G.out rfl _)
      case measure => simp [intOf]; omega
    · have hkn : k = n := by omega
      subst hkn
      have BW := Lib.hid (B2.out.trans (below_of_one G.out (by omega) B2.out.size))
      obtain ⟨s0, s1, s2, t0, t1, t2⟩ := R2.out.all
      go_wp2_with fail
      obtain ⟨E0, E1, E2, -, -, -⟩ := (((R2.out.set0 (.int .i64 k)).set1 (.int .i64 k)).set2 (.slice (some ⟨w.heap.size + 1, 0, none⟩) N N)).all
      refine bodyPost_ret (v := .tuple #[.agg #[.int .i64 k, .int .i64 k, .slice (some ⟨w.heap.size + 1, 0, none⟩) N N], .bool true]) (by simp [results, Try.results59, go_sem, E0, E1, E2]) rfl ⟨_, rfl, ?_, ?_⟩
      · refine .inr ⟨w.heap.size + 1, N, by rw [idL_length, HN.out], by omega, ?_, by simp [idL_length, HN.out], by simp [idL_length, HN.out]; omega⟩
        exact ((I.out.far (by show w.heap.size + 1 ≠ w.heap.size; omega) _).far (by show w.heap.size + 1 ≠ w.heap.size; omega) _).far (by show w.heap.size + 1 ≠ w.heap.size; omega) _
      · exact ((BW.out.setCell (Nat.le_refl _) _).setCell (Nat.le_refl _) _).setCell (Nat.le_refl _) _
end Go.Proofs.Ytpelnfenfeoeeaa
end

section
/-
  Chapter 12, in the program: HermiteForm.
-/
namespace Go.Proofs.Ytpelnfenfeoeeaa
set_option maxRecDepth 100000
open Go.RowKit
theorem Own.cel {B : Nat} {w : World} {q : Option Addr} {n m : Nat} {zs : List Int} (h : Own B w (.slice q n m) zs) : ∃ g, Cel w q n m g zs := by
  rcases h with ⟨e, h0⟩ | ⟨g, c, e, -, hi, hl, -⟩
  · injection e with e1 e2 e3
    exact ⟨0, .inl ⟨e1, e3, e2, h0⟩⟩
  · injection e with e1 e2 e3
    subst e1 e2 e3
    exact ⟨g, .inr ⟨rfl, hl, rfl, hi⟩⟩
theorem hx_none {R C j t : Nat} {s : HSt} (ht : t ≤ R) (hz : ∀ i, t ≤ i → i < R → celS C s i j = 0) : pvR R C j t s.1 = -1 := by
  unfold pvR
  rw [if_pos (fstR_eq ht (by omega) hz (fun h => by omega))]
theorem hx_some {R C j t p : Nat} {s : HSt} (hp : p < R) (htp : t ≤ p) (hz : celS C s p j ≠ 0) : ∃ k : Nat, pvR R C j t s.1 = k := by
  obtain ⟨-, -, f3, -⟩ := fstR_says (c := C) (j := j) (xs := s.1) (k := R - t) (p := t)
  unfold pvR
  rw [if_neg fun e => hz (f3 p htp (by omega))]
  exact ⟨_, rfl⟩
structure HxM (R C na nu bf ba bx : Nat) (w : World) (s : HSt) (wq : World) : Prop where
  ac : AcW R C na nu bf ba w.heap.size s wq
  pt : Blk2 wq bx 93 (.pointer (some ⟨bf, 0, none⟩)) (.pointer (some ⟨ba, 0, none⟩))
  r1 : Blk3 wq (w.heap.size + 1) 26 (.int .i64 0) (.int .i64 0) (.slice none 0 0)
  r2 : Blk3 wq (w.heap.size + 2) 26 (.int .i64 0) (.int .i64 0) (.slice none 0 0)
  be : Below w.heap.size w wq
theorem HxM.step {R C na nu bf ba bx : Nat} {w wq w' : World} {s : HSt} (h : HxM R C na nu bf ba bx w s wq) (hb : Below wq.heap.size wq w') : HxM R C na nu bf ba bx w s w' :=
  ⟨h.ac.step hb, h.pt.keep hb h.pt.lt, h.r1.keep hb h.r1.lt, h.r2.keep hb h.r2.lt, h.be.trans (hb.mono h.be.size)⟩
theorem HxM.box {R C na nu bf ba bx : Nat} {w wq w' : World} {s s' : HSt} (h : HxM R C na nu bf ba bx w s wq) (h1 : w.heap.size + 2 < bf) (h2 : bf < ba) (h3 : ba < bx) (hf : FrS (fun b => b = bf ∨ b = ba) wq w') (ha : AcW R C na nu bf ba w.heap.size s' w') : HxM R C na nu bf ba bx w s' w' :=
  ⟨ha, (hf.block _ h.pt.lt (by omega)).trans h.pt, h.r1.frs hf (by omega), h.r2.frs hf (by omega), h.be.trans (hf.below (B := w.heap.size) (fun k hk => by omega) h.be.size)⟩
theorem HxM.res {R C na nu bf ba bx : Nat} {w wq w' : World} {s : HSt} (h : HxM R C na nu bf ba bx w s wq) (h1 : w.heap.size + 2 < bf) (h2 : bf < ba) (hf : FrS (fun b => b = bf ∨ b = ba) wq w') :
    Blk3 w' (w.heap.size + 1) 26 (.int .i64 0) (.int .i64 0) (.slice none 0 0) ∧ Blk3 w' (w.heap.size + 2) 26 (.int .i64 0) (.int .i64 0) (.slice none 0 0) ∧ Below w.heap.size w w' :=
  ⟨h.r1.frs hf (by omega), h.r2.frs hf (by omega), h.be.trans (hf.below (B := w.heap.size) (fun k hk => by omega) h.be.size)⟩
set_option maxHeartbeats 8000000 in
theorem iHerm (r c : Int) (a : Option Addr) (m : Nat) (xs : List Int) (w : World) (h : Rd w a xs) (hn : xs.length ≤ 16777216) (_ : Spot a) :
    Calls Try.prog 37 #[.agg #[.int .i64 r, .int .i64 c, .slice a xs.length m]] w (HerG w (herR r c xs)) := by
  have IM : Hid (∀ w', Below w.heap.size w w' → Calls Try.prog 58 #[.agg #[.int .i64 r, .int .i64 c, .slice a xs.length m]] w' (Gives (.bool (isMat r c xs)) w')) := fun w' hb => iIsMat r c a m xs w' (h.below hb) hn
  cases hm : isMat r c xs with
  | false =>
    have RN : Hid (herR r c xs = HR.no) := by show _ = _; unfold herR; rw [if_neg (by rw [hm]; decide)]
    rw [hm] at IM
    generalize herR r c xs = RES at RN ⊢
    generalize xs.length = L at IM ⊢
    clear h hn hm
    go_enter Try.func37, Try.ntmps37
    go_upto_region 1 with fail
    have K0 : Hid (Blk3 (((w.alloc (.cells #[.int .i64 r, .int .i64 c, .slice a L m] 26)).alloc (.cells #[.int .i64 0, .int .i64 0, .slice none 0 0] 26)).alloc (.cells #[.int .i64 0, .int .i64 0, .slice none 0 0] 26)) w.heap.size 26 (.int .i64 r) (.int .i64 c) (.slice a L m)) := ((Blk3.at_ _ _ _ _ rfl).old _).old _
    have R0 : Hid (Blk3 (((w.alloc (.cells #[.int .i64 r, .int .i64 c, .slice a L m] 26)).alloc (.cells #[.int .i64 0, .int .i64 0, .slice none 0 0] 26)).alloc (.cells #[.int .i64 0, .int .i64 0, .slice none 0 0] 26)) (w.heap.size + 1) 26 (.int .i64 0) (.int .i64 0) (.slice none 0 0)) := (Blk3.at_ _ _ _ _ (by simp)).old _
    have Q0 : Hid (Blk3 (((w.alloc (.cells #[.int .i64 r, .int .i64 c, .slice a L m] 26)).alloc (.cells #[.int .i64 0, .int .i64 0, .slice none 0 0] 26)).alloc (.cells #[.int .i64 0, .int .i64 0, .slice none 0 0] 26)) (w.heap.size + 2) 26 (.int .i64 0) (.int .i64 0) (.slice none 0 0)) := Blk3.at_ _ _ _ _ (by simp)
    have B0 : Hid (Below w.heap.size w (((w.alloc (.cells #[.int .i64 r, .int .i64 c, .slice a L m] 26)).alloc (.cells #[.int .i64 0, .int .i64 0, .slice none 0 0] 26)).alloc (.cells #[.int .i64 0, .int .i64 0, .slice none 0 0] 26))) := (((Below.refl _ _).alloc (Nat.le_refl _) _).alloc (by simp) _).alloc (by simp; omega) _
    have S0 : Hid ((((w.alloc (.cells #[.int .i64 r, .int .i64 c, .slice a L m] 26)).alloc (.cells #[.int .i64 0, .int .i64 0, .slice none 0 0] 26)).alloc (.cells #[.int .i64 0, .int .i64 0, .slice none 0 0] 26)).heap.size = w.heap.size + 3) := by show _ = _; simp
    generalize ((w.alloc (.cells #[.int .i64 r, .int .i64 c, .slice a L m] 26)).alloc (.cells #[.int .i64 0, .int .i64 0, .slice none 0 0] 26)).alloc (.cells #[.int .i64 0, .int .i64 0, .slice none 0 0] 26) = W0 at K0 R0 Q0 B0 S0 ⊢
    obtain ⟨p0, p1, p2, -, -, -⟩ := K0.out.all
    go_wp2_with fail
    refine (IM.out _ B0.out).mono ?_
    rintro e w1 ⟨rfl, hb⟩
    have R1 := Lib.hid (R0.out.step hb)
    have R2 := Lib.hid (Q0.out.step hb)
    have B1 := Lib.hid (B0.out.trans (hb.mono (by have := S0.out; omega)))
    clear hb p0 p1 p2 K0 R0 Q0 B0
    obtain ⟨r0, r1, r2, f0, f1, f2⟩ := R1.out.all
    obtain ⟨e0, e1, e2, l0, l1, l2⟩ := R2.out.all
    go_wp2_with fail
    obtain ⟨E0, E1, E2, -, -, -⟩ := ((((((R1.out.set0 (.int .i64 0)).set1 (.int .i64 0)).set2 (.slice none 0 0)).far (a := ⟨w.heap.size + 2, 0, none⟩) (by show _ ≠ _; simp) (.int .i64 0)).far (a := ⟨w.heap.size + 2, 1, none⟩) (by show _ ≠ _; simp) (.int .i64 0)).far (a := ⟨w.heap.size + 2, 2, none⟩) (by show _ ≠ _; simp) (.slice none 0 0)).all
    obtain ⟨E3, E4, E5, -, -, -⟩ := ((((((R2.out.far (a := ⟨w.heap.size + 1, 0, none⟩) (by show _ ≠ _; simp) (.int .i64 0)).far (a := ⟨w.heap.size + 1, 1, none⟩) (by show _ ≠ _; simp) (.int .i64 0)).far (a := ⟨w.heap.size + 1, 2, none⟩) (by show _ ≠ _; simp) (.slice none 0 0)).set0 (.int .i64 0)).set1 (.int .i64 0)).set2 (.slice none 0 0)).all
    refine bodyPost_ret (v := .tuple #[.agg #[.int .i64 0, .int .i64 0, .slice none 0 0], .agg #[.int .i64 0, .int .i64 0, .slice none 0 0], .bool false]) (by simp [results, Try.results37, go_sem, E0, E1, E2, E3, E4, E5]) rfl ?_
    rw [RN.out]
    refine ⟨_, _, rfl, .inl ⟨rfl, rfl⟩, .inl ⟨rfl, rfl⟩, fun k hk => by simp [Value.ownBlock] at hk, ?_⟩
    exact (((((B1.out.setCell (by show w.heap.size ≤ w.heap.size + 1; omega) _).setCell (by show w.heap.size ≤ w.heap.size + 1; omega) _).setCell (by show w.heap.size ≤ w.heap.size + 1; omega) _).setCell (by show w.heap.size ≤ w.heap.size + 2; omega) _).setCell (by show w.heap.size ≤ w.heap.size + 2; omega) _).setCell (by show w.heap.size ≤ w.heap.size + 2; omega) _
  | true =>
    obtain ⟨⟨r0, r1⟩, ⟨c0, c1⟩, hl, nx⟩ := isMat_says hm
    obtain ⟨R, rfl⟩ := Int.eq_ofNat_of_zero_le r0
    obtain ⟨C, rfl⟩ := Int.eq_ofNat_of_zero_le c0
    have hl : xs.length = R * C := by rw [← Int.natCast_mul] at hl; omega
    have R24 : R ≤ 24 := by omega
    have C24 : C ≤ 24 := by omega
    have hbd : R * C ≤ 24 * 24 := Nat.mul_le_mul R24 C24
    have hbu : R * R ≤ 24 * 24 := Nat.mul_le_mul R24 R24
    have RS : Hid (herR R C xs = HR.of R C (herX R C xs)) := by show _ = _; unfold herR; rw [if_pos hm]; rfl
    have CP : Hid (∀ w', Below w.heap.size w w' → Calls Try.prog 60 #[.agg #[.int .i64 R, .int .i64 C, .slice a xs.length m]] w' (CopyM R C xs.length xs w')) := fun w' hb => iCopyOf R C a m xs.length xs rfl w' (h.below hb) hn
    have ID : Hid (∀ w', Calls Try.prog 59 #[.int .i64 R] w' (MatRes ⟨true, R, R, idL R R⟩ w')) := fun w' => iIdent_t R w' R24
    have PVT : Hid (∀ (bf ba bx : Nat) (M : Mx) (q : Nat → Nat) (t j p : Nat) (s : HSt) wq, HxM R C (R * C) (R * R) bf ba bx w s wq → Fin2 R C M s → HInv R C (mxC C s.1) q t j → t < R → j < C → LeastP R C j t s p → Calls Try.prog 90 #[.agg #[.pointer (some ⟨bf, 0, none⟩), .pointer (some ⟨ba, 0, none⟩)], .int .i64 t, .int .i64 j] wq (PvRes R C (R * C) (R * R) bf ba w.heap.size t (colF R C j t s) wq)) := fun bf ba bx M q t j p s wq h1 h2 h3 h4 h5 h6 => iPivot R C (R * C) (R * R) bf ba w.heap.size t j p s q M wq h1.ac R24 C24 rfl rfl h1.be.size h2 h3 h4 h5 h6
    have PVC : Hid (∀ (bf ba bx : Nat) (t j : Nat) (s : HSt) wq qa qu ma mu, AcV R C (R * C) (R * R) bf ba w.heap.size s qa qu ma mu wq → t ≤ R → j < C → Calls Try.prog 89 #[.agg #[.int .i64 R, .int .i64 C, .slice qa (R * C) ma], .int .i64 t, .int .i64 j] wq (Gives (.int .i64 (pvR R C j t s.1)) wq)) := fun bf ba bx t j s wq qa qu ma mu h1 h2 h3 => by
      obtain ⟨g, hg⟩ := h1.fA.cel
      exact iPivR R C t j (R * C) ma g qa s.1 wq rfl R24 C24 h2 h3 hg
    have F0 := Lib.hid (herX_start hl nx)
    have H0 : Hid (HInv R C (mxC C xs) (fun _ => 0) 0 0) := HInv.start _ _ _ _
    have X0 : Hid (herX R C xs = allF R C (C - 0) 0 0 (xs, idL R R)) := rfl
    rw [hm] at IM
    rw [RS.out]
    obtain ⟨X, hX⟩ : ∃ X, herX R C xs = X := ⟨_, rfl⟩
    rw [hX] at X0 ⊢
    obtain ⟨L, hL⟩ : ∃ L, R * C = L := ⟨_, rfl⟩
    obtain ⟨LU, hLU⟩ : ∃ LU, R * R = LU := ⟨_, rfl⟩
    rw [hl, hL] at IM CP ⊢
    rw [hL, hLU] at PVT PVC
    have HLU : Hid ((idL R R).length = LU) := by show _ = _; rw [idL_length, hLU]
    have XL : Hid (xs.length = L) := by show _ = _; rw [hl, hL]
    clear h hn hm r0 r1 c0 c1 hl nx RS hL hLU hX hbd hbu
    go_enter Try.func37, Try.ntmps37
    go_upto_region 1 with fail
    have K0 : Hid (Blk3 (((w.alloc (.cells #[.int .i64 R, .int .i64 C, .slice a L m] 26)).alloc (.cells #[.int .i64 0, .int .i64 0, .slice none 0 0] 26)).alloc (.cells #[.int .i64 0, .int .i64 0, .slice none 0 0] 26)) w.heap.size 26 (.int .i64 R) (.int .i64 C) (.slice a L m)) := ((Blk3.at_ _ _ _ _ rfl).old _).old _
    have R0 : Hid (Blk3 (((w.alloc (.cells #[.int .i64 R, .int .i64 C, .slice a L m] 26)).alloc (.cells #[.int .i64 0, .int .i64 0, .slice none 0 0] 26)).alloc (.cells #[.int .i64 0, .int .i64 0, .slice none 0 0] 26)) (w.heap.size + 1) 26 (.int .i64 0) (.int .i64 0) (.slice none 0 0)) := (Blk3.at_ _ _ _ _ (by simp)).old _
    have Q0 : Hid (Blk3 (((w.alloc (.cells #[.int .i64 R, .int .i64 C, .slice a L m] 26)).alloc (.cells #[.int .i64 0, .int .i64 0, .slice none 0 0] 26)).alloc (.cells #[.int .i64 0, .int .i64 0, .slice none 0 0] 26)) (w.heap.size + 2) 26 (.int .i64 0) (.int .i64 0) (.slice none 0 0)) := Blk3.at_ _ _ _ _ (by simp)
    have B0 : Hid (Below w.heap.size w (((w.alloc (.cells #[.int .i64 R, .int .i64 C, .slice a L m] 26)).alloc (.cells #[.int .i64 0, .int .i64 0, .slice none 0 0] 26)).alloc (.cells #[.int .i64 0, .int .i64 0, .slice none 0 0] 26))) := (((Below.refl _ _).alloc (Nat.le_refl _) _).alloc (by simp) _).alloc (by simp; omega) _
    have S0 : Hid ((((w.alloc (.cells #[.int .i64 R, .int .i64 C, .slice a L m] 26)).alloc (.cells #[.int .i64 0, .int .i64 0, .slice none 0 0] 26)).alloc (.cells #[.int .i64 0, .int .i64 0, .slice none 0 0] 26)).heap.size = w.heap.size + 3) := by show _ = _; simp
    generalize ((w.alloc (.cells #[.int .i64 R, .int .i64 C, .slice a L m] 26)).alloc (.cells #[.int .i64 0, .int .i64 0, .slice none 0 0] 26)).alloc (.cells #[.int .i64 0, .int .i64 0, .slice none 0 0] 26) = W0 at K0 R0 Q0 B0 S0 ⊢
    obtain ⟨p0, p1, p2, -, -, -⟩ := K0.out.all
    go_wp2_with fail
    refine (IM.out _ B0.out).mono ?_
    rintro e w1 ⟨rfl, hb⟩
    have K1 := Lib.hid (K0.out.step hb)
    have R1 := Lib.hid (R0.out.step hb)
    have Q1 := Lib.hid (Q0.out.step hb)
    have B1 := Lib.hid (B0.out.trans (hb.mono (by have := S0.out; omega)))
    have s1 : w.heap.size + 3 ≤ w1.heap.size := by have := S0.out; have := hb.size; omega
    clear hb p0 p1 p2 K0 R0 Q0 B0 S0
    obtain ⟨p0, p1, p2, -, -, -⟩ := K1.out.all
    go_wp2_with fail
    refine (CP.out _ B1.out).mono ?_
    rintro e w2 ⟨qa, ca, rfl, own, hb⟩
    have K2 := Lib.hid ((K1.out.step hb).old (.cells #[.int .i64 R, .int .i64 C, .slice qa L ca] 26))
    have R2 := Lib.hid ((R1.out.step hb).old (.cells #[.int .i64 R, .int .i64 C, .slice qa L ca] 26))
    have Q2 := Lib.hid ((Q1.out.step hb).old (.cells #[.int .i64 R, .int .i64 C, .slice qa L ca] 26))
    have A2 : Hid (Blk3 (w2.alloc (.cells #[.int .i64 R, .int .i64 C, .slice qa L ca] 26)) w2.heap.size 26 (.int .i64 R) (.int .i64 C) (.slice qa L ca)) := Blk3.at_ _ _ _ _ rfl
    have O2 := Lib.hid ((own.keep ((Below.refl _ _).alloc (Nat.le_refl _) (.cells #[.int .i64 R, .int .i64 C, .slice qa L ca] 26))).le (show w.heap.size ≤ _ by omega))
    have B2 := Lib.hid ((B1.out.trans (hb.mono (by omega))).alloc (by have := hb.size; omega) (.cells #[.int .i64 R, .int .i64 C, .slice qa L ca] 26))
    have s2 : w.heap.size + 3 ≤ w2.heap.size := by have := hb.size; omega
    clear hb own K1 R1 Q1 B1 p0 p1 p2 IM CP s1
    go_upto_region 4 with fail
    obtain ⟨bf, hbf⟩ : ∃ b, w2.heap.size = b := ⟨_, rfl⟩
    rw [hbf] at A2 s2 ⊢
    have s3 : Hid ((w2.alloc (.cells #[.int .i64 R, .int .i64 C, .slice qa L ca] 26)).heap.size = bf + 1) := by show _ = _; simp [hbf]
    generalize w2.alloc (.cells #[.int .i64 R, .int .i64 C, .slice qa L ca] 26) = W2 at K2 R2 Q2 A2 O2 B2 s3 ⊢
    clear hbf
    obtain ⟨p0, p1, p2, -, -, -⟩ := K2.out.all
    go_wp2_with fail
    refine (ID.out _).mono ?_
    rintro e w3 ⟨v, rfl, own, hb⟩
    dsimp only at own ⊢
    obtain ⟨qu, cu, rfl, -, -⟩ := own.form
    rw [HLU.out] at own ⊢
    have K3 := Lib.hid ((K2.out.step hb).old (.cells #[.int .i64 R, .int .i64 R, .slice qu LU cu] 26))
    have R3 := Lib.hid ((R2.out.step hb).old (.cells #[.int .i64 R, .int .i64 R, .slice qu LU cu] 26))
    have Q3 := Lib.hid ((Q2.out.step hb).old (.cells #[.int .i64 R, .int .i64 R, .slice qu LU cu] 26))
    have A3 := Lib.hid ((A2.out.step hb).old (.cells #[.int .i64 R, .int .i64 R, .slice qu LU cu] 26))
    have U3 : Hid (Blk3 (w3.alloc (.cells #[.int .i64 R, .int .i64 R, .slice qu LU cu] 26)) w3.heap.size 26 (.int .i64 R) (.int .i64 R) (.slice qu LU cu)) := Blk3.at_ _ _ _ _ rfl
    have DF : Hid (∀ k, (Value.slice qa L ca).ownBlock = some k → (Value.slice qu LU cu).ownBlock ≠ some k) := fun k hk e => by
      have h1 := O2.out.lt_of hk
      have h2 := own.lt_of e
      omega
    have O3 := Lib.hid ((O2.out.keep hb).keep ((Below.refl _ _).alloc (Nat.le_refl _) (.cells #[.int .i64 R, .int .i64 R, .slice qu LU cu] 26)))
    have N3 := Lib.hid ((own.keep ((Below.refl _ _).alloc (Nat.le_refl _) (.cells #[.int .i64 R, .int .i64 R, .slice qu LU cu] 26))).le (show w.heap.size ≤ _ by have := s3.out; omega))
    have B3 := Lib.hid ((B2.out.trans (hb.mono B2.out.size)).alloc (by have := hb.size; have := B2.out.size; omega) (.cells #[.int .i64 R, .int .i64 R, .slice qu LU cu] 26))
    have s4 : bf < w3.heap.size := by have := hb.size; have := s3.out; omega
    clear hb own K2 R2 Q2 A2 O2 B2 p0 p1 p2 ID s3
    go_upto_region 5 with fail
    obtain ⟨ba, hba⟩ : ∃ b, w3.heap.size = b := ⟨_, rfl⟩
    rw [hba] at U3 s4 ⊢
    have s5 : Hid ((w3.alloc (.cells #[.int .i64 R, .int .i64 R, .slice qu LU cu] 26)).heap.size = ba + 1) := by show _ = _; simp [hba]
    generalize w3.alloc (.cells #[.int .i64 R, .int .i64 R, .slice qu LU cu] 26) = W3 at K3 R3 Q3 A3 U3 O3 N3 B3 s5 ⊢
    clear hba
    go_upto_region 6 with fail
    obtain ⟨bx, hbx⟩ : ∃ b, W3.heap.size = b := ⟨_, rfl⟩
    have s6 : Hid (ba < bx) := by show _ < _; have := s5.out; omega
    have PT : Hid (Blk2 (W3.alloc (.cells #[.pointer (some ⟨bf, 0, none⟩), .pointer (some ⟨ba, 0, none⟩)] 93)) bx 93 (.pointer (some ⟨bf, 0, none⟩)) (.pointer (some ⟨ba, 0, none⟩))) := Blk2.at_ _ _ _ hbx.symm
    rw [hbx]
    have nb : Below W3.heap.size W3 (W3.alloc (.cells #[.pointer (some ⟨bf, 0, none⟩), .pointer (some ⟨ba, 0, none⟩)] 93)) := (Below.refl _ _).alloc (Nat.le_refl _) _
    have HX : Hid (HxM R C L LU bf ba bx w (xs, idL R R) (W3.alloc (.cells #[.pointer (some ⟨bf, 0, none⟩), .pointer (some ⟨ba, 0, none⟩)] 93))) :=
      ⟨⟨qa, qu, ca, cu, A3.out.old _, U3.out.old _, O3.out.keep nb, N3.out.keep nb, DF.out, XL.out, HLU.out, by omega⟩, PT.out, R3.out.old _, Q3.out.old _, B3.out.alloc B3.out.size _⟩
    have K4 := Lib.hid (K3.out.old (.cells #[.pointer (some ⟨bf, 0, none⟩), .pointer (some ⟨ba, 0, none⟩)] 93))
    generalize W3.alloc (.cells #[.pointer (some ⟨bf, 0, none⟩), .pointer (some ⟨ba, 0, none⟩)] 93) = W4 at HX K4 ⊢
    have n1 : Hid (w.heap.size + 2 < bf) := by show _ < _; omega
    have n2 : Hid (bf < ba) := s4
    clear K3 R3 Q3 A3 U3 O3 N3 B3 s5 DF PT hbx nb s2 s4
    obtain ⟨p0, p1, p2, -, -, -⟩ := K4.out.all
    obtain ⟨M, hM⟩ : ∃ M, mxC C xs = M := ⟨_, rfl⟩
    rw [hM] at F0
    clear hM
    go_wp2_with fail
    clear p0 p1 p2 K4
    go_loopw [4, 9, 10, 27] (fun _ v9 _ v27 wq => ∃ (j t : Nat) (s : HSt) (q : Nat → Nat), v9 = .int .i64 t ∧ v27 = .int .i64 j ∧ t ≤ R ∧ j ≤ C ∧ Fin2 R C M s ∧ HInv R C (mxC C s.1) q t j ∧ X = allF R C (C - j) j t s ∧ HxM R C L LU bf ba bx w s wq) (fun _ _ _ v27 _ => C - (intOf v27).toNat)
    case atStart => exact ⟨0, 0, (xs, idL R R), fun _ => 0, rfl, rfl, Nat.zero_le _, Nat.zero_le _, F0.out, H0.out, X0.out, HX.out⟩
    case round =>
      clear HX F0 X0 H0
      obtain ⟨j, t, s, q, rfl, rfl, ht, hj, hF, hI, hX, hW⟩ := hrel
      have FN := Lib.hid hF
      have IN := Lib.hid hI
      have EX := Lib.hid hX
      have WS := Lib.hid hW
      clear hF hI hX hW
      by_cases hjC : j < C
      rotate_left
      · obtain rfl : j = C := by omega
        have V : Hid (X = some s) := by refine Lib.hid ?_; rw [EX.out, Nat.sub_self]; rfl
        obtain ⟨qa, qu, ma, mu, hV⟩ := WS.out.ac
        have A4 := Lib.hid hV.kf
        have U4 := Lib.hid hV.ka
        have IA := Lib.hid hV.fA
        have IU := Lib.hid hV.fU
        have DF := Lib.hid hV.df
        have R4 := Lib.hid WS.out.r1
        have Q4 := Lib.hid WS.out.r2
        have B4 := Lib.hid WS.out.be
        clear hV WS EX PVT PVC FN IN
        go_wp2_with fail
        refine wp_region_T (S := fun w' => Blk3 w' bf 26 (.int .i64 R) (.int .i64 j) (.slice qa L ma) ∧ Blk3 w' ba 26 (.int .i64 R) (.int .i64 R) (.slice qu LU mu)) (T := fun _ => false) (by kernel_rfl) ⟨A4.out.drew, U4.out.drew⟩ (fun hH => ?_)
        have R5 := Lib.hid R4.out.drew
        have Q5 := Lib.hid Q4.out.drew
        have B5 := Lib.hid B4.out.drew
        have IA5 := Lib.hid (IA.out.moveA (w' := wr.drew) fun _ _ => rfl)
        have IU5 := Lib.hid (IU.out.moveA (w' := wr.drew) fun _ _ => rfl)
        generalize wr.drew = v0 at hH R5 Q5 B5 IA5 IU5 ⊢
        clear R4 Q4 B4 IA IU A4 U4
        refine wpAnyT_take (i := 0) (v := ?_) (by simp only [List.getElem?_toArray, List.getElem?_cons_zero]; rfl) (by kernel_rfl) (by kernel_rfl) (by kernel_rfl) (by kernel_rfl) (fun _ hj => by cases hj) (by exact fun _ _ _ h => h) (Or.inl ⟨by rfl, ?_⟩) hH ?_
        rotate_left
        · (intro wS hS; (try dsimp only at hS); obtain ⟨k1, k2, k3, -, -, -⟩ := hS.1.all; go_simp; try rfl)
        try simp only [Act.put, List.setIfInBounds_toArray, List.set_cons_zero, List.set_cons_succ]
        refine wpAnyT_ready (rs := [1, 2]) (by kernel_rfl) (by simp) ?_
        refine AllReadyT.cons (by simp only [List.getElem?_toArray, List.getElem?_cons_succ, List.getElem?_cons_zero]; rfl) (fun K hK => ?_) (AllReadyT.cons (by simp only [List.getElem?_toArray, List.getElem?_cons_succ, List.getElem?_cons_zero]; rfl) (fun K hK => ?_) AllReadyT.nil)
        ·
          obtain ⟨k1, k2, k3, -, -, -⟩ := hH.2.all
          go_simp
          try dsimp only
          refine hK.out _ _ (fun _ => hH) ?_
          clear hK K k1 k2 k3
          try simp only [Act.put, List.setIfInBounds_toArray, List.set_cons_zero, List.set_cons_succ]
          refine wpAnyT_ready (rs := [2]) (by kernel_rfl) (by simp) ?_
          refine AllReadyT.cons (by simp only [List.getElem?_toArray, List.getElem?_cons_succ, List.getElem?_cons_zero]; rfl) (fun K hK => ?_) AllReadyT.nil
          obtain ⟨r0, r1, r2, f0, f1, f2⟩ := R5.out.all
          go_simp
          try dsimp only
          have hN := And.intro (((hH.1.far (a := ⟨w.heap.size + 1, 0, none⟩) (by show bf ≠ w.heap.size + 1; have := n1.out; omega) (.int .i64 R)).far (a := ⟨w.heap.size + 1, 1, none⟩) (by show bf ≠ w.heap.size + 1; have := n1.out; omega) (.int .i64 j)).far (a := ⟨w.heap.size + 1, 2, none⟩) (by show bf ≠ w.heap.size + 1; have := n1.out; omega) (.slice qa L ma)) (((hH.2.far (a := ⟨w.heap.size + 1, 0, none⟩) (by show ba ≠ w.heap.size + 1; have := n1.out; have := n2.out; omega) (.int .i64 R)).far (a := ⟨w.heap.size + 1, 1, none⟩) (by show ba ≠ w.heap.size + 1; have := n1.out; have := n2.out; omega) (.int .i64 j)).far (a := ⟨w.heap.size + 1, 2, none⟩) (by show ba ≠ w.heap.size + 1; have := n1.out; have := n2.out; omega) (.slice qa L ma))
          have R6 := Lib.hid (((R5.out.set0 (.int .i64 R)).set1 (.int .i64 j)).set2 (.slice qa L ma))
          have Q6 := Lib.hid (((Q5.out.far (a := ⟨w.heap.size + 1, 0, none⟩) (by show w.heap.size + 2 ≠ w.heap.size + 1; omega) (.int .i64 R)).far (a := ⟨w.heap.size + 1, 1, none⟩) (by show w.heap.size + 2 ≠ w.heap.size + 1; omega) (.int .i64 j)).far (a := ⟨w.heap.size + 1, 2, none⟩) (by show w.heap.size + 2 ≠ w.heap.size + 1; omega) (.slice qa L ma))
          have B6 := Lib.hid (((B5.out.setCell (p := ⟨w.heap.size + 1, 0, none⟩) (by show w.heap.size ≤ w.heap.size + 1; omega) (.int .i64 R)).setCell (p := ⟨w.heap.size + 1, 1, none⟩) (by show w.heap.size ≤ w.heap.size + 1; omega) (.int .i64 j)).setCell (p := ⟨w.heap.size + 1, 2, none⟩) (by show w.heap.size ≤ w.heap.size + 1; omega) (.slice qa L ma))
          have IA6 := Lib.hid (IA5.out.setA (b := w.heap.size + 1) (IA5.out.ne_box R5.out) (.int .i64 R) (.int .i64 j) (.slice qa L ma))
          have IU6 := Lib.hid (IU5.out.setA (b := w.heap.size + 1) (IU5.out.ne_box R5.out) (.int .i64 R) (.int .i64 j) (.slice qa L ma))
          refine hK.out _ _ (fun _ => hN) ?_
          clear hK K r0 r1 r2 f0 f1 f2 hH R5 Q5 B5 IA5 IU5
          try simp only [Act.put, List.setIfInBounds_toArray, List.set_cons_zero, List.set_cons_succ]
          try simp only [show w.heap.size + 1 + 1 = w.heap.size + 2 from rfl]
          generalize (((v0.setCell ⟨w.heap.size + 1, 0, none⟩ (.int .i64 R)).setCell ⟨w.heap.size + 1, 1, none⟩ (.int .i64 j)).setCell ⟨w.heap.size + 1, 2, none⟩ (.slice qa L ma)) = v0 at hN R6 Q6 B6 IA6 IU6 ⊢
          have hH := hN
          have R5 := R6
          have Q5 := Q6
          have B5 := B6
          have IA5 := IA6
          have IU5 := IU6
          clear hN R6 Q6 B6 IA6 IU6
          refine wpAnyT_ready (rs := [3]) (by kernel_rfl) (by simp) ?_
          refine AllReadyT.cons (by simp only [List.getElem?_toArray, List.getElem?_cons_succ, List.getElem?_cons_zero]; rfl) (fun K hK => ?_) AllReadyT.nil
          obtain ⟨r0, r1, r2, f0, f1, f2⟩ := Q5.out.all
          go_simp
          try dsimp only
          have hN := And.intro (((hH.1.far (a := ⟨w.heap.size + 2, 0, none⟩) (by show bf ≠ w.heap.size + 2; have := n1.out; omega) (.int .i64 R)).far (a := ⟨w.heap.size + 2, 1, none⟩) (by show bf ≠ w.heap.size + 2; have := n1.out; omega) (.int .i64 R)).far (a := ⟨w.heap.size + 2, 2, none⟩) (by show bf ≠ w.heap.size + 2; have := n1.out; omega) (.slice qu LU mu)) (((hH.2.far (a := ⟨w.heap.size + 2, 0, none⟩) (by show ba ≠ w.heap.size + 2; have := n1.out; have := n2.out; omega) (.int .i64 R)).far (a := ⟨w.heap.size + 2, 1, none⟩) (by show ba ≠ w.heap.size + 2; have := n1.out; have := n2.out; omega) (.int .i64 R)).far (a := ⟨w.heap.size + 2, 2, none⟩) (by show ba ≠ w.heap.size + 2; have := n1.out; have := n2.out; omega) (.slice qu LU mu))
          have R6 := Lib.hid (((R5.out.far (a := ⟨w.heap.size + 2, 0, none⟩) (by show w.heap.size + 1 ≠ w.heap.size + 2; omega) (.int .i64 R)).far (a := ⟨w.heap.size + 2, 1, none⟩) (by show w.heap.size + 1 ≠ w.heap.size + 2; omega) (.int .i64 R)).far (a := ⟨w.heap.size + 2, 2, none⟩) (by show w.heap.size + 1 ≠ w.heap.size + 2; omega) (.slice qu LU mu))
          have Q6 := Lib.hid (((Q5.out.set0 (.int .i64 R)).set1 (.int .i64 R)).set2 (.slice qu LU mu))
          have B6 := Lib.hid (((B5.out.setCell (p := ⟨w.heap.size + 2, 0, none⟩) (by show w.heap.size ≤ w.heap.size + 2; omega) (.int .i64 R)).setCell (p := ⟨w.heap.size + 2, 1, none⟩) (by show w.heap.size ≤ w.heap.size + 2; omega) (.int .i64 R)).setCell (p := ⟨w.heap.size + 2, 2, none⟩) (by show w.heap.size ≤ w.heap.size + 2; omega) (.slice qu LU mu))
          have IA6 := Lib.hid (IA5.out.setA (b := w.heap.size + 2) (IA5.out.ne_box Q5.out) (.int .i64 R) (.int .i64 R) (.slice qu LU mu))
          have IU6 := Lib.hid (IU5.out.setA (b := w.heap.size + 2) (IU5.out.ne_box Q5.out) (.int .i64 R) (.int .i64 R) (.slice qu LU mu))
          refine hK.out _ _ (fun _ => hN) ?_
          clear hK K r0 r1 r2 f0 f1 f2 hH R5 Q5 B5 IA5 IU5
          try simp only [Act.put, List.setIfInBounds_toArray, List.set_cons_zero, List.set_cons_succ]
          try simp only [show w.heap.size + 1 + 1 = w.heap.size + 2 from rfl]
          generalize (((v0.setCell ⟨w.heap.size + 2, 0, none⟩ (.int .i64 R)).setCell ⟨w.heap.size + 2, 1, none⟩ (.int .i64 R)).setCell ⟨w.heap.size + 2, 2, none⟩ (.slice qu LU mu)) = v0 at hN R6 Q6 B6 IA6 IU6 ⊢
          have hH := hN
          have R5 := R6
          have Q5 := Q6
          have B5 := B6
          have IA5 := IA6
          have IU5 := IU6
          clear hN R6 Q6 B6 IA6 IU6
          refine wpAnyT_ready (rs := [4]) (by kernel_rfl) (by simp) ?_
          refine AllReadyT.cons (by simp only [List.getElem?_toArray, List.getElem?_cons_succ, List.getElem?_cons_zero]; rfl) (fun K hK => ?_) AllReadyT.nil
          go_simp
          try dsimp only
          refine hK.out _ _ (fun _ => hH) ?_
          clear hK K
          try simp only [Act.put, List.setIfInBounds_toArray, List.set_cons_zero, List.set_cons_succ]
          refine wpAnyT_done (by kernel_rfl) ?_ _
          go_wp2_with fail
          obtain ⟨E0, E1, E2, -, -, -⟩ := R5.out.all
          obtain ⟨E3, E4, E5, -, -, -⟩ := Q5.out.all
          refine bodyPost_ret (v := .tuple #[.agg #[.int .i64 R, .int .i64 j, .slice qa L ma], .agg #[.int .i64 R, .int .i64 R, .slice qu LU mu], .bool true]) (by simp [results, Try.results37, go_sem, E0, E1, E2, E3, E4, E5]) rfl ?_
          rw [V.out]
          exact ⟨.slice qa L ma, .slice qu LU mu, rfl, IA5.out, IU5.out, DF.out, B5.out⟩
        ·
          obtain ⟨r0, r1, r2, f0, f1, f2⟩ := R5.out.all
          go_simp
          try dsimp only
          have hN := And.intro (((hH.1.far (a := ⟨w.heap.size + 1, 0, none⟩) (by show bf ≠ w.heap.size + 1; have := n1.out; omega) (.int .i64 R)).far (a := ⟨w.heap.size + 1, 1, none⟩) (by show bf ≠ w.heap.size + 1; have := n1.out; omega) (.int .i64 j)).far (a := ⟨w.heap.size + 1, 2, none⟩) (by show bf ≠ w.heap.size + 1; have := n1.out; omega) (.slice qa L ma)) (((hH.2.far (a := ⟨w.heap.size + 1, 0, none⟩) (by show ba ≠ w.heap.size + 1; have := n1.out; have := n2.out; omega) (.int .i64 R)).far (a := ⟨w.heap.size + 1, 1, none⟩) (by show ba ≠ w.heap.size + 1; have := n1.out; have := n2.out; omega) (.int .i64 j)).far (a := ⟨w.heap.size + 1, 2, none⟩) (by show ba ≠ w.heap.size + 1; have := n1.out; have := n2.out; omega) (.slice qa L ma))
          have R6 := Lib.hid (((R5.out.set0 (.int .i64 R)).set1 (.int .i64 j)).set2 (.slice qa L ma))
          have Q6 := Lib.hid (((Q5.out.far (a := ⟨w.heap.size + 1, 0, none⟩) (by show w.heap.size + 2 ≠ w.heap.size + 1; omega) (.int .i64 R)).far (a := ⟨w.heap.size + 1, 1, none⟩) (by show w.heap.size + 2 ≠ w.heap.size + 1; omega) (.int .i64 j)).far (a := ⟨w.heap.size + 1, 2, none⟩) (by show w.heap.size + 2 ≠ w.heap.size + 1; omega) (.slice qa L ma))
          have B6 := Lib.hid (((B5.out.setCell (p := ⟨w.heap.size + 1, 0, none⟩) (by show w.heap.size ≤ w.heap.size + 1; omega) (.int .i64 R)).setCell (p := ⟨w.heap.size + 1, 1, none⟩) (by show w.heap.size ≤ w.heap.size + 1; omega) (.int .i64 j)).setCell (p := ⟨w.heap.size + 1, 2, none⟩) (by show w.heap.size ≤ w.heap.size + 1; omega) (.slice qa L ma))
          have IA6 := Lib.hid (IA5.out.setA (b := w.heap.size + 1) (IA5.out.ne_box R5.out) (.int .i64 R) (.int .i64 j) (.slice qa L ma))
          have IU6 := Lib.hid (IU5.out.setA (b := w.heap.size + 1) (IU5.out.ne_box R5.out) (.int .i64 R) (.int .i64 j) (.slice qa L ma))
          refine hK.out _ _ (fun _ => hN) ?_
          clear hK K r0 r1 r2 f0 f1 f2 hH R5 Q5 B5 IA5 IU5
          try simp only [Act.put, List.setIfInBounds_toArray, List.set_cons_zero, List.set_cons_succ]
          try simp only [show w.heap.size + 1 + 1 = w.heap.size + 2 from rfl]
          generalize (((v0.setCell ⟨w.heap.size + 1, 0, none⟩ (.int .i64 R)).setCell ⟨w.heap.size + 1, 1, none⟩ (.int .i64 j)).setCell ⟨w.heap.size + 1, 2, none⟩ (.slice qa L ma)) = v0 at hN R6 Q6 B6 IA6 IU6 ⊢
          have hH := hN
          have R5 := R6
          have Q5 := Q6
          have B5 := B6
          have IA5 := IA6
          have IU5 := IU6
          clear hN R6 Q6 B6 IA6 IU6
          refine wpAnyT_ready (rs := [1]) (by kernel_rfl) (by simp) ?_
          refine AllReadyT.cons (by simp only [List.getElem?_toArray, List.getElem?_cons_succ, List.getElem?_cons_zero]; rfl) (fun K hK => ?_) AllReadyT.nil
          obtain ⟨k1, k2, k3, -, -, -⟩ := hH.2.all
          go_simp
          try dsimp only
          refine hK.out _ _ (fun _ => hH) ?_
          clear hK K k1 k2 k3
          try simp only [Act.put, List.setIfInBounds_toArray, List.set_cons_zero, List.set_cons_succ]
          refine wpAnyT_ready (rs := [3]) (by kernel_rfl) (by simp) ?_
          refine AllReadyT.cons (by simp only [List.getElem?_toArray, List.getElem?_cons_succ, List.getElem?_cons_zero]; rfl) (fun K hK => ?_) AllReadyT.nil
          obtain ⟨r0, r1, r2, f0, f1, f2⟩ := Q5.out.all
          go_simp
          try dsimp only
          have hN := And.intro (((hH.1.far (a := ⟨w.heap.size + 2, 0, none⟩) (by show bf ≠ w.heap.size + 2; have := n1.out; omega) (.int .i64 R)).far (a := ⟨w.heap.size + 2, 1, none⟩) (by show bf ≠ w.heap.size + 2; have := n1.out; omega) (.int .i64 R)).far (a := ⟨w.heap.size + 2, 2, none⟩) (by show bf ≠ w.heap.size + 2; have := n1.out; omega) (.slice qu LU mu)) (((hH.2.far (a := ⟨w.heap.size + 2, 0, none⟩) (by show ba ≠ w.heap.size + 2; have := n1.out; have := n2.out; omega) (.int .i64 R)).far (a := ⟨w.heap.size + 2, 1, none⟩) (by show ba ≠ w.heap.size + 2; have := n1.out; have := n2.out; omega) (.int .i64 R)).far (a := ⟨w.heap.size + 2, 2, none⟩) (by show ba ≠ w.heap.size + 2; have := n1.out; have := n2.out; omega) (.slice qu LU mu))
          have R6 := Lib.hid (((R5.out.far (a := ⟨w.heap.size + 2, 0, none⟩) (by show w.heap.size + 1 ≠ w.heap.size + 2; omega) (.int .i64 R)).far (a := ⟨w.heap.size + 2, 1, none⟩) (by show w.heap.size + 1 ≠ w.heap.size + 2; omega) (.int .i64 R)).far (a := ⟨w.heap.size + 2, 2, none⟩) (by show w.heap.size + 1 ≠ w.heap.size + 2; omega) (.slice qu LU mu))
          have Q6 := Lib.hid (((Q5.out.set0 (.int .i64 R)).set1 (.int .i64 R)).set2 (.slice qu LU mu))
          have B6 := Lib.hid (((B5.out.setCell (p := ⟨w.heap.size + 2, 0, none⟩) (by show w.heap.size ≤ w.heap.size + 2; omega) (.int .i64 R)).setCell (p := ⟨w.heap.size + 2, 1, none⟩) (by show w.heap.size ≤ w.heap.size + 2; omega) (.int .i64 R)).setCell (p := ⟨w.heap.size + 2, 2, none⟩) (by show w.heap.size ≤ w.heap.size + 2; omega) (.slice qu LU mu))
          have IA6 := Lib.hid (IA5.out.setA (b := w.heap.size + 2) (IA5.out.ne_box Q5.out) (.int .i64 R) (.int .i64 R) (.slice qu LU mu))
          have IU6 := Lib.hid (IU5.out.setA (b := w.heap.size + 2) (IU5.out.ne_box Q5.out) (.int .i64 R) (.int .i64 R) (.slice qu LU mu))
          refine hK.out _ _ (fun _ => hN) ?_
          clear hK K r0 r1 r2 f0 f1 f2 hH R5 Q5 B5 IA5 IU5
          try simp only [Act.put, List.setIfInBounds_toArray, List.set_cons_zero, List.set_cons_succ]
          try simp only [show w.heap.size + 1 + 1 = w.heap.size + 2 from rfl]
          generalize (((v0.setCell ⟨w.heap.size + 2, 0, none⟩ (.int .i64 R)).setCell ⟨w.heap.size + 2, 1, none⟩ (.int .i64 R)).setCell ⟨w.heap.size + 2, 2, none⟩ (.slice qu LU mu)) = v0 at hN R6 Q6 B6 IA6 IU6 ⊢
          have hH := hN
          have R5 := R6
          have Q5 := Q6
          have B5 := B6
          have IA5 := IA6
          have IU5 := IU6
          clear hN R6 Q6 B6 IA6 IU6
          refine wpAnyT_ready (rs := [4]) (by kernel_rfl) (by simp) ?_
          refine AllReadyT.cons (by simp only [List.getElem?_toArray, List.getElem?_cons_succ, List.getElem?_cons_zero]; rfl) (fun K hK => ?_) AllReadyT.nil
          go_simp
          try dsimp only
          refine hK.out _ _ (fun _ => hH) ?_
          clear hK K
          try simp only [Act.put, List.setIfInBounds_toArray, List.set_cons_zero, List.set_cons_succ]
          refine wpAnyT_done (by kernel_rfl) ?_ _
          go_wp2_with fail
          obtain ⟨E0, E1, E2, -, -, -⟩ := R5.out.all
          obtain ⟨E3, E4, E5, -, -, -⟩ := Q5.out.all
          refine bodyPost_ret (v := .tuple #[.agg #[.int .i64 R, .int .i64 j, .slice qa L ma], .agg #[.int .i64 R, .int .i64 R, .slice qu LU mu], .bool true]) (by simp [results, Try.results37, go_sem, E0, E1, E2, E3, E4, E5]) rfl ?_
          rw [V.out]
          exact ⟨.slice qa L ma, .slice qu LU mu, rfl, IA5.out, IU5.out, DF.out, B5.out⟩
      obtain ⟨mk, hmk⟩ : ∃ mk, C - j = mk + 1 := ⟨C - j - 1, by omega⟩
      have EX : Hid (X = allF R C (mk + 1) j t s) := by rw [← hmk]; exact EX.out
      have EM : Hid (C - (j + 1) = mk) := by show _ = _; omega
      clear hmk
      obtain ⟨qa, qu, ma, mu, hV⟩ := WS.out.ac
      have PV1 := Lib.hid (PVC.out bf ba bx t j s wr qa qu ma mu hV ht hjC)
      obtain ⟨b0, b1, b2, -, -, -⟩ := hV.kf.all
      clear hV
      rcases leastS_says R C j t s ht with ⟨hl, hz⟩ | ⟨p, hL⟩
      · have EX : Hid (X = allF R C mk (j + 1) t s) := by
          refine Lib.hid ?_
          rw [EX.out]
          by_cases htR : t < R
          · exact all_some htR (col_skip hl)
          · rw [all_full htR, all_full htR]
        have I2 := Lib.hid (IN.out.skip hjC hz)
        rw [hx_none ht hz] at PV1
        clear hl hz
        go_wp2_with fail
        refine PV1.out.mono ?_
        rintro e w5 ⟨rfl, hb⟩
        have W5 := Lib.hid (WS.out.step hb)
        clear hb PV1 WS b0 b1 b2
        go_wp2_with fail
        go_roundw
        case rel => exact ⟨j + 1, t, s, q, rfl, by go_num, ht, by omega, FN.out, I2.out, by rw [EM.out]; exact EX.out, W5.out⟩
        case measure => simp [intOf]; omega
      · have htR : t < R := by have := hL.2.1; have := hL.2.2.1; omega
        obtain ⟨k0, hk0⟩ := hx_some hL.2.2.1 hL.2.1 hL.2.2.2.1
        rw [hk0] at PV1
        have LP := Lib.hid hL
        have n5 : ¬ (k0 : Int) < 0 := by omega
        clear hk0 hL
        go_wp2_with fail
        refine PV1.out.mono ?_
        rintro e w5 ⟨rfl, hb⟩
        have W5 := Lib.hid (WS.out.step hb)
        clear hb PV1 WS b0 b1 b2
        have PT1 := Lib.hid (PVT.out bf ba bx M q t j p s w5 W5.out FN.out IN.out htR hjC LP.out)
        obtain ⟨o, ho⟩ : ∃ o, colF R C j t s = o := ⟨_, rfl⟩
        rw [ho] at PT1
        have CN : Hid (o = none → X = none) := fun h9 => by rw [EX.out]; exact all_none htR (ho.trans h9)
        have CO : Hid (∀ s1, o = some (s1, t + 1) → X = allF R C mk (j + 1) (t + 1) s1 ∧ Fin2 R C M s1 ∧ ∃ q', HInv R C (mxC C s1.1) q' (t + 1) (j + 1)) := fun s1 h9 => ⟨by rw [EX.out]; exact all_some htR (ho.trans h9), colF_says FN.out IN.out hjC htR (ho.trans h9)⟩
        clear ho
        obtain ⟨a0, a1, -, -⟩ := W5.out.pt.all
        go_wp2_with fail
        refine PT1.out.mono ?_
        rintro e w6 ⟨hf, hr⟩
        rcases hr with ⟨s1, hs, rfl, hA⟩ | ⟨hs, rfl⟩
        · obtain ⟨e1, e2, q2, e3⟩ := CO.out s1 hs
          have X1 := Lib.hid e1
          have F1 := Lib.hid e2
          have I1 := Lib.hid e3
          have W6 := Lib.hid (W5.out.box n1.out n2.out s6.out hf hA)
          clear e1 e2 e3 hf hA hs PT1 W5 a0 a1 n5 CN CO
          go_wp2_with fail
          go_roundw
          case rel => exact ⟨j + 1, t + 1, s1, q2, by go_num, by go_num, by omega, by omega, F1.out, I1.out, by rw [EM.out]; exact X1.out, W6.out⟩
          case measure => simp [intOf]; omega
        · have V := Lib.hid (CN.out hs)
          obtain ⟨h1, h2, h3⟩ := W5.out.res n1.out n2.out hf
          have R6 := Lib.hid h1
          have Q6 := Lib.hid h2
          have B6 := Lib.hid h3
          clear hf hs PT1 W5 a0 a1 n5 CN CO h1 h2 h3
          obtain ⟨r0, r1, r2, f0, f1, f2⟩ := R6.out.all
          obtain ⟨e0, e1, e2, l0, l1, l2⟩ := Q6.out.all
          go_wp2_with fail
          obtain ⟨E0, E1, E2, -, -, -⟩ := ((((((R6.out.set0 (.int .i64 0)).set1 (.int .i64 0)).set2 (.slice none 0 0)).far (a := ⟨w.heap.size + 2, 0, none⟩) (by show _ ≠ _; simp) (.int .i64 0)).far (a := ⟨w.heap.size + 2, 1, none⟩) (by show _ ≠ _; simp) (.int .i64 0)).far (a := ⟨w.heap.size + 2, 2, none⟩) (by show _ ≠ _; simp) (.slice none 0 0)).all
          obtain ⟨E3, E4, E5, -, -, -⟩ := ((((((Q6.out.far (a := ⟨w.heap.size + 1, 0, none⟩) (by show _ ≠ _; simp) (.int .i64 0)).far (a := ⟨w.heap.size + 1, 1, none⟩) (by show _ ≠ _; simp) (.int .i64 0)).far (a := ⟨w.heap.size + 1, 2, none⟩) (by show _ ≠ _; simp) (.slice none 0 0)).set0 (.int .i64 0)).set1 (.int .i64 0)).set2 (.slice none 0 0)).all
          refine bodyPost_ret (v := .tuple #[.agg #[.int .i64 0, .int .i64 0, .slice none 0 0], .agg #[.int .i64 0, .int .i64 0, .slice none 0 0], .bool false]) (by simp [results, Try.results37, go_sem, E0, E1, E2, E3, E4, E5]) rfl ?_
          rw [V.out]
          refine ⟨_, _, rfl, .inl ⟨rfl, rfl⟩, .inl ⟨rfl, rfl⟩, fun k hk => by simp [Value.ownBlock] at hk, ?_⟩
          exact (((((B6.out.setCell (by show w.heap.size ≤ w.heap.size + 1; omega) _).setCell (by show w.heap.size ≤ w.heap.size + 1; omega) _).setCell (by show w.heap.size ≤ w.heap.size + 1; omega) _).setCell (by show w.heap.size ≤ w.heap.size + 2; omega) _).setCell (by show w.heap.size ≤ w.heap.size + 2; omega) _).setCell (by show w.heap.size ≤ w.heap.size + 2; omega) _
end Go.Proofs.Ytpelnfenfeoeeaa
end

section
/-
  Plain mathematics of chapter 12: telling a Hermite form. Nothing of a program is used.
-/
namespace Go.Proofs.Ytpelnfenfeoeeaa
def hrBad (c : Nat) (xs : List Int) (i : Nat) (last : Int) : Prop := leadC c (mxC c xs i) < c ∧ (last = c ∨ (leadC c (mxC c xs i) : Int) ≤ last ∨ mxC c xs i (leadC c (mxC c xs i)) < 0)
def hcBad (r c : Nat) (xs : List Int) (i : Nat) : Prop := leadC c (mxC c xs i) < c ∧ ∃ k, k < r ∧ ((k < i ∧ ¬ (0 ≤ mxC c xs k (leadC c (mxC c xs i)) ∧ mxC c xs k (leadC c (mxC c xs i)) ≤ mxC c xs i (leadC c (mxC c xs i)) - 1)) ∨ (i < k ∧ mxC c xs k (leadC c (mxC c xs i)) ≠ 0))
def HmB (r c : Nat) (xs : List Int) : Nat → Nat → Int → Prop
  | 0, _, _ => True
  | k + 1, i, last => ¬ hrBad c xs i last ∧ ¬ hcBad r c xs i ∧ HmB r c xs k (i + 1) (leadC c (mxC c xs i))
theorem HerP.lead_at {r c t : Nat} {xs : List Int} {p : Nat → Nat} (h : HerP r c (mxC c xs) p t) {i : Nat} (hi : i < t) : leadC c (mxC c xs i) = p i :=
  leadF_eq (Nat.zero_le _) (by have := h.col i hi; omega) (fun j _ hj => h.left i j hi hj) (fun _ => by have := h.pos i hi; omega)
theorem HerP.lead_no {r c t : Nat} {xs : List Int} {p : Nat → Nat} (h : HerP r c (mxC c xs) p t) {i : Nat} (hi : t ≤ i) (hir : i < r) : leadC c (mxC c xs i) = c :=
  leadF_eq (Nat.zero_le _) (by omega) (fun j _ hj => h.rest i j hi hir hj) (fun h => by omega)
end Go.Proofs.Ytpelnfenfeoeeaa
end

section
/-
  Chapter 12, in the model: IsHermite.
-/
namespace Go.Proofs.Ytpelnfenfeoeeaa
set_option maxRecDepth 100000
open Go.RowKit
end Go.Proofs.Ytpelnfenfeoeeaa
end

section
/-
  Chapter 12, in the model: how many rows are not zeros.
-/
namespace Go.Proofs.Ytpelnfenfeoeeaa
set_option maxRecDepth 100000
open Go.RowKit
def rowsN (c : Nat) (xs : List Int) : Nat → Nat
  | 0 => 0
  | i + 1 => if leadC c (mxC c xs i) < c then i + 1 else rowsN c xs i
theorem rowsN_le (c : Nat) (xs : List Int) : ∀ i, rowsN c xs i ≤ i
  | 0 => Nat.le_refl _
  | i + 1 => by
    have := rowsN_le c xs i
    show (if _ then _ else _) ≤ i + 1
    split
    · exact Nat.le_refl _
    · exact Nat.le_succ_of_le this
theorem rowsN_her {r c t : Nat} {xs : List Int} {p : Nat → Nat} (h : HerP r c (mxC c xs) p t) : ∀ i, i ≤ r → rowsN c xs i = min i t
  | 0, _ => by show 0 = _; omega
  | i + 1, hi => by
    have ih := rowsN_her h i (by omega)
    show (if _ then _ else _) = _
    rcases Nat.lt_or_ge i t with h1 | h1
    · rw [if_pos (by rw [h.lead_at h1]; exact h.col i h1)]; omega
    · rw [if_neg (by rw [h.lead_no h1 (by omega)]; omega), ih]; omega
set_option maxHeartbeats 2000000 in
theorem sRowsH (r c N : Nat) (a : Option Addr) (m : Nat) (xs : List Int) (w : World) (h : Rd w a xs) (hx : xs.length = N) (hN : N = r * c) (hr : r ≤ 24) (hc : c ≤ 24) :
    Calls Try.prog 84 #[.agg #[.int .i64 r, .int .i64 c, .slice a N m]] w (Gives (.int .i64 (rowsN c xs r)) w) := by
  have CE : Hid (∀ i j w', i < r → j < c → Rd w' a xs → Calls Try.prog 63 #[.agg #[.int .i64 r, .int .i64 c, .slice a N m], .int .i64 i, .int .i64 j] w' (Gives (.int .i64 (mxC c xs i j)) w')) := fun i j w' hi hj h' => sCel r c a N m i j xs w' h' hx hN hr hc hi hj
  have ST : Hid (IsSt w r c a N m xs (w.alloc (.cells #[.int .i64 r, .int .i64 c, .slice a N m] 26))) := ⟨Blk3.at_ _ _ _ _ rfl, h.below ((Below.refl _ _).alloc (Nat.le_refl _) _), (Below.refl _ _).alloc (Nat.le_refl _) _⟩
  have RN : Hid (∀ i, rowsN c xs (i + 1) = if leadC c (mxC c xs i) < c then i + 1 else rowsN c xs i) := fun i => rfl
  have R0 : Hid (rowsN c xs 0 = 0) := rfl
  obtain ⟨rn, hrn⟩ : ∃ rn, rowsN c xs = rn := ⟨_, rfl⟩
  rw [hrn] at RN R0 ⊢
  clear hN hx h hrn
  go_enter Try.func84, Try.ntmps84
  go_wp2_with fail
  generalize w.alloc (.cells #[.int .i64 r, .int .i64 c, .slice a N m] 26) = W at ST ⊢
  go_loopw [3, 4, 5] (fun v3 v4 _ wr => ∃ i : Nat, v3 = .int .i64 (rn i : Nat) ∧ v4 = .int .i64 i ∧ i ≤ r ∧ IsSt w r c a N m xs wr) (fun _ v4 _ _ => r - (intOf v4).toNat)
  case atStart => exact ⟨0, by rw [R0.out]; rfl, rfl, by omega, ST.out⟩
  case round =>
    clear ST
    obtain ⟨i, rfl, rfl, hi, hst⟩ := hrel
    have ST := Lib.hid hst
    clear hst
    obtain ⟨p0, p1, p2, -, -, -⟩ := ST.out.blk.all
    by_cases hir : i < r
    rotate_left
    · obtain rfl : i = r := by omega
      go_wp2_with fail
      go_ret
      exact ⟨rfl, ST.out.bel⟩
    go_wp2_with fail
    clear p0 p1 p2
    go_loopw [3, 5] (fun v3 v5 wr => ∃ j z3 : Nat, v5 = .int .i64 j ∧ v3 = .int .i64 z3 ∧ j ≤ c ∧ ((z3 = rn i ∧ ∀ q, q < j → mxC c xs i q = 0) ∨ (z3 = i + 1 ∧ ∃ q, q < c ∧ mxC c xs i q ≠ 0)) ∧ IsSt w r c a N m xs wr) (fun _ v5 _ => c - (intOf v5).toNat)
    case atStart => exact ⟨0, rn i, rfl, rfl, by omega, .inl ⟨rfl, fun q hq => by omega⟩, ST.out⟩
    case round =>
      clear ST
      obtain ⟨j, z3, rfl, rfl, hj, hv, hst⟩ := hrel
      have ST := Lib.hid hst
      have HV := Lib.hid hv
      clear hst hv
      obtain ⟨p0, p1, p2, -, -, -⟩ := ST.out.blk.all
      by_cases hjc : j < c
      rotate_left
      · obtain rfl : c = j := by omega
        have RS : Hid (rn (i + 1) = z3) := by
          refine Lib.hid ?_
          rw [RN.out]
          rcases HV.out with ⟨e, h0⟩ | ⟨e, q, hq, h0⟩
          · rw [if_neg]
            · exact e.symm
            · intro hl
              exact (leadC_says c (mxC c xs i)).2.2 hl (h0 _ hl)
          · rw [if_pos]
            · exact e.symm
            · have := leadC_says c (mxC c xs i)
              exact Classical.byContradiction fun hn => h0 (this.2.1 q (by omega))
        go_wp2_with fail
        go_roundw
        case rel => exact ⟨i + 1, by rw [RS.out], by go_num, by omega, ST.out⟩
        case measure => simp [intOf]; omega
      have CX := Lib.hid (CE.out i j _ hir hjc ST.out.rd)
      obtain ⟨x, hx⟩ : ∃ x, mxC c xs i j = x := ⟨_, rfl⟩
      have X := Lib.hid hx
      rw [hx] at CX
      clear hx
      go_wp2_with fail
      refine CX.out.mono ?_
      rintro e w2 ⟨rfl, hb⟩
      have ST := Lib.hid (ST.out.step hb)
      clear hb CX p0 p1 p2
      by_cases hx0 : x = 0
      · have n1 : (x != 0) = false := by simp [hx0]
        have HV2 : Hid ((z3 = rn i ∧ ∀ q, q < j + 1 → mxC c xs i q = 0) ∨ (z3 = i + 1 ∧ ∃ q, q < c ∧ mxC c xs i q ≠ 0)) := by
          refine Lib.hid ?_
          rcases HV.out with ⟨e, h0⟩ | h
          · refine .inl ⟨e, fun q hq => ?_⟩
            rcases Nat.lt_or_ge q j with h3 | h3
            · exact h0 q h3
            · obtain rfl : q = j := by omega
              rw [X.out]; exact hx0
          · exact .inr h
        clear hx0
        go_wp2_with fail
        go_roundw
        case rel => exact ⟨j + 1, z3, by go_num, rfl, by omega, HV2.out, ST.out⟩
        case measure => simp [intOf]; omega
      · have n1 : (x != 0) = true := by simpa using hx0
        have HQ : Hid (∃ q, q < c ∧ mxC c xs i q ≠ 0) := ⟨j, hjc, by rw [X.out]; exact hx0⟩
        clear hx0
        go_wp2_with fail
        go_roundw
        case rel => exact ⟨j + 1, i + 1, by go_num, by go_num, by omega, .inr ⟨rfl, HQ.out⟩, ST.out⟩
        case measure => simp [intOf]; omega
end Go.Proofs.Ytpelnfenfeoeeaa
end

section
/-
  A list of ints that may be nil is appended onto an empty list of the call's own: a copy in a block.
-/
namespace Go.Proofs.Ytpelnfenfeoeeaa
set_option maxRecDepth 100000
open Go.RowKit
theorem append_nil (w : World) (a : Addr) (c mb : Nat) : (Builtin.append_ #[22, 22] 22 #[.slice (some a) 0 c, .slice none 0 mb]).run Try.prog w = .ok (.slice (some a) 0 c) w := by
  simp [Builtin.append_, go_sem]
end Go.Proofs.Ytpelnfenfeoeeaa
end

section
/-
  Chapter 12, in the model: BasisOf.
-/
namespace Go.Proofs.Ytpelnfenfeoeeaa
set_option maxRecDepth 100000
open Go.RowKit
theorem appendCopy2 (w : World) {B g : Nat} {ab : Option Addr} {bs : List Int} (hs : Spot ab) (mb : Nat) (h : Rd w ab bs) (hn : bs.length ≤ 16777216) (hB : B ≤ w.heap.size) (hg : IntsC w g 0 []) (hgB : B ≤ g) :
    ∃ g' cap w', (Builtin.append_ #[22, 22] 22 #[.slice (some ⟨g, 0, none⟩) 0 0, .slice ab bs.length mb]).run Try.prog w = .ok (.slice (some ⟨g', 0, none⟩) bs.length cap) w' ∧ Ints w' g' bs ∧ B ≤ g' ∧ bs.length ≤ cap ∧ w.grownBy w' (some g) := by
  rcases hs with rfl | ⟨b, o, rfl⟩
  · have hb : bs = [] := by
      cases bs with
      | nil => rfl
      | cons z zs => obtain ⟨_, _, e, _⟩ := h 0 (by simp); cases e
    subst hb
    obtain ⟨-, rest, -, hgg⟩ := hg
    exact ⟨g, 0, w, append_nil w _ 0 mb, ⟨rest, hgg⟩, hgB, Nat.le_refl _, ⟨rfl, rfl, rfl, Nat.le_refl _, fun _ _ _ => rfl⟩⟩
  · have own : w.ownsRow B 3 1 (.slice (some ⟨g, 0, none⟩) 0 0) 0 (([] : List Int).map (Value.int .i64)) := OwnQ.none_ hgB hg
    obtain ⟨v', w', hr, ho, hgr, hne⟩ := appendInts2 w B 0 bs.length mb (.slice (some ⟨g, 0, none⟩) 0 0) [] bs b o own h rfl (by omega) hB
    rw [Nat.zero_add, List.nil_append] at ho
    obtain ⟨-, ⟨rfl, -⟩ | ⟨g', cap, cur, rfl, hB2, hc, hcap, -, -, ht⟩⟩ := ho
    · exact absurd (hne.mp rfl).1 (by simp)
    · refine ⟨g', cap, w', hr, ⟨cur.toList.drop bs.length, ?_⟩, hB2, hcap, hgr⟩
      rw [hc]
      congr 1
      congr 1
      rw [Nat.mul_one] at ht
      rw [← ht, List.take_append_drop]
def basR (r c : Int) (xs : List Int) : MR := if (herR r c xs).ok = true then ⟨true, (rowsN c.toNat (herR r c xs).zs r.toNat : Nat), c, (herR r c xs).zs.take (rowsN c.toNat (herR r c xs).zs r.toNat * c.toNat)⟩ else ⟨false, 0, 0, []⟩
theorem herR_ok {r c : Int} {xs : List Int} (h : (herR r c xs).ok = true) : ∃ (R C : Nat) (s : HSt), r = R ∧ c = C ∧ R ≤ 24 ∧ C ≤ 24 ∧ herX R C xs = some s ∧ herR r c xs = ⟨true, R, C, s.1, R, R, s.2⟩ ∧ Siz R C s := by
  cases hm : isMat r c xs with
  | false =>
    unfold herR at h
    rw [if_neg (by rw [hm]; decide)] at h
    cases h
  | true =>
    obtain ⟨⟨r0, r1⟩, ⟨c0, c1⟩, hl, nx⟩ := isMat_says hm
    obtain ⟨R, rfl⟩ := Int.eq_ofNat_of_zero_le r0
    obtain ⟨C, rfl⟩ := Int.eq_ofNat_of_zero_le c0
    have hl : xs.length = R * C := by rw [← Int.natCast_mul] at hl; omega
    have e : herR R C xs = HR.of R C (herX R C xs) := by unfold herR; rw [if_pos hm]; rfl
    rw [e] at h ⊢
    cases hx : herX R C xs with
    | none => rw [hx] at h; cases h
    | some s => exact ⟨R, C, s, rfl, rfl, by omega, by omega, hx, rfl, (herX_says hl nx hx).1.siz⟩
theorem Own.spot {B : Nat} {w : World} {a : Option Addr} {n m : Nat} {zs : List Int} (h : Own B w (.slice a n m) zs) : Spot a ∧ zs.length ≤ m := by
  rcases h with ⟨e, rfl⟩ | ⟨g, cap, e, -, -, h1, -⟩
  · injection e with e1 e2 e3
    exact ⟨.inl e1, Nat.zero_le _⟩
  · injection e with e1 e2 e3
    exact ⟨.inr ⟨g, 0, e1⟩, by omega⟩
theorem bzF {W w' : World} {b : Nat} {t : TypeId} {p q r : Value} (h0 : Blk3 W b t p q r) (hb : Below W.heap.size W w') : w'.cell? ⟨b, 1, none⟩ = some q ∧ w'.cell? ⟨b, 2, none⟩ = some r := by
  obtain ⟨-, a2, a3, -, -, -⟩ := (h0.step hb).all
  exact ⟨a2, a3⟩
set_option maxHeartbeats 4000000 in
theorem sBasis (r c : Int) (a : Option Addr) (m : Nat) (xs : List Int) (w : World) (h : Rd w a xs) (hn : xs.length ≤ 16777216) (ha : Spot a) :
    Calls Try.prog 33 #[.agg #[.int .i64 r, .int .i64 c, .slice a xs.length m]] w (MatRes (basR r c xs) w) := by
  have HF : Hid (∀ w', Below w.heap.size w w' → Calls Try.prog 36 #[.agg #[.int .i64 r, .int .i64 c, .slice a xs.length m]] w' (HerG w' (herR r c xs))) := fun w' hb => sHerm r c a m xs w' (h.below hb) hn ha
  cases hok : (herR r c xs).ok with
  | false =>
    have RN : Hid (basR r c xs = ⟨false, 0, 0, []⟩) := by show _ = _; unfold basR; rw [if_neg (by rw [hok]; decide)]
    generalize basR r c xs = RES at RN ⊢
    generalize herR r c xs = HH at HF hok
    generalize xs.length = L at HF ⊢
    clear h hn ha
    go_enter Try.func33, Try.ntmps33
    go_upto_region 1 with fail
    have K0 : Hid (Blk3 ((w.alloc (.cells #[.int .i64 r, .int .i64 c, .slice a L m] 26)).alloc (.cells #[.int .i64 0, .int .i64 0, .slice none 0 0] 26)) w.heap.size 26 (.int .i64 r) (.int .i64 c) (.slice a L m)) := (Blk3.at_ _ _ _ _ rfl).old _
    have R0 : Hid (Blk3 ((w.alloc (.cells #[.int .i64 r, .int .i64 c, .slice a L m] 26)).alloc (.cells #[.int .i64 0, .int .i64 0, .slice none 0 0] 26)) (w.heap.size + 1) 26 (.int .i64 0) (.int .i64 0) (.slice none 0 0)) := Blk3.at_ _ _ _ _ (by simp)
    have B0 : Hid (Below w.heap.size w ((w.alloc (.cells #[.int .i64 r, .int .i64 c, .slice a L m] 26)).alloc (.cells #[.int .i64 0, .int .i64 0, .slice none 0 0] 26))) := ((Below.refl _ _).alloc (Nat.le_refl _) _).alloc (by simp) _
    have S0 : Hid (((w.alloc (.cells #[.int .i64 r, .int .i64 c, .slice a L m] 26)).alloc (.cells #[.int .i64 0, .int .i64 0, .slice none 0 0] 26)).heap.size = w.heap.size + 2) := by show _ = _; simp
    generalize (w.alloc (.cells #[.int .i64 r, .int .i64 c, .slice a L m] 26)).alloc (.cells #[.int .i64 0, .int .i64 0, .slice none 0 0] 26) = W0 at K0 R0 B0 S0 ⊢
    obtain ⟨p0, p1, p2, -, -, -⟩ := K0.out.all
    go_wp2_with fail
    refine (HF.out _ B0.out).mono ?_
    rintro e w1 ⟨va, vb, rfl, oa, ob, -, hb⟩
    obtain ⟨qa, ca, rfl, -, -⟩ := oa.form
    obtain ⟨qb, cb, rfl, -, -⟩ := ob.form
    rw [hok]
    have R1 := Lib.hid (((R0.out.step hb).old (.cells #[.int .i64 HH.r1, .int .i64 HH.c1, .slice qa HH.zs.length ca] 26)).old (.cells #[.int .i64 HH.r2, .int .i64 HH.c2, .slice qb HH.us.length cb] 26))
    have B1 := Lib.hid (((B0.out.trans (hb.mono (by have := S0.out; omega))).alloc (by have := S0.out; have := hb.size; omega) (.cells #[.int .i64 HH.r1, .int .i64 HH.c1, .slice qa HH.zs.length ca] 26)).alloc (by have := S0.out; have := hb.size; simp; omega) (.cells #[.int .i64 HH.r2, .int .i64 HH.c2, .slice qb HH.us.length cb] 26))
    clear hb oa ob p0 p1 p2 K0 R0 B0
    go_upto_region 2 with fail
    generalize (w1.alloc (.cells #[.int .i64 HH.r1, .int .i64 HH.c1, .slice qa HH.zs.length ca] 26)).alloc (.cells #[.int .i64 HH.r2, .int .i64 HH.c2, .slice qb HH.us.length cb] 26) = W1 at R1 B1 ⊢
    obtain ⟨r0, r1, r2, f0, f1, f2⟩ := R1.out.all
    go_wp2_with fail
    obtain ⟨E0, E1, E2, -, -, -⟩ := (((R1.out.set0 (.int .i64 0)).set1 (.int .i64 0)).set2 (.slice none 0 0)).all
    refine bodyPost_ret (v := .tuple #[.agg #[.int .i64 0, .int .i64 0, .slice none 0 0], .bool false]) (by simp [results, Try.results33, go_sem, E0, E1, E2]) rfl ?_
    rw [RN.out]
    exact ⟨_, rfl, .inl ⟨rfl, rfl⟩, ((B1.out.setCell (by show w.heap.size ≤ w.heap.size + 1; omega) _).setCell (by show w.heap.size ≤ w.heap.size + 1; omega) _).setCell (by show w.heap.size ≤ w.heap.size + 1; omega) _⟩
  | true =>
    obtain ⟨R, C, s, rfl, rfl, R24, C24, -, eh, SZ⟩ := herR_ok hok
    have RY : Hid (basR R C xs = ⟨true, (rowsN C s.1 R : Nat), C, s.1.take (rowsN C s.1 R * C)⟩) := by show _ = _; unfold basR; rw [if_pos hok, eh]; rfl
    have hbd : R * C ≤ 24 * 24 := Nat.mul_le_mul R24 C24
    have nR := rowsN_le C s.1 R
    have hP : rowsN C s.1 R * C ≤ R * C := Nat.mul_le_mul_right C nR
    have RW : Hid (∀ (b : Option Addr) (m' : Nat) w', Rd w' b s.1 → Calls Try.prog 84 #[.agg #[.int .i64 R, .int .i64 C, .slice b (R * C) m']] w' (Gives (.int .i64 (rowsN C s.1 R)) w')) := fun b m' w' hr => sRowsH R C (R * C) b m' s.1 w' hr SZ.l1 rfl R24 C24
    have TL : Hid ((s.1.take (rowsN C s.1 R * C)).length = rowsN C s.1 R * C) := by show _ = _; rw [List.length_take, SZ.l1]; omega
    have L1 := Lib.hid SZ.l1
    rw [eh] at HF
    rw [RY.out]
    obtain ⟨n, hn9⟩ : ∃ n, rowsN C s.1 R = n := ⟨_, rfl⟩
    rw [hn9] at RW TL nR hP ⊢
    have v1 : IntKind.i64.wrap ((n : Int) * (C : Int)) = ((n * C : Nat) : Int) := by rw [← Int.natCast_mul]; exact IntWalk.i64_in _ (by omega)
    obtain ⟨P, hP9⟩ : ∃ P, n * C = P := ⟨_, rfl⟩
    rw [hP9] at TL hP v1 ⊢
    obtain ⟨N, hN9⟩ : ∃ N, R * C = N := ⟨_, rfl⟩
    rw [hN9] at RW L1 hP hbd
    generalize xs.length = L at HF ⊢
    clear h hn ha hok eh SZ RY hn9 hP9 hN9
    go_enter Try.func33, Try.ntmps33
    go_upto_region 1 with fail
    have K0 : Hid (Blk3 ((w.alloc (.cells #[.int .i64 R, .int .i64 C, .slice a L m] 26)).alloc (.cells #[.int .i64 0, .int .i64 0, .slice none 0 0] 26)) w.heap.size 26 (.int .i64 R) (.int .i64 C) (.slice a L m)) := (Blk3.at_ _ _ _ _ rfl).old _
    have R0 : Hid (Blk3 ((w.alloc (.cells #[.int .i64 R, .int .i64 C, .slice a L m] 26)).alloc (.cells #[.int .i64 0, .int .i64 0, .slice none 0 0] 26)) (w.heap.size + 1) 26 (.int .i64 0) (.int .i64 0) (.slice none 0 0)) := Blk3.at_ _ _ _ _ (by simp)
    have B0 : Hid (Below w.heap.size w ((w.alloc (.cells #[.int .i64 R, .int .i64 C, .slice a L m] 26)).alloc (.cells #[.int .i64 0, .int .i64 0, .slice none 0 0] 26))) := ((Below.refl _ _).alloc (Nat.le_refl _) _).alloc (by simp) _
    have S0 : Hid (((w.alloc (.cells #[.int .i64 R, .int .i64 C, .slice a L m] 26)).alloc (.cells #[.int .i64 0, .int .i64 0, .slice none 0 0] 26)).heap.size = w.heap.size + 2) := by show _ = _; simp
    generalize (w.alloc (.cells #[.int .i64 R, .int .i64 C, .slice a L m] 26)).alloc (.cells #[.int .i64 0, .int .i64 0, .slice none 0 0] 26) = W0 at K0 R0 B0 S0 ⊢
    obtain ⟨p0, p1, p2, -, -, -⟩ := K0.out.all
    go_wp2_with fail
    refine (HF.out _ B0.out).mono ?_
    rintro e w1 ⟨va, vb, rfl, oa, ob, -, hb⟩
    dsimp only at oa ob ⊢
    obtain ⟨qa, ca, rfl, hqa, -⟩ := oa.form
    obtain ⟨qb, cb, rfl, -, -⟩ := ob.form
    obtain ⟨sp, hca⟩ := oa.spot
    rw [L1.out] at hca ⊢
    have SP := Lib.hid sp
    have R1 := Lib.hid (((R0.out.step hb).old (.cells #[.int .i64 R, .int .i64 C, .slice qa N ca] 26)).old (.cells #[.int .i64 R, .int .i64 R, .slice qb s.2.length cb] 26))
    have A1 : Hid (Blk3 ((w1.alloc (.cells #[.int .i64 R, .int .i64 C, .slice qa N ca] 26)).alloc (.cells #[.int .i64 R, .int .i64 R, .slice qb s.2.length cb] 26)) w1.heap.size 26 (.int .i64 R) (.int .i64 C) (.slice qa N ca)) := (Blk3.at_ _ _ _ _ rfl).old _
    have Q1 := Lib.hid (hqa.below (((Below.refl w1.heap.size w1).alloc (Nat.le_refl _) (.cells #[.int .i64 R, .int .i64 C, .slice qa N ca] 26)).alloc (by simp) (.cells #[.int .i64 R, .int .i64 R, .slice qb s.2.length cb] 26)))
    have B1 := Lib.hid (((B0.out.trans (hb.mono (by have := S0.out; omega))).alloc (by have := S0.out; have := hb.size; omega) (.cells #[.int .i64 R, .int .i64 C, .slice qa N ca] 26)).alloc (by have := S0.out; have := hb.size; simp; omega) (.cells #[.int .i64 R, .int .i64 R, .slice qb s.2.length cb] 26))
    have s1 : w.heap.size + 2 ≤ w1.heap.size := by have := S0.out; have := hb.size; omega
    clear hb oa ob hqa sp p0 p1 p2 K0 R0 B0 S0
    go_upto_region 2 with fail
    obtain ⟨b4, hb4⟩ : ∃ b, w1.heap.size = b := ⟨_, rfl⟩
    rw [hb4] at A1 s1 ⊢
    generalize (w1.alloc (.cells #[.int .i64 R, .int .i64 C, .slice qa N ca] 26)).alloc (.cells #[.int .i64 R, .int .i64 R, .slice qb s.2.length cb] 26) = W1 at R1 A1 Q1 B1 ⊢
    clear hb4
    obtain ⟨p0, p1, p2, -, -, -⟩ := A1.out.all
    have RW1 := Lib.hid (RW.out qa ca W1 Q1.out)
    go_wp2_with fail
    refine RW1.out.mono ?_
    rintro e w5 ⟨rfl, hb⟩
    have R5 := Lib.hid (R1.out.step hb)
    have A5 := Lib.hid (A1.out.step hb)
    have Q5 := Lib.hid (Q1.out.below hb)
    have B5 := Lib.hid (B1.out.trans (hb.mono B1.out.size))
    clear hb R1 A1 Q1 B1 RW RW1 p0 p1 p2
    have p1 : (0 : Int) ≤ (P : Int) := by omega
    have p2 : (P : Int) ≤ (ca : Int) := by omega
    go_wp2_with fail
    refine wp_region_T (S := fun w' => Below w5.heap.size w5 w') (T := fun j => j == 13 || j == 14) (by kernel_rfl) (Below.refl _ _).drew (fun hH => ?_)
    refine wpAnyT_take (i := 0) (v := ?_) (by simp only [List.getElem?_toArray, List.getElem?_cons_zero]; rfl) (by kernel_rfl) (by kernel_rfl) (by kernel_rfl) (by kernel_rfl) (two_only 13 14 (by kernel_rfl) (by kernel_rfl)) (by exact fun _ _ _ h => h) (Or.inl ⟨by rfl, ?_⟩) hH ?_
    rotate_left
    · (intro wS hS; clear hS; go_simp; try rfl)
    try simp only [Act.put, List.setIfInBounds_toArray, List.set_cons_zero, List.set_cons_succ]
    refine wpAnyT_take (i := 1) (v := ?_) (by simp only [List.getElem?_toArray, List.getElem?_cons_succ, List.getElem?_cons_zero]; rfl) (by kernel_rfl) (by kernel_rfl) (by kernel_rfl) (by kernel_rfl) (two_only 13 14 (by kernel_rfl) (by kernel_rfl)) (by exact fun _ _ _ h => h) (Or.inl ⟨by rfl, ?_⟩) hH ?_
    rotate_left
    · (intro wS hS; clear hS; go_simp; try rfl)
    try simp only [Act.put, List.setIfInBounds_toArray, List.set_cons_zero, List.set_cons_succ]
    refine wpAnyT_take (i := 2) (v := ?_) (by simp only [List.getElem?_toArray, List.getElem?_cons_succ, List.getElem?_cons_zero]; rfl) (by kernel_rfl) (by kernel_rfl) (by kernel_rfl) (by kernel_rfl) (two_only 13 14 (by kernel_rfl) (by kernel_rfl)) (by exact fun _ _ _ h => h) (Or.inl ⟨by rfl, ?_⟩) hH ?_
    rotate_left
    · (intro wS hS; (try dsimp only at hS); obtain ⟨k1, k2⟩ := bzF A5.out hS; go_simp; try rfl)
    try simp only [Act.put, List.setIfInBounds_toArray, List.set_cons_zero, List.set_cons_succ]
    refine wpAnyT_take (i := 4) (v := ?_) (by simp only [List.getElem?_toArray, List.getElem?_cons_succ, List.getElem?_cons_zero]; rfl) (by kernel_rfl) (by kernel_rfl) (by kernel_rfl) (by kernel_rfl) (two_only 13 14 (by kernel_rfl) (by kernel_rfl)) (by exact fun _ _ _ h => h) (Or.inl ⟨by rfl, ?_⟩) hH ?_
    rotate_left
    · (intro wS hS; clear hS; go_simp; try rfl)
    try simp only [Act.put, List.setIfInBounds_toArray, List.set_cons_zero, List.set_cons_succ]
    refine wpAnyT_take (i := 5) (v := ?_) (by simp only [List.getElem?_toArray, List.getElem?_cons_succ, List.getElem?_cons_zero]; rfl) (by kernel_rfl) (by kernel_rfl) (by kernel_rfl) (by kernel_rfl) (two_only 13 14 (by kernel_rfl) (by kernel_rfl)) (by exact fun _ _ _ h => h) (Or.inl ⟨by rfl, ?_⟩) hH ?_
    rotate_left
    · (intro wS hS; (try dsimp only at hS); obtain ⟨k1, k2⟩ := bzF A5.out hS; go_simp; try rfl)
    try simp only [Act.put, List.setIfInBounds_toArray, List.set_cons_zero, List.set_cons_succ]
    refine wpAnyT_take (i := 6) (v := ?_) (by simp only [List.getElem?_toArray, List.getElem?_cons_succ, List.getElem?_cons_zero]; rfl) (by kernel_rfl) (by kernel_rfl) (by kernel_rfl) (by kernel_rfl) (two_only 13 14 (by kernel_rfl) (by kernel_rfl)) (by exact fun _ _ _ h => h) (Or.inl ⟨by rfl, ?_⟩) hH ?_
    rotate_left
    · (intro wS hS; clear hS; go_simp; try rfl)
    try simp only [Act.put, List.setIfInBounds_toArray, List.set_cons_zero, List.set_cons_succ]
    refine wpAnyT_take (i := 7) (v := ?_) (by simp only [List.getElem?_toArray, List.getElem?_cons_succ, List.getElem?_cons_zero]; rfl) (by kernel_rfl) (by kernel_rfl) (by kernel_rfl) (by kernel_rfl) (two_only 13 14 (by kernel_rfl) (by kernel_rfl)) (by exact fun _ _ _ h => h) (Or.inl ⟨by rfl, ?_⟩) hH ?_
    rotate_left
    · (intro wS hS; clear hS; go_simp; try rfl)
    try simp only [Act.put, List.setIfInBounds_toArray, List.set_cons_zero, List.set_cons_succ]
    refine wpAnyT_take (i := 8) (v := ?_) (by simp only [List.getElem?_toArray, List.getElem?_cons_succ, List.getElem?_cons_zero]; rfl) (by kernel_rfl) (by kernel_rfl) (by kernel_rfl) (by kernel_rfl) (two_only 13 14 (by kernel_rfl) (by kernel_rfl)) (by exact fun _ _ _ h => h) (Or.inl ⟨by rfl, ?_⟩) hH ?_
    rotate_left
    · (intro wS hS; (try dsimp only at hS); obtain ⟨k1, k2⟩ := bzF A5.out hS; go_simp; try rfl)
    try simp only [Act.put, List.setIfInBounds_toArray, List.set_cons_zero, List.set_cons_succ]
    refine wpAnyT_take (i := 9) (v := ?_) (by simp only [List.getElem?_toArray, List.getElem?_cons_succ, List.getElem?_cons_zero]; rfl) (by kernel_rfl) (by kernel_rfl) (by kernel_rfl) (by kernel_rfl) (two_only 13 14 (by kernel_rfl) (by kernel_rfl)) (by exact fun _ _ _ h => h) (Or.inl ⟨by rfl, ?_⟩) hH ?_
    rotate_left
    · (intro wS hS; clear hS; go_simp; try rfl)
    try simp only [Act.put, List.setIfInBounds_toArray, List.set_cons_zero, List.set_cons_succ]
    refine wpAnyT_take (i := 10) (v := ?_) (by simp only [List.getElem?_toArray, List.getElem?_cons_succ, List.getElem?_cons_zero]; rfl) (by kernel_rfl) (by kernel_rfl) (by kernel_rfl) (by kernel_rfl) (two_only 13 14 (by kernel_rfl) (by kernel_rfl)) (by exact fun _ _ _ h => h) (Or.inl ⟨by rfl, ?_⟩) hH ?_
    rotate_left
    · (intro wS hS; clear hS; go_simp; try rfl)
    try simp only [Act.put, List.setIfInBounds_toArray, List.set_cons_zero, List.set_cons_succ]
    refine wpAnyT_ready (rs := [3]) (by kernel_rfl) (by simp) ?_
    refine AllReadyT.cons (by simp only [List.getElem?_toArray, List.getElem?_cons_succ, List.getElem?_cons_zero]; rfl) (fun K hK => ?_) AllReadyT.nil
    go_simp
    try dsimp only
    have hH2 := hH.alloc hH.size (.cells #[] 3)
    refine hK.out _ _ (fun _ => hH2) ?_
    clear hK K
    try simp only [Act.put, List.setIfInBounds_toArray, List.set_cons_zero, List.set_cons_succ]
    have AC : IntsC (w5.drew.alloc (.cells #[] 3)) w5.heap.size 0 [] := ⟨Nat.zero_le _, [], rfl, heap_alloc_new w5.drew (.cells #[] 3)⟩
    obtain ⟨g9, c9, w9, hr9, hi9, hg9, hc9, hgr9⟩ := appendCopy2 (w5.drew.alloc (.cells #[] 3)) (B := w5.heap.size) SP.out ca ((Q5.out.below hH2).take P) (by rw [TL.out]; omega) hH2.size AC (Nat.le_refl _)
    rw [TL.out] at hr9 hc9
    refine wpAnyT_ready (rs := [11]) (by kernel_rfl) (by simp) ?_
    refine AllReadyT.cons (by simp only [List.getElem?_toArray, List.getElem?_cons_succ, List.getElem?_cons_zero]; rfl) (fun K hK => ?_) AllReadyT.nil
    refine step_append rfl _ _ 22 rfl _ _ rfl rfl _ _ hr9 ?_
    try dsimp only
    have hH3 := hH2.grown hgr9 hH2.size (fun k hk => by injection hk with hk; omega)
    refine hK.out _ _ (fun _ => hH3) ?_
    clear hK K
    try simp only [Act.put, List.setIfInBounds_toArray, List.set_cons_zero, List.set_cons_succ]
    refine wpAnyT_take (i := 12) (v := ?_) (by simp only [List.getElem?_toArray, List.getElem?_cons_succ, List.getElem?_cons_zero]; rfl) (by kernel_rfl) (by kernel_rfl) (by kernel_rfl) (by kernel_rfl) (two_only 13 14 (by kernel_rfl) (by kernel_rfl)) (by exact fun _ _ _ h => h) (Or.inl ⟨by rfl, ?_⟩) hH3 ?_
    rotate_left
    · (intro wS hS; clear hS; go_simp; try rfl)
    try simp only [Act.put, List.setIfInBounds_toArray, List.set_cons_zero, List.set_cons_succ]
    have R9 := Lib.hid (R5.out.step hH3)
    have B9 := Lib.hid (B5.out.trans (hH3.mono B5.out.size))
    obtain ⟨r0, r1, r2, f0, f1, f2⟩ := R9.out.all
    refine wpAnyT_ready (rs := [13]) (by kernel_rfl) (by simp) ?_
    refine AllReadyT.cons (by simp only [List.getElem?_toArray, List.getElem?_cons_succ, List.getElem?_cons_zero]; rfl) (fun K hK => ?_) AllReadyT.nil
    go_simp
    try dsimp only
    refine hK.out _ _ (fun h => by cases h) ?_
    clear hK K
    try simp only [Act.put, List.setIfInBounds_toArray, List.set_cons_zero, List.set_cons_succ]
    refine wpAnyT_ready (rs := [14]) (by kernel_rfl) (by simp) ?_
    refine AllReadyT.cons (by simp only [List.getElem?_toArray, List.getElem?_cons_succ, List.getElem?_cons_zero]; rfl) (fun K hK => ?_) AllReadyT.nil
    go_simp
    try dsimp only
    refine hK.out _ _ (fun h => by cases h) ?_
    clear hK K
    try simp only [Act.put, List.setIfInBounds_toArray, List.set_cons_zero, List.set_cons_succ]
    refine wpAnyT_done (by kernel_rfl) ?_ _
    go_wp2_with fail
    obtain ⟨E0, E1, E2, -, -, -⟩ := (((R9.out.set0 (.int .i64 n)).set1 (.int .i64 C)).set2 (.slice (some ⟨g9, 0, none⟩) P c9)).all
    have s5 := B5.out.size
    have gne : w.heap.size + 1 ≠ g9 := by have := R5.out.lt; omega
    refine bodyPost_ret (v := .tuple #[.agg #[.int .i64 n, .int .i64 C, .slice (some ⟨g9, 0, none⟩) P c9], .bool true]) (by simp [results, Try.results33, go_sem, E0, E1, E2]) rfl ?_
    refine ⟨.slice (some ⟨g9, 0, none⟩) P c9, rfl, .inr ⟨g9, c9, by show Value.slice _ P c9 = .slice _ (s.1.take P).length c9; rw [TL.out], by omega, ((hi9.far (a := ⟨w.heap.size + 1, 0, none⟩) (Ne.symm gne) _).far (a := ⟨w.heap.size + 1, 1, none⟩) (Ne.symm gne) _).far (a := ⟨w.heap.size + 1, 2, none⟩) (Ne.symm gne) _, by rw [TL.out]; exact hc9, by rw [TL.out]; omega⟩, ?_⟩
    exact ((B9.out.setCell (by show w.heap.size ≤ w.heap.size + 1; omega) _).setCell (by show w.heap.size ≤ w.heap.size + 1; omega) _).setCell (by show w.heap.size ≤ w.heap.size + 1; omega) _
end Go.Proofs.Ytpelnfenfeoeeaa
end
