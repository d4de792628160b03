/-
  Texts of this seat, joined: ZCHmX · ZCRowTo · ZCSpnT · ZCEchLaw · ZCEchB · ZCHmB · ZCRdCells · ZCShelf · ZCCloneI · ZCCopyI · ZCMix · ZCMixD · ZCRowsOwn
-/
import Derived.Ground.Names2Prog
import Derived.Shelf.Slices.Clone
import Derived.Test.YtpelnfenfeoeeaaProg
import Derived.Deep.RegionHeld3
import Derived.Deep.DeepCutAuto
import Derived.Test.YtpelnfenfeoeeaaPk46
import Derived.Test.YtpelnfenfeoeeaaPk47
import Derived.Test.YtpelnfenfeoeeaaPk48
import Derived.Test.YtpelnfenfeoeeaaPk49

section
/-
  Chapter 12, in the model: HermiteForm.
-/
namespace Go.Proofs.Ytpelnfenfeoeeaa
set_option maxRecDepth 100000
open Go.RowKit
structure HR where
  ok : Bool
  r1 : Int
  c1 : Int
  zs : List Int
  r2 : Int
  c2 : Int
  us : List Int
def HR.no : HR := ⟨false, 0, 0, [], 0, 0, []⟩
def HR.of (r c : Int) : Option HSt → HR
  | some s => ⟨true, r, c, s.1, r, r, s.2⟩
  | none => HR.no
def herR (r c : Int) (xs : List Int) : HR := if isMat r c xs = true then HR.of r c (herX r.toNat c.toNat xs) else HR.no
def HerG (w : World) (R : HR) (e : Ending) (w' : World) : Prop :=
  ∃ (va vb : Value), e = .returned (.tuple #[.agg #[.int .i64 R.r1, .int .i64 R.c1, va], .agg #[.int .i64 R.r2, .int .i64 R.c2, vb], .bool R.ok]) ∧ Own w.heap.size w' va R.zs ∧ Own w.heap.size w' vb R.us ∧ (∀ k, va.ownBlock = some k → vb.ownBlock ≠ some k) ∧ Below w.heap.size w w'
set_option maxHeartbeats 4000000 in
theorem sHerm (r c : Int) (a : Option Addr) (m : Nat) (xs : List Int) (w : World) (h : Rd w a xs) (hn : xs.length ≤ 16777216) (ha : Spot a) :
    Calls Try.prog 36 #[.agg #[.int .i64 r, .int .i64 c, .slice a xs.length m]] w (HerG w (herR r c xs)) := by
  have IM : Hid (∀ w', Below w.heap.size w w' → Calls Try.prog 53 #[.agg #[.int .i64 r, .int .i64 c, .slice a xs.length m]] w' (Gives (.bool (isMat r c xs)) w')) := fun w' hb => sIsMat r c a m xs w' (h.below hb) hn
  cases hm : isMat r c xs with
  | false =>
    have RN : Hid (herR r c xs = HR.no) := by show _ = _; unfold herR; rw [if_neg (by rw [hm]; decide)]
    rw [hm] at IM
    generalize herR r c xs = RES at RN ⊢
    generalize xs.length = L at IM ⊢
    clear h hn ha hm
    go_enter Try.func36, Try.ntmps36
    go_upto_region 1 with fail
    have K0 : Hid (Blk3 (((w.alloc (.cells #[.int .i64 r, .int .i64 c, .slice a L m] 26)).alloc (.cells #[.int .i64 0, .int .i64 0, .slice none 0 0] 26)).alloc (.cells #[.int .i64 0, .int .i64 0, .slice none 0 0] 26)) w.heap.size 26 (.int .i64 r) (.int .i64 c) (.slice a L m)) := ((Blk3.at_ _ _ _ _ rfl).old _).old _
    have R0 : Hid (Blk3 (((w.alloc (.cells #[.int .i64 r, .int .i64 c, .slice a L m] 26)).alloc (.cells #[.int .i64 0, .int .i64 0, .slice none 0 0] 26)).alloc (.cells #[.int .i64 0, .int .i64 0, .slice none 0 0] 26)) (w.heap.size + 1) 26 (.int .i64 0) (.int .i64 0) (.slice none 0 0)) := (Blk3.at_ _ _ _ _ (by simp)).old _
    have Q0 : Hid (Blk3 (((w.alloc (.cells #[.int .i64 r, .int .i64 c, .slice a L m] 26)).alloc (.cells #[.int .i64 0, .int .i64 0, .slice none 0 0] 26)).alloc (.cells #[.int .i64 0, .int .i64 0, .slice none 0 0] 26)) (w.heap.size + 2) 26 (.int .i64 0) (.int .i64 0) (.slice none 0 0)) := Blk3.at_ _ _ _ _ (by simp)
    have B0 : Hid (Below w.heap.size w (((w.alloc (.cells #[.int .i64 r, .int .i64 c, .slice a L m] 26)).alloc (.cells #[.int .i64 0, .int .i64 0, .slice none 0 0] 26)).alloc (.cells #[.int .i64 0, .int .i64 0, .slice none 0 0] 26))) := (((Below.refl _ _).alloc (Nat.le_refl _) _).alloc (by simp) _).alloc (by simp; omega) _
    have S0 : Hid ((((w.alloc (.cells #[.int .i64 r, .int .i64 c, .slice a L m] 26)).alloc (.cells #[.int .i64 0, .int .i64 0, .slice none 0 0] 26)).alloc (.cells #[.int .i64 0, .int .i64 0, .slice none 0 0] 26)).heap.size = w.heap.size + 3) := by show _ = _; simp
    generalize ((w.alloc (.cells #[.int .i64 r, .int .i64 c, .slice a L m] 26)).alloc (.cells #[.int .i64 0, .int .i64 0, .slice none 0 0] 26)).alloc (.cells #[.int .i64 0, .int .i64 0, .slice none 0 0] 26) = W0 at K0 R0 Q0 B0 S0 ⊢
    obtain ⟨p0, p1, p2, -, -, -⟩ := K0.out.all
    go_wp2_with fail
    refine (IM.out _ B0.out).mono ?_
    rintro e w1 ⟨rfl, hb⟩
    have R1 := Lib.hid (R0.out.step hb)
    have R2 := Lib.hid (Q0.out.step hb)
    have B1 := Lib.hid (B0.out.trans (hb.mono (by have := S0.out; omega)))
    clear hb p0 p1 p2 K0 R0 Q0 B0
    obtain ⟨r0, r1, r2, f0, f1, f2⟩ := R1.out.all
    obtain ⟨e0, e1, e2, l0, l1, l2⟩ := R2.out.all
    go_wp2_with fail
    obtain ⟨E0, E1, E2, -, -, -⟩ := ((((((R1.out.set0 (.int .i64 0)).set1 (.int .i64 0)).set2 (.slice none 0 0)).far (a := ⟨w.heap.size + 2, 0, none⟩) (by show _ ≠ _; simp) (.int .i64 0)).far (a := ⟨w.heap.size + 2, 1, none⟩) (by show _ ≠ _; simp) (.int .i64 0)).far (a := ⟨w.heap.size + 2, 2, none⟩) (by show _ ≠ _; simp) (.slice none 0 0)).all
    obtain ⟨E3, E4, E5, -, -, -⟩ := ((((((R2.out.far (a := ⟨w.heap.size + 1, 0, none⟩) (by show _ ≠ _; simp) (.int .i64 0)).far (a := ⟨w.heap.size + 1, 1, none⟩) (by show _ ≠ _; simp) (.int .i64 0)).far (a := ⟨w.heap.size + 1, 2, none⟩) (by show _ ≠ _; simp) (.slice none 0 0)).set0 (.int .i64 0)).set1 (.int .i64 0)).set2 (.slice none 0 0)).all
    refine bodyPost_ret (v := .tuple #[.agg #[.int .i64 0, .int .i64 0, .slice none 0 0], .agg #[.int .i64 0, .int .i64 0, .slice none 0 0], .bool false]) (by simp [results, Try.results36, go_sem, E0, E1, E2, E3, E4, E5]) rfl ?_
    rw [RN.out]
    refine ⟨_, _, rfl, .inl ⟨rfl, rfl⟩, .inl ⟨rfl, rfl⟩, fun k hk => by simp [Value.ownBlock] at hk, ?_⟩
    exact (((((B1.out.setCell (by show w.heap.size ≤ w.heap.size + 1; omega) _).setCell (by show w.heap.size ≤ w.heap.size + 1; omega) _).setCell (by show w.heap.size ≤ w.heap.size + 1; omega) _).setCell (by show w.heap.size ≤ w.heap.size + 2; omega) _).setCell (by show w.heap.size ≤ w.heap.size + 2; omega) _).setCell (by show w.heap.size ≤ w.heap.size + 2; omega) _
  | true =>
    obtain ⟨⟨r0, r1⟩, ⟨c0, c1⟩, hl, nx⟩ := isMat_says hm
    obtain ⟨R, rfl⟩ := Int.eq_ofNat_of_zero_le r0
    obtain ⟨C, rfl⟩ := Int.eq_ofNat_of_zero_le c0
    have hl : xs.length = R * C := by rw [← Int.natCast_mul] at hl; omega
    have R24 : R ≤ 24 := by omega
    have C24 : C ≤ 24 := by omega
    have hbd : R * C ≤ 24 * 24 := Nat.mul_le_mul R24 C24
    have hbu : R * R ≤ 24 * 24 := Nat.mul_le_mul R24 R24
    have RS : Hid (herR R C xs = HR.of R C (herX R C xs)) := by show _ = _; unfold herR; rw [if_pos hm]; rfl
    have SZ : Hid (∀ s, herX R C xs = some s → Siz R C s) := fun s hs => (herX_says hl nx hs).1.siz
    have CP : Hid (∀ w', Below w.heap.size w w' → Calls Try.prog 54 #[.agg #[.int .i64 R, .int .i64 C, .slice a xs.length m]] w' (fun e w2 => ∃ g cap : Nat, e = .returned (.agg #[.int .i64 R, .int .i64 C, .slice (some ⟨g, 0, none⟩) xs.length cap]) ∧ w'.heap.size ≤ g ∧ IntsC w2 g cap xs ∧ Below w'.heap.size w' w2)) := fun w' hb => sCopyA R C a m xs.length xs w' (h.below hb) ha rfl (by omega)
    have HE : Hid (∀ (ga gu ca cu : Nat) w', Ints w' ga xs → Ints w' gu (idL R R) → ga ≠ gu → Calls Try.prog 88 #[.agg #[.int .i64 R, .int .i64 C, .slice (some ⟨ga, 0, none⟩) xs.length ca], .agg #[.int .i64 R, .int .i64 R, .slice (some ⟨gu, 0, none⟩) (R * R) cu]] w' (HerRes ga gu (herX R C xs) w')) := fun ga gu ca cu w' h1 h2 h3 => sHer R C ga gu xs.length (R * R) ca cu xs w' h1 h2 h3 rfl hl rfl R24 C24 nx
    have ID : Hid (∀ w', Calls Try.prog 55 #[.int .i64 R] w' (fun e w2 => ∃ g : Nat, e = .returned (.tuple #[.agg #[.int .i64 R, .int .i64 R, .slice (some ⟨g, 0, none⟩) (R * R) (R * R)], .bool true]) ∧ w'.heap.size ≤ g ∧ IntsC w2 g (R * R) (idL R R) ∧ Below w'.heap.size w' w2)) := fun w' => sIdentC R w' R24
    rw [hm] at IM
    rw [RS.out]
    generalize herX R C xs = X at SZ HE ⊢
    have HL := Lib.hid hl
    obtain ⟨L, hL⟩ : ∃ L, xs.length = L := ⟨_, rfl⟩
    rw [hL] at IM CP HE HL ⊢
    obtain ⟨LU, hLU⟩ : ∃ LU, R * R = LU := ⟨_, rfl⟩
    rw [hLU] at HE ID
    have HLU := Lib.hid hLU
    have XL := Lib.hid hL
    clear h hn ha hm r0 r1 c0 c1 hl nx RS hL hLU
    go_enter Try.func36, Try.ntmps36
    go_upto_region 1 with fail
    have K0 : Hid (Blk3 (((w.alloc (.cells #[.int .i64 R, .int .i64 C, .slice a L m] 26)).alloc (.cells #[.int .i64 0, .int .i64 0, .slice none 0 0] 26)).alloc (.cells #[.int .i64 0, .int .i64 0, .slice none 0 0] 26)) w.heap.size 26 (.int .i64 R) (.int .i64 C) (.slice a L m)) := ((Blk3.at_ _ _ _ _ rfl).old _).old _
    have R0 : Hid (Blk3 (((w.alloc (.cells #[.int .i64 R, .int .i64 C, .slice a L m] 26)).alloc (.cells #[.int .i64 0, .int .i64 0, .slice none 0 0] 26)).alloc (.cells #[.int .i64 0, .int .i64 0, .slice none 0 0] 26)) (w.heap.size + 1) 26 (.int .i64 0) (.int .i64 0) (.slice none 0 0)) := (Blk3.at_ _ _ _ _ (by simp)).old _
    have Q0 : Hid (Blk3 (((w.alloc (.cells #[.int .i64 R, .int .i64 C, .slice a L m] 26)).alloc (.cells #[.int .i64 0, .int .i64 0, .slice none 0 0] 26)).alloc (.cells #[.int .i64 0, .int .i64 0, .slice none 0 0] 26)) (w.heap.size + 2) 26 (.int .i64 0) (.int .i64 0) (.slice none 0 0)) := Blk3.at_ _ _ _ _ (by simp)
    have B0 : Hid (Below w.heap.size w (((w.alloc (.cells #[.int .i64 R, .int .i64 C, .slice a L m] 26)).alloc (.cells #[.int .i64 0, .int .i64 0, .slice none 0 0] 26)).alloc (.cells #[.int .i64 0, .int .i64 0, .slice none 0 0] 26))) := (((Below.refl _ _).alloc (Nat.le_refl _) _).alloc (by simp) _).alloc (by simp; omega) _
    have S0 : Hid ((((w.alloc (.cells #[.int .i64 R, .int .i64 C, .slice a L m] 26)).alloc (.cells #[.int .i64 0, .int .i64 0, .slice none 0 0] 26)).alloc (.cells #[.int .i64 0, .int .i64 0, .slice none 0 0] 26)).heap.size = w.heap.size + 3) := by show _ = _; simp
    generalize ((w.alloc (.cells #[.int .i64 R, .int .i64 C, .slice a L m] 26)).alloc (.cells #[.int .i64 0, .int .i64 0, .slice none 0 0] 26)).alloc (.cells #[.int .i64 0, .int .i64 0, .slice none 0 0] 26) = W0 at K0 R0 Q0 B0 S0 ⊢
    obtain ⟨p0, p1, p2, -, -, -⟩ := K0.out.all
    go_wp2_with fail
    refine (IM.out _ B0.out).mono ?_
    rintro e w1 ⟨rfl, hb⟩
    have K1 := Lib.hid (K0.out.step hb)
    have R1 := Lib.hid (R0.out.step hb)
    have Q1 := Lib.hid (Q0.out.step hb)
    have B1 := Lib.hid (B0.out.trans (hb.mono (by have := S0.out; omega)))
    have s1 : w.heap.size + 3 ≤ w1.heap.size := by have := S0.out; have := hb.size; omega
    clear hb p0 p1 p2 K0 R0 Q0 B0 S0
    obtain ⟨p0, p1, p2, -, -, -⟩ := K1.out.all
    go_wp2_with fail
    refine (CP.out _ B1.out).mono ?_
    rintro e w2 ⟨ga, ca, rfl, hga, hia, hb⟩
    have la := hia.ints.lt
    have K2 := Lib.hid ((K1.out.step hb).old (.cells #[.int .i64 R, .int .i64 C, .slice (some ⟨ga, 0, none⟩) L ca] 26))
    have R2 := Lib.hid ((R1.out.step hb).old (.cells #[.int .i64 R, .int .i64 C, .slice (some ⟨ga, 0, none⟩) L ca] 26))
    have Q2 := Lib.hid ((Q1.out.step hb).old (.cells #[.int .i64 R, .int .i64 C, .slice (some ⟨ga, 0, none⟩) L ca] 26))
    have A2 : Hid (Blk3 (w2.alloc (.cells #[.int .i64 R, .int .i64 C, .slice (some ⟨ga, 0, none⟩) L ca] 26)) w2.heap.size 26 (.int .i64 R) (.int .i64 C) (.slice (some ⟨ga, 0, none⟩) L ca)) := Blk3.at_ _ _ _ _ rfl
    have I2 := Lib.hid (IntsC.move hia (Below.heap_alloc w2 (.cells #[.int .i64 R, .int .i64 C, .slice (some ⟨ga, 0, none⟩) L ca] 26) ga la))
    have B2 := Lib.hid ((B1.out.trans (hb.mono (by omega))).alloc (by have := hb.size; omega) (.cells #[.int .i64 R, .int .i64 C, .slice (some ⟨ga, 0, none⟩) L ca] 26))
    have s2 := hb.size
    clear hb hia K1 R1 Q1 B1 p0 p1 p2 IM CP
    go_upto_region 4 with fail
    obtain ⟨b5, hb5⟩ : ∃ b, w2.heap.size = b := ⟨_, rfl⟩
    rw [hb5] at A2 la s2 ⊢
    have s3 : Hid ((w2.alloc (.cells #[.int .i64 R, .int .i64 C, .slice (some ⟨ga, 0, none⟩) L ca] 26)).heap.size = b5 + 1) := by show _ = _; simp [hb5]
    generalize w2.alloc (.cells #[.int .i64 R, .int .i64 C, .slice (some ⟨ga, 0, none⟩) L ca] 26) = W2 at K2 R2 Q2 A2 I2 B2 s3 ⊢
    clear hb5
    obtain ⟨p0, p1, p2, -, -, -⟩ := K2.out.all
    go_wp2_with fail
    refine (ID.out _).mono ?_
    rintro e w3 ⟨gu, rfl, hgu, hiu, hb⟩
    have lu := hiu.ints.lt
    have R3 := Lib.hid ((R2.out.step hb).old (.cells #[.int .i64 R, .int .i64 R, .slice (some ⟨gu, 0, none⟩) LU LU] 26))
    have Q3 := Lib.hid ((Q2.out.step hb).old (.cells #[.int .i64 R, .int .i64 R, .slice (some ⟨gu, 0, none⟩) LU LU] 26))
    have A3 := Lib.hid ((A2.out.step hb).old (.cells #[.int .i64 R, .int .i64 R, .slice (some ⟨gu, 0, none⟩) LU LU] 26))
    have U3 : Hid (Blk3 (w3.alloc (.cells #[.int .i64 R, .int .i64 R, .slice (some ⟨gu, 0, none⟩) LU LU] 26)) w3.heap.size 26 (.int .i64 R) (.int .i64 R) (.slice (some ⟨gu, 0, none⟩) LU LU)) := Blk3.at_ _ _ _ _ rfl
    have I3 := Lib.hid ((IntsC.move I2.out (hb.block ga (by have := s3.out; omega))).move (Below.heap_alloc w3 (.cells #[.int .i64 R, .int .i64 R, .slice (some ⟨gu, 0, none⟩) LU LU] 26) ga (by have := s3.out; have := hb.size; omega)))
    have J3 := Lib.hid (IntsC.move hiu (Below.heap_alloc w3 (.cells #[.int .i64 R, .int .i64 R, .slice (some ⟨gu, 0, none⟩) LU LU] 26) gu lu))
    have B3 := Lib.hid ((B2.out.trans (hb.mono B2.out.size)).alloc (by have := hb.size; have := B2.out.size; omega) (.cells #[.int .i64 R, .int .i64 R, .slice (some ⟨gu, 0, none⟩) LU LU] 26))
    have s4 := hb.size
    have n1 : Hid (w.heap.size + 1 < ga) := by show _ < _; omega
    have n2 : Hid (w.heap.size + 2 < ga) := by show _ < _; omega
    have n3 : Hid (ga < b5) := la
    have n4 : Hid (b5 < gu) := by show _ < _; have := s3.out; omega
    clear hb hiu K2 R2 Q2 A2 I2 B2 p0 p1 p2 ID
    go_upto_region 5 with fail
    obtain ⟨b6, hb6⟩ : ∃ b, w3.heap.size = b := ⟨_, rfl⟩
    rw [hb6] at U3 lu ⊢
    have n5 : Hid (gu < b6) := lu
    generalize w3.alloc (.cells #[.int .i64 R, .int .i64 R, .slice (some ⟨gu, 0, none⟩) LU LU] 26) = W3 at R3 Q3 A3 U3 I3 J3 B3 ⊢
    clear hb6 s1 s2 s3 s4 la lu hga hgu
    obtain ⟨p0, p1, p2, -, -, -⟩ := A3.out.all
    obtain ⟨u0, u1, u2, -, -, -⟩ := U3.out.all
    go_wp2_with fail
    refine (HE.out ga gu ca LU _ I3.out.ints J3.out.ints (by have := n3.out; have := n4.out; omega)).mono ?_
    rintro e w4 ⟨rfl, hf, hs⟩
    have nA : ∀ b, b < ga → ¬ (b = ga ∨ b = gu) := fun b hb => by have := n3.out; have := n4.out; omega
    have R4 := Lib.hid (R3.out.frs hf (nA _ n1.out))
    have Q4 := Lib.hid (Q3.out.frs hf (nA _ n2.out))
    have A4 := Lib.hid (A3.out.frs hf (by have := n3.out; have := n4.out; omega))
    have U4 := Lib.hid (U3.out.frs hf (by have := n3.out; have := n4.out; have := n5.out; omega))
    have B4 := Lib.hid (B3.out.trans (hf.below (B := w.heap.size) (fun k hk => by have := n2.out; have := n3.out; have := n4.out; omega) B3.out.size))
    have HS := Lib.hid hs
    have cA := I3.out
    have cU := J3.out
    obtain ⟨cA1, rA, cA2, -⟩ := cA
    obtain ⟨cU1, rU, cU2, -⟩ := cU
    rw [XL.out] at cA2
    have lA : L ≤ ca := by omega
    clear hf hs p0 p1 p2 u0 u1 u2 R3 Q3 A3 U3 I3 J3 B3 nA HE cA1 rA cA2 cU1 rU cU2
    obtain ⟨r0, r1, r2, f0, f1, f2⟩ := R4.out.all
    obtain ⟨e0, e1, e2, l0, l1, l2⟩ := Q4.out.all
    cases X with
    | none =>
      dsimp only [Option.isSome]
      go_wp2_with fail
      obtain ⟨E0, E1, E2, -, -, -⟩ := ((((((R4.out.set0 (.int .i64 0)).set1 (.int .i64 0)).set2 (.slice none 0 0)).far (a := ⟨w.heap.size + 2, 0, none⟩) (by show _ ≠ _; simp) (.int .i64 0)).far (a := ⟨w.heap.size + 2, 1, none⟩) (by show _ ≠ _; simp) (.int .i64 0)).far (a := ⟨w.heap.size + 2, 2, none⟩) (by show _ ≠ _; simp) (.slice none 0 0)).all
      obtain ⟨E3, E4, E5, -, -, -⟩ := ((((((Q4.out.far (a := ⟨w.heap.size + 1, 0, none⟩) (by show _ ≠ _; simp) (.int .i64 0)).far (a := ⟨w.heap.size + 1, 1, none⟩) (by show _ ≠ _; simp) (.int .i64 0)).far (a := ⟨w.heap.size + 1, 2, none⟩) (by show _ ≠ _; simp) (.slice none 0 0)).set0 (.int .i64 0)).set1 (.int .i64 0)).set2 (.slice none 0 0)).all
      refine bodyPost_ret (v := .tuple #[.agg #[.int .i64 0, .int .i64 0, .slice none 0 0], .agg #[.int .i64 0, .int .i64 0, .slice none 0 0], .bool false]) (by simp [results, Try.results36, go_sem, E0, E1, E2, E3, E4, E5]) rfl ?_
      refine ⟨_, _, rfl, .inl ⟨rfl, rfl⟩, .inl ⟨rfl, rfl⟩, fun k hk => by simp [Value.ownBlock] at hk, ?_⟩
      exact (((((B4.out.setCell (by show w.heap.size ≤ w.heap.size + 1; omega) _).setCell (by show w.heap.size ≤ w.heap.size + 1; omega) _).setCell (by show w.heap.size ≤ w.heap.size + 1; omega) _).setCell (by show w.heap.size ≤ w.heap.size + 2; omega) _).setCell (by show w.heap.size ≤ w.heap.size + 2; omega) _).setCell (by show w.heap.size ≤ w.heap.size + 2; omega) _
    | some s =>
      obtain ⟨i1, i2⟩ := HS.out s rfl
      have IA := Lib.hid i1
      have IU := Lib.hid i2
      have SI := Lib.hid (SZ.out s rfl)
      clear i1 i2 HS SZ r0 r1 r2 f0 f1 f2 e0 e1 e2 l0 l1 l2
      dsimp only [Option.isSome]
      go_wp2_with fail
      refine wp_region_T (S := fun w' => Blk3 w' b5 26 (.int .i64 R) (.int .i64 C) (.slice (some ⟨ga, 0, none⟩) L ca) ∧ Blk3 w' b6 26 (.int .i64 R) (.int .i64 R) (.slice (some ⟨gu, 0, none⟩) LU LU)) (T := fun _ => false) (by kernel_rfl) ⟨A4.out.drew, U4.out.drew⟩ (fun hH => ?_)
      have R5 := Lib.hid R4.out.drew
      have Q5 := Lib.hid Q4.out.drew
      have B5 := Lib.hid B4.out.drew
      have IA5 := Lib.hid (Ints.move IA.out (rfl : w4.drew.heap[ga]? = w4.heap[ga]?))
      have IU5 := Lib.hid (Ints.move IU.out (rfl : w4.drew.heap[gu]? = w4.heap[gu]?))
      generalize w4.drew = v0 at hH R5 Q5 B5 IA5 IU5 ⊢
      clear R4 Q4 B4 IA IU A4 U4
      refine wpAnyT_take (i := 0) (v := ?_) (by simp only [List.getElem?_toArray, List.getElem?_cons_zero]; rfl) (by kernel_rfl) (by kernel_rfl) (by kernel_rfl) (by kernel_rfl) (fun _ hj => by cases hj) (by exact fun _ _ _ h => h) (Or.inl ⟨by rfl, ?_⟩) hH ?_
      rotate_left
      · (intro wS hS; (try dsimp only at hS); obtain ⟨k1, k2, k3, -, -, -⟩ := hS.1.all; go_simp; try rfl)
      try simp only [Act.put, List.setIfInBounds_toArray, List.set_cons_zero, List.set_cons_succ]
      refine wpAnyT_ready (rs := [1, 2]) (by kernel_rfl) (by simp) ?_
      refine AllReadyT.cons (by simp only [List.getElem?_toArray, List.getElem?_cons_succ, List.getElem?_cons_zero]; rfl) (fun K hK => ?_) (AllReadyT.cons (by simp only [List.getElem?_toArray, List.getElem?_cons_succ, List.getElem?_cons_zero]; rfl) (fun K hK => ?_) AllReadyT.nil)
      ·
        obtain ⟨k1, k2, k3, -, -, -⟩ := hH.2.all
        go_simp
        try dsimp only
        refine hK.out _ _ (fun _ => hH) ?_
        clear hK K k1 k2 k3
        try simp only [Act.put, List.setIfInBounds_toArray, List.set_cons_zero, List.set_cons_succ]
        refine wpAnyT_ready (rs := [2]) (by kernel_rfl) (by simp) ?_
        refine AllReadyT.cons (by simp only [List.getElem?_toArray, List.getElem?_cons_succ, List.getElem?_cons_zero]; rfl) (fun K hK => ?_) AllReadyT.nil
        obtain ⟨r0, r1, r2, f0, f1, f2⟩ := R5.out.all
        go_simp
        try dsimp only
        have hN := And.intro (((hH.1.far (a := ⟨w.heap.size + 1, 0, none⟩) (by show b5 ≠ w.heap.size + 1; have := n1.out; have := n2.out; have := n3.out; omega) (.int .i64 R)).far (a := ⟨w.heap.size + 1, 1, none⟩) (by show b5 ≠ w.heap.size + 1; have := n1.out; have := n2.out; have := n3.out; omega) (.int .i64 C)).far (a := ⟨w.heap.size + 1, 2, none⟩) (by show b5 ≠ w.heap.size + 1; have := n1.out; have := n2.out; have := n3.out; omega) (.slice (some ⟨ga, 0, none⟩) L ca)) (((hH.2.far (a := ⟨w.heap.size + 1, 0, none⟩) (by show b6 ≠ w.heap.size + 1; have := n1.out; have := n2.out; have := n3.out; have := n4.out; have := n5.out; omega) (.int .i64 R)).far (a := ⟨w.heap.size + 1, 1, none⟩) (by show b6 ≠ w.heap.size + 1; have := n1.out; have := n2.out; have := n3.out; have := n4.out; have := n5.out; omega) (.int .i64 C)).far (a := ⟨w.heap.size + 1, 2, none⟩) (by show b6 ≠ w.heap.size + 1; have := n1.out; have := n2.out; have := n3.out; have := n4.out; have := n5.out; omega) (.slice (some ⟨ga, 0, none⟩) L ca))
        have R6 := Lib.hid (((R5.out.set0 (.int .i64 R)).set1 (.int .i64 C)).set2 (.slice (some ⟨ga, 0, none⟩) L ca))
        have Q6 := Lib.hid (((Q5.out.far (a := ⟨w.heap.size + 1, 0, none⟩) (by show w.heap.size + 2 ≠ w.heap.size + 1; omega) (.int .i64 R)).far (a := ⟨w.heap.size + 1, 1, none⟩) (by show w.heap.size + 2 ≠ w.heap.size + 1; omega) (.int .i64 C)).far (a := ⟨w.heap.size + 1, 2, none⟩) (by show w.heap.size + 2 ≠ w.heap.size + 1; omega) (.slice (some ⟨ga, 0, none⟩) L ca))
        have B6 := Lib.hid (((B5.out.setCell (p := ⟨w.heap.size + 1, 0, none⟩) (by show w.heap.size ≤ w.heap.size + 1; omega) (.int .i64 R)).setCell (p := ⟨w.heap.size + 1, 1, none⟩) (by show w.heap.size ≤ w.heap.size + 1; omega) (.int .i64 C)).setCell (p := ⟨w.heap.size + 1, 2, none⟩) (by show w.heap.size ≤ w.heap.size + 1; omega) (.slice (some ⟨ga, 0, none⟩) L ca))
        have IA6 := Lib.hid (((IA5.out.far (a := ⟨w.heap.size + 1, 0, none⟩) (by show ga ≠ w.heap.size + 1; have := n1.out; have := n2.out; omega) (.int .i64 R)).far (a := ⟨w.heap.size + 1, 1, none⟩) (by show ga ≠ w.heap.size + 1; have := n1.out; have := n2.out; omega) (.int .i64 C)).far (a := ⟨w.heap.size + 1, 2, none⟩) (by show ga ≠ w.heap.size + 1; have := n1.out; have := n2.out; omega) (.slice (some ⟨ga, 0, none⟩) L ca))
        have IU6 := Lib.hid (((IU5.out.far (a := ⟨w.heap.size + 1, 0, none⟩) (by show gu ≠ w.heap.size + 1; have := n1.out; have := n2.out; have := n3.out; have := n4.out; omega) (.int .i64 R)).far (a := ⟨w.heap.size + 1, 1, none⟩) (by show gu ≠ w.heap.size + 1; have := n1.out; have := n2.out; have := n3.out; have := n4.out; omega) (.int .i64 C)).far (a := ⟨w.heap.size + 1, 2, none⟩) (by show gu ≠ w.heap.size + 1; have := n1.out; have := n2.out; have := n3.out; have := n4.out; omega) (.slice (some ⟨ga, 0, none⟩) L ca))
        refine hK.out _ _ (fun _ => hN) ?_
        clear hK K r0 r1 r2 f0 f1 f2 hH R5 Q5 B5 IA5 IU5
        try simp only [Act.put, List.setIfInBounds_toArray, List.set_cons_zero, List.set_cons_succ]
        try simp only [show w.heap.size + 1 + 1 = w.heap.size + 2 from rfl]
        generalize (((v0.setCell ⟨w.heap.size + 1, 0, none⟩ (.int .i64 R)).setCell ⟨w.heap.size + 1, 1, none⟩ (.int .i64 C)).setCell ⟨w.heap.size + 1, 2, none⟩ (.slice (some ⟨ga, 0, none⟩) L ca)) = v0 at hN R6 Q6 B6 IA6 IU6 ⊢
        have hH := hN
        have R5 := R6
        have Q5 := Q6
        have B5 := B6
        have IA5 := IA6
        have IU5 := IU6
        clear hN R6 Q6 B6 IA6 IU6
        refine wpAnyT_ready (rs := [3]) (by kernel_rfl) (by simp) ?_
        refine AllReadyT.cons (by simp only [List.getElem?_toArray, List.getElem?_cons_succ, List.getElem?_cons_zero]; rfl) (fun K hK => ?_) AllReadyT.nil
        obtain ⟨r0, r1, r2, f0, f1, f2⟩ := Q5.out.all
        go_simp
        try dsimp only
        have hN := And.intro (((hH.1.far (a := ⟨w.heap.size + 2, 0, none⟩) (by show b5 ≠ w.heap.size + 2; have := n1.out; have := n2.out; have := n3.out; omega) (.int .i64 R)).far (a := ⟨w.heap.size + 2, 1, none⟩) (by show b5 ≠ w.heap.size + 2; have := n1.out; have := n2.out; have := n3.out; omega) (.int .i64 R)).far (a := ⟨w.heap.size + 2, 2, none⟩) (by show b5 ≠ w.heap.size + 2; have := n1.out; have := n2.out; have := n3.out; omega) (.slice (some ⟨gu, 0, none⟩) LU LU)) (((hH.2.far (a := ⟨w.heap.size + 2, 0, none⟩) (by show b6 ≠ w.heap.size + 2; have := n1.out; have := n2.out; have := n3.out; have := n4.out; have := n5.out; omega) (.int .i64 R)).far (a := ⟨w.heap.size + 2, 1, none⟩) (by show b6 ≠ w.heap.size + 2; have := n1.out; have := n2.out; have := n3.out; have := n4.out; have := n5.out; omega) (.int .i64 R)).far (a := ⟨w.heap.size + 2, 2, none⟩) (by show b6 ≠ w.heap.size + 2; have := n1.out; have := n2.out; have := n3.out; have := n4.out; have := n5.out; omega) (.slice (some ⟨gu, 0, none⟩) LU LU))
        have R6 := Lib.hid (((R5.out.far (a := ⟨w.heap.size + 2, 0, none⟩) (by show w.heap.size + 1 ≠ w.heap.size + 2; omega) (.int .i64 R)).far (a := ⟨w.heap.size + 2, 1, none⟩) (by show w.heap.size + 1 ≠ w.heap.size + 2; omega) (.int .i64 R)).far (a := ⟨w.heap.size + 2, 2, none⟩) (by show w.heap.size + 1 ≠ w.heap.size + 2; omega) (.slice (some ⟨gu, 0, none⟩) LU LU))
        have Q6 := Lib.hid (((Q5.out.set0 (.int .i64 R)).set1 (.int .i64 R)).set2 (.slice (some ⟨gu, 0, none⟩) LU LU))
        have B6 := Lib.hid (((B5.out.setCell (p := ⟨w.heap.size + 2, 0, none⟩) (by show w.heap.size ≤ w.heap.size + 2; omega) (.int .i64 R)).setCell (p := ⟨w.heap.size + 2, 1, none⟩) (by show w.heap.size ≤ w.heap.size + 2; omega) (.int .i64 R)).setCell (p := ⟨w.heap.size + 2, 2, none⟩) (by show w.heap.size ≤ w.heap.size + 2; omega) (.slice (some ⟨gu, 0, none⟩) LU LU))
        have IA6 := Lib.hid (((IA5.out.far (a := ⟨w.heap.size + 2, 0, none⟩) (by show ga ≠ w.heap.size + 2; have := n1.out; have := n2.out; omega) (.int .i64 R)).far (a := ⟨w.heap.size + 2, 1, none⟩) (by show ga ≠ w.heap.size + 2; have := n1.out; have := n2.out; omega) (.int .i64 R)).far (a := ⟨w.heap.size + 2, 2, none⟩) (by show ga ≠ w.heap.size + 2; have := n1.out; have := n2.out; omega) (.slice (some ⟨gu, 0, none⟩) LU LU))
        have IU6 := Lib.hid (((IU5.out.far (a := ⟨w.heap.size + 2, 0, none⟩) (by show gu ≠ w.heap.size + 2; have := n1.out; have := n2.out; have := n3.out; have := n4.out; omega) (.int .i64 R)).far (a := ⟨w.heap.size + 2, 1, none⟩) (by show gu ≠ w.heap.size + 2; have := n1.out; have := n2.out; have := n3.out; have := n4.out; omega) (.int .i64 R)).far (a := ⟨w.heap.size + 2, 2, none⟩) (by show gu ≠ w.heap.size + 2; have := n1.out; have := n2.out; have := n3.out; have := n4.out; omega) (.slice (some ⟨gu, 0, none⟩) LU LU))
        refine hK.out _ _ (fun _ => hN) ?_
        clear hK K r0 r1 r2 f0 f1 f2 hH R5 Q5 B5 IA5 IU5
        try simp only [Act.put, List.setIfInBounds_toArray, List.set_cons_zero, List.set_cons_succ]
        try simp only [show w.heap.size + 1 + 1 = w.heap.size + 2 from rfl]
        generalize (((v0.setCell ⟨w.heap.size + 2, 0, none⟩ (.int .i64 R)).setCell ⟨w.heap.size + 2, 1, none⟩ (.int .i64 R)).setCell ⟨w.heap.size + 2, 2, none⟩ (.slice (some ⟨gu, 0, none⟩) LU LU)) = v0 at hN R6 Q6 B6 IA6 IU6 ⊢
        have hH := hN
        have R5 := R6
        have Q5 := Q6
        have B5 := B6
        have IA5 := IA6
        have IU5 := IU6
        clear hN R6 Q6 B6 IA6 IU6
        refine wpAnyT_ready (rs := [4]) (by kernel_rfl) (by simp) ?_
        refine AllReadyT.cons (by simp only [List.getElem?_toArray, List.getElem?_cons_succ, List.getElem?_cons_zero]; rfl) (fun K hK => ?_) AllReadyT.nil
        go_simp
        try dsimp only
        refine hK.out _ _ (fun _ => hH) ?_
        clear hK K
        try simp only [Act.put, List.setIfInBounds_toArray, List.set_cons_zero, List.set_cons_succ]
        refine wpAnyT_done (by kernel_rfl) ?_ _
        go_wp2_with fail
        obtain ⟨E0, E1, E2, -, -, -⟩ := R5.out.all
        obtain ⟨E3, E4, E5, -, -, -⟩ := Q5.out.all
        have e1 : s.1.length = L := by rw [SI.out.l1, HL.out]
        have e2 : s.2.length = LU := by rw [SI.out.l2, HLU.out]
        refine bodyPost_ret (v := .tuple #[.agg #[.int .i64 R, .int .i64 C, .slice (some ⟨ga, 0, none⟩) L ca], .agg #[.int .i64 R, .int .i64 R, .slice (some ⟨gu, 0, none⟩) LU LU], .bool true]) (by simp [results, Try.results36, go_sem, E0, E1, E2, E3, E4, E5]) rfl ?_
        refine ⟨.slice (some ⟨ga, 0, none⟩) L ca, .slice (some ⟨gu, 0, none⟩) LU LU, rfl, .inr ⟨ga, ca, by rw [← e1]; rfl, by have := n2.out; omega, IA5.out, by show s.1.length ≤ ca; omega, by show s.1.length ≤ 16777216; have := HL.out; omega⟩, .inr ⟨gu, LU, by rw [← e2]; rfl, by have := n2.out; have := n3.out; have := n4.out; omega, IU5.out, by show s.2.length ≤ LU; omega, by show s.2.length ≤ 16777216; have := HLU.out; omega⟩, fun k hk => ?_, B5.out⟩
        have hk : some ga = some k := hk
        intro h9
        have h9 : some gu = some k := h9
        have hk := Option.some.inj hk
        have h9 := Option.some.inj h9
        have := n3.out
        have := n4.out
        omega
      ·
        obtain ⟨r0, r1, r2, f0, f1, f2⟩ := R5.out.all
        go_simp
        try dsimp only
        have hN := And.intro (((hH.1.far (a := ⟨w.heap.size + 1, 0, none⟩) (by show b5 ≠ w.heap.size + 1; have := n1.out; have := n2.out; have := n3.out; omega) (.int .i64 R)).far (a := ⟨w.heap.size + 1, 1, none⟩) (by show b5 ≠ w.heap.size + 1; have := n1.out; have := n2.out; have := n3.out; omega) (.int .i64 C)).far (a := ⟨w.heap.size + 1, 2, none⟩) (by show b5 ≠ w.heap.size + 1; have := n1.out; have := n2.out; have := n3.out; omega) (.slice (some ⟨ga, 0, none⟩) L ca)) (((hH.2.far (a := ⟨w.heap.size + 1, 0, none⟩) (by show b6 ≠ w.heap.size + 1; have := n1.out; have := n2.out; have := n3.out; have := n4.out; have := n5.out; omega) (.int .i64 R)).far (a := ⟨w.heap.size + 1, 1, none⟩) (by show b6 ≠ w.heap.size + 1; have := n1.out; have := n2.out; have := n3.out; have := n4.out; have := n5.out; omega) (.int .i64 C)).far (a := ⟨w.heap.size + 1, 2, none⟩) (by show b6 ≠ w.heap.size + 1; have := n1.out; have := n2.out; have := n3.out; have := n4.out; have := n5.out; omega) (.slice (some ⟨ga, 0, none⟩) L ca))
        have R6 := Lib.hid (((R5.out.set0 (.int .i64 R)).set1 (.int .i64 C)).set2 (.slice (some ⟨ga, 0, none⟩) L ca))
        have Q6 := Lib.hid (((Q5.out.far (a := ⟨w.heap.size + 1, 0, none⟩) (by show w.heap.size + 2 ≠ w.heap.size + 1; omega) (.int .i64 R)).far (a := ⟨w.heap.size + 1, 1, none⟩) (by show w.heap.size + 2 ≠ w.heap.size + 1; omega) (.int .i64 C)).far (a := ⟨w.heap.size + 1, 2, none⟩) (by show w.heap.size + 2 ≠ w.heap.size + 1; omega) (.slice (some ⟨ga, 0, none⟩) L ca))
        have B6 := Lib.hid (((B5.out.setCell (p := ⟨w.heap.size + 1, 0, none⟩) (by show w.heap.size ≤ w.heap.size + 1; omega) (.int .i64 R)).setCell (p := ⟨w.heap.size + 1, 1, none⟩) (by show w.heap.size ≤ w.heap.size + 1; omega) (.int .i64 C)).setCell (p := ⟨w.heap.size + 1, 2, none⟩) (by show w.heap.size ≤ w.heap.size + 1; omega) (.slice (some ⟨ga, 0, none⟩) L ca))
        have IA6 := Lib.hid (((IA5.out.far (a := ⟨w.heap.size + 1, 0, none⟩) (by show ga ≠ w.heap.size + 1; have := n1.out; have := n2.out; omega) (.int .i64 R)).far (a := ⟨w.heap.size + 1, 1, none⟩) (by show ga ≠ w.heap.size + 1; have := n1.out; have := n2.out; omega) (.int .i64 C)).far (a := ⟨w.heap.size + 1, 2, none⟩) (by show ga ≠ w.heap.size + 1; have := n1.out; have := n2.out; omega) (.slice (some ⟨ga, 0, none⟩) L ca))
        have IU6 := Lib.hid (((IU5.out.far (a := ⟨w.heap.size + 1, 0, none⟩) (by show gu ≠ w.heap.size + 1; have := n1.out; have := n2.out; have := n3.out; have := n4.out; omega) (.int .i64 R)).far (a := ⟨w.heap.size + 1, 1, none⟩) (by show gu ≠ w.heap.size + 1; have := n1.out; have := n2.out; have := n3.out; have := n4.out; omega) (.int .i64 C)).far (a := ⟨w.heap.size + 1, 2, none⟩) (by show gu ≠ w.heap.size + 1; have := n1.out; have := n2.out; have := n3.out; have := n4.out; omega) (.slice (some ⟨ga, 0, none⟩) L ca))
        refine hK.out _ _ (fun _ => hN) ?_
        clear hK K r0 r1 r2 f0 f1 f2 hH R5 Q5 B5 IA5 IU5
        try simp only [Act.put, List.setIfInBounds_toArray, List.set_cons_zero, List.set_cons_succ]
        try simp only [show w.heap.size + 1 + 1 = w.heap.size + 2 from rfl]
        generalize (((v0.setCell ⟨w.heap.size + 1, 0, none⟩ (.int .i64 R)).setCell ⟨w.heap.size + 1, 1, none⟩ (.int .i64 C)).setCell ⟨w.heap.size + 1, 2, none⟩ (.slice (some ⟨ga, 0, none⟩) L ca)) = v0 at hN R6 Q6 B6 IA6 IU6 ⊢
        have hH := hN
        have R5 := R6
        have Q5 := Q6
        have B5 := B6
        have IA5 := IA6
        have IU5 := IU6
        clear hN R6 Q6 B6 IA6 IU6
        refine wpAnyT_ready (rs := [1]) (by kernel_rfl) (by simp) ?_
        refine AllReadyT.cons (by simp only [List.getElem?_toArray, List.getElem?_cons_succ, List.getElem?_cons_zero]; rfl) (fun K hK => ?_) AllReadyT.nil
        obtain ⟨k1, k2, k3, -, -, -⟩ := hH.2.all
        go_simp
        try dsimp only
        refine hK.out _ _ (fun _ => hH) ?_
        clear hK K k1 k2 k3
        try simp only [Act.put, List.setIfInBounds_toArray, List.set_cons_zero, List.set_cons_succ]
        refine wpAnyT_ready (rs := [3]) (by kernel_rfl) (by simp) ?_
        refine AllReadyT.cons (by simp only [List.getElem?_toArray, List.getElem?_cons_succ, List.getElem?_cons_zero]; rfl) (fun K hK => ?_) AllReadyT.nil
        obtain ⟨r0, r1, r2, f0, f1, f2⟩ := Q5.out.all
        go_simp
        try dsimp only
        have hN := And.intro (((hH.1.far (a := ⟨w.heap.size + 2, 0, none⟩) (by show b5 ≠ w.heap.size + 2; have := n1.out; have := n2.out; have := n3.out; omega) (.int .i64 R)).far (a := ⟨w.heap.size + 2, 1, none⟩) (by show b5 ≠ w.heap.size + 2; have := n1.out; have := n2.out; have := n3.out; omega) (.int .i64 R)).far (a := ⟨w.heap.size + 2, 2, none⟩) (by show b5 ≠ w.heap.size + 2; have := n1.out; have := n2.out; have := n3.out; omega) (.slice (some ⟨gu, 0, none⟩) LU LU)) (((hH.2.far (a := ⟨w.heap.size + 2, 0, none⟩) (by show b6 ≠ w.heap.size + 2; have := n1.out; have := n2.out; have := n3.out; have := n4.out; have := n5.out; omega) (.int .i64 R)).far (a := ⟨w.heap.size + 2, 1, none⟩) (by show b6 ≠ w.heap.size + 2; have := n1.out; have := n2.out; have := n3.out; have := n4.out; have := n5.out; omega) (.int .i64 R)).far (a := ⟨w.heap.size + 2, 2, none⟩) (by show b6 ≠ w.heap.size + 2; have := n1.out; have := n2.out; have := n3.out; have := n4.out; have := n5.out; omega) (.slice (some ⟨gu, 0, none⟩) LU LU))
        have R6 := Lib.hid (((R5.out.far (a := ⟨w.heap.size + 2, 0, none⟩) (by show w.heap.size + 1 ≠ w.heap.size + 2; omega) (.int .i64 R)).far (a := ⟨w.heap.size + 2, 1, none⟩) (by show w.heap.size + 1 ≠ w.heap.size + 2; omega) (.int .i64 R)).far (a := ⟨w.heap.size + 2, 2, none⟩) (by show w.heap.size + 1 ≠ w.heap.size + 2; omega) (.slice (some ⟨gu, 0, none⟩) LU LU))
        have Q6 := Lib.hid (((Q5.out.set0 (.int .i64 R)).set1 (.int .i64 R)).set2 (.slice (some ⟨gu, 0, none⟩) LU LU))
        have B6 := Lib.hid (((B5.out.setCell (p := ⟨w.heap.size + 2, 0, none⟩) (by show w.heap.size ≤ w.heap.size + 2; omega) (.int .i64 R)).setCell (p := ⟨w.heap.size + 2, 1, none⟩) (by show w.heap.size ≤ w.heap.size + 2; omega) (.int .i64 R)).setCell (p := ⟨w.heap.size + 2, 2, none⟩) (by show w.heap.size ≤ w.heap.size + 2; omega) (.slice (some ⟨gu, 0, none⟩) LU LU))
        have IA6 := Lib.hid (((IA5.out.far (a := ⟨w.heap.size + 2, 0, none⟩) (by show ga ≠ w.heap.size + 2; have := n1.out; have := n2.out; omega) (.int .i64 R)).far (a := ⟨w.heap.size + 2, 1, none⟩) (by show ga ≠ w.heap.size + 2; have := n1.out; have := n2.out; omega) (.int .i64 R)).far (a := ⟨w.heap.size + 2, 2, none⟩) (by show ga ≠ w.heap.size + 2; have := n1.out; have := n2.out; omega) (.slice (some ⟨gu, 0, none⟩) LU LU))
        have IU6 := Lib.hid (((IU5.out.far (a := ⟨w.heap.size + 2, 0, none⟩) (by show gu ≠ w.heap.size + 2; have := n1.out; have := n2.out; have := n3.out; have := n4.out; omega) (.int .i64 R)).far (a := ⟨w.heap.size + 2, 1, none⟩) (by show gu ≠ w.heap.size + 2; have := n1.out; have := n2.out; have := n3.out; have := n4.out; omega) (.int .i64 R)).far (a := ⟨w.heap.size + 2, 2, none⟩) (by show gu ≠ w.heap.size + 2; have := n1.out; have := n2.out; have := n3.out; have := n4.out; omega) (.slice (some ⟨gu, 0, none⟩) LU LU))
        refine hK.out _ _ (fun _ => hN) ?_
        clear hK K r0 r1 r2 f0 f1 f2 hH R5 Q5 B5 IA5 IU5
        try simp only [Act.put, List.setIfInBounds_toArray, List.set_cons_zero, List.set_cons_succ]
        try simp only [show w.heap.size + 1 + 1 = w.heap.size + 2 from rfl]
        generalize (((v0.setCell ⟨w.heap.size + 2, 0, none⟩ (.int .i64 R)).setCell ⟨w.heap.size + 2, 1, none⟩ (.int .i64 R)).setCell ⟨w.heap.size + 2, 2, none⟩ (.slice (some ⟨gu, 0, none⟩) LU LU)) = v0 at hN R6 Q6 B6 IA6 IU6 ⊢
        have hH := hN
        have R5 := R6
        have Q5 := Q6
        have B5 := B6
        have IA5 := IA6
        have IU5 := IU6
        clear hN R6 Q6 B6 IA6 IU6
        refine wpAnyT_ready (rs := [4]) (by kernel_rfl) (by simp) ?_
        refine AllReadyT.cons (by simp only [List.getElem?_toArray, List.getElem?_cons_succ, List.getElem?_cons_zero]; rfl) (fun K hK => ?_) AllReadyT.nil
        go_simp
        try dsimp only
        refine hK.out _ _ (fun _ => hH) ?_
        clear hK K
        try simp only [Act.put, List.setIfInBounds_toArray, List.set_cons_zero, List.set_cons_succ]
        refine wpAnyT_done (by kernel_rfl) ?_ _
        go_wp2_with fail
        obtain ⟨E0, E1, E2, -, -, -⟩ := R5.out.all
        obtain ⟨E3, E4, E5, -, -, -⟩ := Q5.out.all
        have e1 : s.1.length = L := by rw [SI.out.l1, HL.out]
        have e2 : s.2.length = LU := by rw [SI.out.l2, HLU.out]
        refine bodyPost_ret (v := .tuple #[.agg #[.int .i64 R, .int .i64 C, .slice (some ⟨ga, 0, none⟩) L ca], .agg #[.int .i64 R, .int .i64 R, .slice (some ⟨gu, 0, none⟩) LU LU], .bool true]) (by simp [results, Try.results36, go_sem, E0, E1, E2, E3, E4, E5]) rfl ?_
        refine ⟨.slice (some ⟨ga, 0, none⟩) L ca, .slice (some ⟨gu, 0, none⟩) LU LU, rfl, .inr ⟨ga, ca, by rw [← e1]; rfl, by have := n2.out; omega, IA5.out, by show s.1.length ≤ ca; omega, by show s.1.length ≤ 16777216; have := HL.out; omega⟩, .inr ⟨gu, LU, by rw [← e2]; rfl, by have := n2.out; have := n3.out; have := n4.out; omega, IU5.out, by show s.2.length ≤ LU; omega, by show s.2.length ≤ 16777216; have := HLU.out; omega⟩, fun k hk => ?_, B5.out⟩
        have hk : some ga = some k := hk
        intro h9
        have h9 : some gu = some k := h9
        have hk := Option.some.inj hk
        have h9 := Option.some.inj h9
        have := n3.out
        have := n4.out
        omega
end Go.Proofs.Ytpelnfenfeoeeaa
end

section
/-
  Plain mathematics of chapter 7: a row that is written cell by cell. Nothing of a program is used.
-/
namespace Go.Proofs.Ytpelnfenfeoeeaa
end Go.Proofs.Ytpelnfenfeoeeaa
end

section
/-
  Plain mathematics of chapter 7: the rank of a matrix turned over; products. Nothing of a program is used.
-/
namespace Go.Proofs.Ytpelnfenfeoeeaa
end Go.Proofs.Ytpelnfenfeoeeaa
end

section
/-
  Plain mathematics of chapter 7: what the laws ask of echelon forms. Nothing of a program is used.
-/
namespace Go.Proofs.Ytpelnfenfeoeeaa
end Go.Proofs.Ytpelnfenfeoeeaa
end

section
/-
  Plain mathematics of chapter 7: telling an echelon form. Nothing of a program is used.
-/
namespace Go.Proofs.Ytpelnfenfeoeeaa
def leadF (v : Nat → Int) : Nat → Nat → Nat
  | 0, j => j
  | k + 1, j => if v j = 0 then leadF v k (j + 1) else j
def leadC (c : Nat) (v : Nat → Int) : Nat := leadF v c 0
theorem leadF_eq {v : Nat → Int} : ∀ {k j q : Nat}, j ≤ q → q ≤ j + k → (∀ i, j ≤ i → i < q → v i = 0) → (q < j + k → v q ≠ 0) → leadF v k j = q := by
  intro k
  induction k with
  | zero => intro j q h1 h2 _ _; show j = q; omega
  | succ k ih =>
    intro j q h1 h2 hz hn
    show (if v j = 0 then leadF v k (j + 1) else j) = q
    rcases Nat.lt_or_ge j q with h | h
    · rw [if_pos (hz j (Nat.le_refl _) h)]
      exact ih (by omega) (by omega) (fun i h3 h4 => hz i (by omega) h4) (fun h3 => hn (by omega))
    · obtain rfl : j = q := by omega
      rw [if_neg (hn (by omega))]
theorem leadF_says {v : Nat → Int} : ∀ {k j : Nat}, j ≤ leadF v k j ∧ leadF v k j ≤ j + k ∧ (∀ i, j ≤ i → i < leadF v k j → v i = 0) ∧ (leadF v k j < j + k → v (leadF v k j) ≠ 0) := by
  intro k
  induction k with
  | zero => intro j; exact ⟨Nat.le_refl _, Nat.le_refl _, fun i h1 h2 => absurd h2 (by show ¬ i < j; omega), fun h => absurd h (by show ¬ j < j + 0; omega)⟩
  | succ k ih =>
    intro j
    by_cases h : v j = 0
    · have e : leadF v (k + 1) j = leadF v k (j + 1) := if_pos h
      rw [e]
      obtain ⟨h1, h2, h3, h4⟩ := ih (j := j + 1)
      refine ⟨by omega, by omega, fun i h5 h6 => ?_, fun h5 => h4 (by omega)⟩
      rcases Nat.lt_or_ge j i with h7 | h7
      · exact h3 i h7 h6
      · obtain rfl : i = j := by omega
        exact h
    · have e : leadF v (k + 1) j = j := if_neg h
      rw [e]
      exact ⟨Nat.le_refl _, by omega, fun i h1 h2 => by omega, fun _ => h⟩
theorem leadC_says (c : Nat) (v : Nat → Int) : leadC c v ≤ c ∧ (∀ i, i < leadC c v → v i = 0) ∧ (leadC c v < c → v (leadC c v) ≠ 0) := by
  obtain ⟨-, h2, h3, h4⟩ := leadF_says (v := v) (k := c) (j := 0)
  exact ⟨by show leadF v c 0 ≤ c; omega, fun i hi => h3 i (Nat.zero_le _) hi, fun h => h4 (by show leadF v c 0 < 0 + c; have : leadF v c 0 < c := h; omega)⟩
def topN (c : Nat) (xs : List Int) : Nat → Nat → Nat
  | 0, i => i
  | k + 1, i => if leadC c (mxC c xs i) < c then topN c xs k (i + 1) else i
theorem topN_says {c : Nat} {xs : List Int} : ∀ {k i : Nat}, i ≤ topN c xs k i ∧ topN c xs k i ≤ i + k ∧ (∀ q, i ≤ q → q < topN c xs k i → leadC c (mxC c xs q) < c) ∧ (topN c xs k i < i + k → ¬ leadC c (mxC c xs (topN c xs k i)) < c) := by
  intro k
  induction k with
  | zero => intro i; exact ⟨Nat.le_refl _, Nat.le_refl _, fun q h1 h2 => absurd h2 (by show ¬ q < i; omega), fun h => absurd h (by show ¬ i < i + 0; omega)⟩
  | succ k ih =>
    intro i
    by_cases h : leadC c (mxC c xs i) < c
    · have e : topN c xs (k + 1) i = topN c xs k (i + 1) := if_pos h
      rw [e]
      obtain ⟨h1, h2, h3, h4⟩ := ih (i := i + 1)
      refine ⟨by omega, by omega, fun q h5 h6 => ?_, fun h5 => h4 (by omega)⟩
      rcases Nat.lt_or_ge i q with h7 | h7
      · exact h3 q h7 h6
      · obtain rfl : q = i := by omega
        exact h
    · have e : topN c xs (k + 1) i = i := if_neg h
      rw [e]
      exact ⟨Nat.le_refl _, by omega, fun q h1 h2 => by omega, fun _ => h⟩
end Go.Proofs.Ytpelnfenfeoeeaa
end

section
/-
  Plain mathematics of chapter 12: telling a Hermite form. Nothing of a program is used.
-/
namespace Go.Proofs.Ytpelnfenfeoeeaa
def hrBad (c : Nat) (xs : List Int) (i : Nat) (last : Int) : Prop := leadC c (mxC c xs i) < c ∧ (last = c ∨ (leadC c (mxC c xs i) : Int) ≤ last ∨ mxC c xs i (leadC c (mxC c xs i)) < 0)
def hcBad (r c : Nat) (xs : List Int) (i : Nat) : Prop := leadC c (mxC c xs i) < c ∧ ∃ k, k < r ∧ ((k < i ∧ ¬ (0 ≤ mxC c xs k (leadC c (mxC c xs i)) ∧ mxC c xs k (leadC c (mxC c xs i)) ≤ mxC c xs i (leadC c (mxC c xs i)) - 1)) ∨ (i < k ∧ mxC c xs k (leadC c (mxC c xs i)) ≠ 0))
def HmB (r c : Nat) (xs : List Int) : Nat → Nat → Int → Prop
  | 0, _, _ => True
  | k + 1, i, last => ¬ hrBad c xs i last ∧ ¬ hcBad r c xs i ∧ HmB r c xs k (i + 1) (leadC c (mxC c xs i))
theorem HmB_step {r c k i : Nat} {xs : List Int} {last : Int} : HmB r c xs (k + 1) i last ↔ (¬ hrBad c xs i last ∧ ¬ hcBad r c xs i ∧ HmB r c xs k (i + 1) (leadC c (mxC c xs i))) := Iff.rfl
theorem HerP.lead_at {r c t : Nat} {xs : List Int} {p : Nat → Nat} (h : HerP r c (mxC c xs) p t) {i : Nat} (hi : i < t) : leadC c (mxC c xs i) = p i :=
  leadF_eq (Nat.zero_le _) (by have := h.col i hi; omega) (fun j _ hj => h.left i j hi hj) (fun _ => by have := h.pos i hi; omega)
theorem HerP.lead_no {r c t : Nat} {xs : List Int} {p : Nat → Nat} (h : HerP r c (mxC c xs) p t) {i : Nat} (hi : t ≤ i) (hir : i < r) : leadC c (mxC c xs i) = c :=
  leadF_eq (Nat.zero_le _) (by omega) (fun j _ hj => h.rest i j hi hir hj) (fun h => by omega)
theorem HerP.hmB {r c t : Nat} {xs : List Int} {p : Nat → Nat} (h : HerP r c (mxC c xs) p t) : ∀ (k i : Nat) (last : Int), i + k = r → (i < t → last < p i ∧ last ≠ c) → HmB r c xs k i last := by
  intro k
  induction k with
  | zero => intro i last _ _; trivial
  | succ k ih =>
    intro i last hik hl
    have hir : i < r := by omega
    rcases Nat.lt_or_ge i t with hit | hit
    · obtain ⟨h1, h2⟩ := hl hit
      have e := h.lead_at hit
      have hc := h.col i hit
      have hp := h.pos i hit
      refine ⟨?_, ?_, ?_⟩
      · rintro ⟨-, hb⟩
        rw [e] at hb
        rcases hb with h3 | h3 | h3
        · exact h2 h3
        · omega
        · omega
      · rintro ⟨-, k', h3, h4⟩
        rw [e] at h4
        rcases h4 with ⟨h5, h6⟩ | ⟨h5, h6⟩
        · have := h.above i k' hit h5
          exact h6 ⟨this.1, by omega⟩
        · rcases Nat.lt_or_ge k' t with h7 | h7
          · exact h6 (h.left k' (p i) h7 (h.inc i k' h5 h7))
          · exact h6 (h.rest k' (p i) h7 h3 hc)
      · rw [e]
        refine ih (i + 1) _ (by omega) fun h3 => ?_
        have := h.inc i (i + 1) (by omega) h3
        omega
    · have e := h.lead_no hit hir
      refine ⟨fun hb => ?_, fun hb => ?_, ih (i + 1) _ (by omega) fun h3 => by omega⟩
      · have := hb.1; omega
      · have := hb.1; omega
theorem HmB.rows {r c : Nat} {xs : List Int} : ∀ (k i : Nat) (last : Int), i + k = r → HmB r c xs k i last →
    (last = c → ∀ q, i ≤ q → q < r → leadC c (mxC c xs q) = c) ∧ (∀ q, i ≤ q → q < r → leadC c (mxC c xs q) < c → last < leadC c (mxC c xs q) ∧ 0 < mxC c xs q (leadC c (mxC c xs q)) ∧ ∀ s, s < q → 0 ≤ mxC c xs s (leadC c (mxC c xs q)) ∧ mxC c xs s (leadC c (mxC c xs q)) < mxC c xs q (leadC c (mxC c xs q))) ∧ ∀ q s, i ≤ q → q < s → s < r → leadC c (mxC c xs s) < c → leadC c (mxC c xs q) < leadC c (mxC c xs s) := by
  intro k
  induction k with
  | zero => intro i last hik _; exact ⟨fun _ q h1 h2 => by omega, fun q h1 h2 => by omega, fun q s h1 h2 h3 => by omega⟩
  | succ k ih =>
    intro i last hik ⟨hrow, hcol, hrest⟩
    obtain ⟨g1, g2, g3⟩ := ih (i + 1) _ (by omega) hrest
    obtain ⟨l1, l2, l3⟩ := leadC_says c (mxC c xs i)
    have own : leadC c (mxC c xs i) < c → last ≠ c ∧ last < leadC c (mxC c xs i) ∧ 0 < mxC c xs i (leadC c (mxC c xs i)) ∧ ∀ s, s < i → 0 ≤ mxC c xs s (leadC c (mxC c xs i)) ∧ mxC c xs s (leadC c (mxC c xs i)) < mxC c xs i (leadC c (mxC c xs i)) := fun h => by
      have h0 := l3 h
      refine ⟨fun e => hrow ⟨h, .inl e⟩, Int.not_le.mp fun e => hrow ⟨h, .inr (.inl e)⟩, ?_, fun s hs => ?_⟩
      · have : ¬ mxC c xs i (leadC c (mxC c xs i)) < 0 := fun e => hrow ⟨h, .inr (.inr e)⟩
        omega
      · have : 0 ≤ mxC c xs s (leadC c (mxC c xs i)) ∧ mxC c xs s (leadC c (mxC c xs i)) ≤ mxC c xs i (leadC c (mxC c xs i)) - 1 := Classical.byContradiction fun e => hcol ⟨h, s, by omega, .inl ⟨hs, e⟩⟩
        exact ⟨this.1, by omega⟩
    refine ⟨fun e q h1 h2 => ?_, fun q h1 h2 h3 => ?_, fun q s h1 h2 h3 h4 => ?_⟩
    · have hi : leadC c (mxC c xs i) = c := by
        rcases Nat.lt_or_ge (leadC c (mxC c xs i)) c with h4 | h4
        · exact absurd e (own h4).1
        · omega
      rcases Nat.lt_or_ge i q with h4 | h4
      · exact g1 (by rw [hi]) q h4 h2
      · obtain rfl : q = i := by omega
        exact hi
    · rcases Nat.lt_or_ge i q with h4 | h4
      · obtain ⟨h5, h6, h7⟩ := g2 q h4 h2 h3
        have h8 : leadC c (mxC c xs i) < c := by omega
        have := (own h8).2.1
        exact ⟨by omega, h6, h7⟩
      · obtain rfl : q = i := by omega
        exact (own h3).2
    · rcases Nat.lt_or_ge i q with h5 | h5
      · exact g3 q s h5 h2 h3 h4
      · obtain rfl : q = i := by omega
        have := (g2 s h2 h3 h4).1
        omega
theorem HmB_iff {r c : Nat} {xs : List Int} : HmB r c xs r 0 (-1) ↔ ∃ q t, HerP r c (mxC c xs) q t := by
  constructor
  · intro h
    obtain ⟨-, g2, g3⟩ := HmB.rows r 0 (-1) (by omega) h
    obtain ⟨-, t2, t3, t4⟩ := topN_says (c := c) (xs := xs) (k := r) (i := 0)
    refine ⟨fun i => leadC c (mxC c xs i), topN c xs r 0, by omega, fun k hk => t3 k (Nat.zero_le _) hk, fun k l h1 h2 => g3 k l (Nat.zero_le _) h1 (by omega) (t3 l (Nat.zero_le _) h2), fun k hk => (g2 k (Nat.zero_le _) (by omega) (t3 k (Nat.zero_le _) hk)).2.1, fun k j _ hj => (leadC_says c (mxC c xs k)).2.1 j hj, fun i j h1 h2 h3 => ?_, fun k i hk hi => (g2 k (Nat.zero_le _) (by omega) (t3 k (Nat.zero_le _) hk)).2.2 i hi⟩
    have hT : topN c xs r 0 < r := by omega
    have h0 := t4 (by omega)
    have hi : ¬ leadC c (mxC c xs i) < c := fun h4 => by
      rcases Nat.lt_or_ge (topN c xs r 0) i with h5 | h5
      · have := g3 (topN c xs r 0) i (Nat.zero_le _) h5 h2 h4
        omega
      · have e : i = topN c xs r 0 := by omega
        rw [e] at h4
        exact h0 h4
    have := (leadC_says c (mxC c xs i)).1
    exact (leadC_says c (mxC c xs i)).2.1 j (by omega)
  · rintro ⟨q, t, h⟩
    exact h.hmB r 0 (-1) (by omega) fun h1 => ⟨by omega, by omega⟩
open Classical in
noncomputable def herIs (r c : Int) (xs : List Int) : Bool := isMat r c xs && decide (∃ q t, HerP r.toNat c.toNat (mxC c.toNat xs) q t)
theorem herIs_no {r c : Int} {xs : List Int} (h : isMat r c xs = false) : herIs r c xs = false := by unfold herIs; rw [h]; rfl
open Classical in
theorem herIs_iff {r c : Nat} {xs : List Int} (h : isMat r c xs = true) : HmB r c xs r 0 (-1) ↔ herIs r c xs = true := by
  unfold herIs
  rw [h, Bool.true_and]
  simp only [decide_eq_true_eq]
  exact HmB_iff
end Go.Proofs.Ytpelnfenfeoeeaa
end

section
/-
  A block of ints, cell by cell.
-/
namespace Go.Proofs.Ytpelnfenfeoeeaa
open Go.RowKit
theorem Rd.cells {w : World} {b o : Nat} {zs : List Int} (h : Rd w (some ⟨b, o, none⟩) zs) (j : Nat) (hj : j < zs.length) : w.cell? ⟨b, o + j, none⟩ = some (.int .i64 (zs.getD j 0)) := by
  obtain ⟨b', o', e, hc⟩ := h j hj
  injection e with e
  injection e with e1 e2
  subst e1 e2
  exact hc
theorem Rd.addr {w : World} {a : Option Addr} {zs : List Int} (h : Rd w a zs) (hz : 0 < zs.length) : ∃ b o : Nat, a = some ⟨b, o, none⟩ := by
  obtain ⟨b, o, e, -⟩ := h 0 hz
  exact ⟨b, o, e⟩
end Go.Proofs.Ytpelnfenfeoeeaa
end

section
/-
  Contracts of Go's library at this translation, each one application of a theorem of the guide's library: slices_Clone_int, slices_Clone_int_zero, slices_Clone_int_nil.
-/
namespace Go.Proofs
open Go.Shelf
def Try.laysNm215_ren : Go.Shelf.Ren := ⟨fun | 15 => 115 | n => n, fun | 22 => 22 | 3 => 3 | 4 => 4 | n => n, fun | n => n⟩
theorem Try.laysNm215 : Go.Proofs.Lays2.n15 Try.prog Try.laysNm215_ren := {
  mixed := by kernel_rfl
  f15 := Try.func115.trans (congrArg some (by kernel_rfl))
  t3 := Try.underlying3
  a3 := Try.isAgg3
  z3 := Try.sizeOf3
  v3 := Try.zeroValue3
  t4 := Try.underlying4
  a4 := Try.isAgg4
  z4 := Try.sizeOf4
  v4 := Try.zeroValue4
  t22 := Try.underlying22
  a22 := Try.isAgg22
  z22 := Try.sizeOf22
  v22 := Try.zeroValue22
  i3 := by kernel_rfl }
open Go.RowKit Go.Lib in
theorem Try.slices_Clone_int (b off n c : Nat) (zs : List Int) (w : World) (hz : n ≤ zs.length) (hbig : n * 8 ≤ 140737488355328) (hc : ∀ j, j < zs.length → w.cell? ⟨b, off + j, none⟩ = some (.int .i64 (zs.getD j 0))) :
    Calls Try.prog 115 #[.slice (some ⟨b, off, none⟩) n c] w fun e w' => ∃ v', e = .returned v' ∧ w'.ownsRow w.heap.size 3 1 v' n ((zs.take n).map (Value.int .i64)) ∧ v' ≠ .slice none 0 0 ∧ Below w.heap.size w w' := Any.slices_Clone_int Try.laysNm215 b off n c zs w hz hbig hc
open Go.RowKit Go.Lib in
theorem Try.slices_Clone_int_nil (n c : Nat) (w : World) :
    Calls Try.prog 115 #[.slice none n c] w fun e w' => e = .returned (.slice none 0 0) ∧ w' = w := Any.slices_Clone_int_nil Try.laysNm215 n c w
open Go.RowKit Go.Lib in
theorem Try.slices_Clone_int_zero (a : Addr) (c : Nat) (w : World) :
    Calls Try.prog 115 #[.slice (some a) 0 c] w fun e w' => ∃ v', e = .returned v' ∧ w'.ownsRow w.heap.size 3 1 v' 0 [] ∧ v' ≠ .slice none 0 0 ∧ Below w.heap.size w w' := Any.slices_Clone_int_zero Try.laysNm215 a c w
end Go.Proofs
end

section
/-
  Chapter 3, in the program: slices.Clone over slices of ints.
-/
namespace Go.Proofs.Ytpelnfenfeoeeaa
open Go.RowKit
def Copy (zs : List Int) (w : World) (e : Ending) (w' : World) : Prop := ∃ v, e = .returned v ∧ Own w.heap.size w' v zs ∧ Below w.heap.size w w'
theorem iClone (a : Option Addr) (cap : Nat) (zs : List Int) (w : World) (h : Rd w a zs) (hn : zs.length ≤ 16777216) :
    Calls Try.prog 115 #[.slice a zs.length cap] w (Copy zs w) := by
  rcases Nat.eq_zero_or_pos zs.length with e | hz
  · obtain rfl : zs = [] := List.eq_nil_of_length_eq_zero e
    cases a with
    | none => exact (Try.slices_Clone_int_nil 0 cap w).mono fun e w' ⟨h1, h2⟩ => ⟨_, h1, .inl ⟨rfl, rfl⟩, by rw [h2]; exact Below.refl _ _⟩
    | some x => exact (Try.slices_Clone_int_zero x cap w).mono fun e w' ⟨v, h1, h2, _, h3⟩ => ⟨v, h1, Own.of_row h2 (by simp), h3⟩
  · obtain ⟨b, o, rfl⟩ := h.addr hz
    refine (Try.slices_Clone_int b o zs.length cap zs w (Nat.le_refl _) (by omega) h.cells).mono fun e w' ⟨v, h1, h2, _, h3⟩ => ⟨v, h1, Own.of_row ?_ hn, h3⟩
    rw [List.take_length] at h2
    exact h2
theorem In.cases {B T : Nat} {w : World} {v : Value} {zs : List Int} (h : In B T w v zs) : (v = .slice none 0 0 ∧ zs = []) ∨ ∃ (g cap : Nat), v = .slice (some ⟨g, 0, none⟩) zs.length cap ∧ B ≤ g ∧ g < T ∧ Ints w g zs ∧ zs.length ≤ cap := by
  rcases h with h | ⟨g, cap, hv, hB, hT, hi, hl, _⟩
  · exact .inl h
  · exact .inr ⟨g, cap, hv, hB, hT, hi, hl⟩
def CopyN (n : Nat) (zs : List Int) (w : World) (e : Ending) (w' : World) : Prop := ∃ q qc, e = .returned (.slice q n qc) ∧ Own w.heap.size w' (.slice q n qc) zs ∧ Below w.heap.size w w'
theorem iCloneN (a : Option Addr) (cap n : Nat) (zs : List Int) (hz : zs.length = n) (w : World) (h : Rd w a zs) (hn : n ≤ 16777216) :
    Calls Try.prog 115 #[.slice a n cap] w (CopyN n zs w) := by
  subst hz
  refine (iClone a cap zs w h hn).mono ?_
  rintro e w' ⟨v, rfl, own, hb⟩
  obtain ⟨q, qc, rfl, -, -⟩ := own.form
  exact ⟨q, qc, rfl, own, hb⟩
end Go.Proofs.Ytpelnfenfeoeeaa
end

section
/-
  Chapter 3, in the program: a matrix copied.
-/
namespace Go.Proofs.Ytpelnfenfeoeeaa
set_option maxRecDepth 100000
open Go.RowKit
def CopyM (r c : Int) (n : Nat) (zs : List Int) (w : World) (e : Ending) (w' : World) : Prop := ∃ q qc, e = .returned (.agg #[.int .i64 r, .int .i64 c, .slice q n qc]) ∧ Own w.heap.size w' (.slice q n qc) zs ∧ Below w.heap.size w w'
set_option maxHeartbeats 400000 in
theorem iCopyOf (r c : Int) (a : Option Addr) (cap n : Nat) (zs : List Int) (hz : zs.length = n) (w : World) (h : Rd w a zs) (hn : n ≤ 16777216) :
    Calls Try.prog 60 #[.agg #[.int .i64 r, .int .i64 c, .slice a n cap]] w (CopyM r c n zs w) := by
  have H := Lib.hid h
  have HZ := Lib.hid hz
  have K0 : Hid (Blk3 ((w.alloc (.cells #[.int .i64 r, .int .i64 c, .slice a n cap] 26)).alloc (.cells #[.int .i64 0, .int .i64 0, .slice none 0 0] 26)) w.heap.size 26 (.int .i64 r) (.int .i64 c) (.slice a n cap)) := (Blk3.at_ _ _ _ _ rfl).old _
  have K1 : Hid (Blk3 ((w.alloc (.cells #[.int .i64 r, .int .i64 c, .slice a n cap] 26)).alloc (.cells #[.int .i64 0, .int .i64 0, .slice none 0 0] 26)) (w.heap.size + 1) 26 (.int .i64 0) (.int .i64 0) (.slice none 0 0)) := Blk3.at_ _ _ _ _ (by simp)
  have B : Hid (Below w.heap.size w ((w.alloc (.cells #[.int .i64 r, .int .i64 c, .slice a n cap] 26)).alloc (.cells #[.int .i64 0, .int .i64 0, .slice none 0 0] 26))) := ((Below.refl _ _).alloc (Nat.le_refl _) _).alloc (by simp) _
  clear h hz
  go_enter Try.func60, Try.ntmps60
  go_wp2_with fail
  refine wp_region_held_drew (S := fun w' => Blk3 w' w.heap.size 26 (.int .i64 r) (.int .i64 c) (.slice a n cap) ∧ (∃ p q r, Blk3 w' (w.heap.size + 1) 26 p q r) ∧ Below w.heap.size w w') (by kernel_rfl) ⟨K0.out.drew, ⟨_, _, _, K1.out.drew⟩, B.out.drew⟩ (fun hH => ?_)
  refine wpAnyH_take (i := 0) (v := ?_) (by simp only [List.getElem?_toArray, List.getElem?_cons_zero]; rfl) (by kernel_rfl) (by kernel_rfl) (by kernel_rfl) (by exact fun _ _ _ h => h) (Or.inl ⟨by rfl, ?_⟩) hH ?_
  rotate_left
  · (intro wS hS; (try dsimp only at hS); obtain ⟨hS, -, -⟩ := hS; obtain ⟨k1, k2, k3, -, -, -⟩ := hS.all; go_simp; try rfl)
  try simp only [Act.put, List.setIfInBounds_toArray, List.set_cons_zero, List.set_cons_succ]
  refine wpAnyH_take (i := 1) (v := ?_) (by simp only [List.getElem?_toArray, List.getElem?_cons_succ, List.getElem?_cons_zero]; rfl) (by kernel_rfl) (by kernel_rfl) (by kernel_rfl) (by exact fun _ _ _ h => h) (Or.inl ⟨by rfl, ?_⟩) hH ?_
  rotate_left
  · (intro wS hS; (try dsimp only at hS); obtain ⟨hS, -, -⟩ := hS; obtain ⟨k1, k2, k3, -, -, -⟩ := hS.all; go_simp; try rfl)
  try simp only [Act.put, List.setIfInBounds_toArray, List.set_cons_zero, List.set_cons_succ]
  refine wpAnyH_take (i := 2) (v := ?_) (by simp only [List.getElem?_toArray, List.getElem?_cons_succ, List.getElem?_cons_zero]; rfl) (by kernel_rfl) (by kernel_rfl) (by kernel_rfl) (by exact fun _ _ _ h => h) (Or.inl ⟨by rfl, ?_⟩) hH ?_
  rotate_left
  · (intro wS hS; (try dsimp only at hS); obtain ⟨hS, -, -⟩ := hS; obtain ⟨k1, k2, k3, -, -, -⟩ := hS.all; go_simp; try rfl)
  try simp only [Act.put, List.setIfInBounds_toArray, List.set_cons_zero, List.set_cons_succ]
  refine wpAnyH_take (i := 3) (v := ?_) (by simp only [List.getElem?_toArray, List.getElem?_cons_succ, List.getElem?_cons_zero]; rfl) (by kernel_rfl) (by kernel_rfl) (by kernel_rfl) (by exact fun _ _ _ h => h) (Or.inl ⟨by rfl, ?_⟩) hH ?_
  rotate_left
  · (intro wS hS; (try dsimp only at hS); obtain ⟨hS, -, -⟩ := hS; obtain ⟨k1, k2, k3, -, -, -⟩ := hS.all; go_simp; try rfl)
  try simp only [Act.put, List.setIfInBounds_toArray, List.set_cons_zero, List.set_cons_succ]
  refine wpAnyH_take (i := 4) (v := ?_) (by simp only [List.getElem?_toArray, List.getElem?_cons_succ, List.getElem?_cons_zero]; rfl) (by kernel_rfl) (by kernel_rfl) (by kernel_rfl) (by exact fun _ _ _ h => h) (Or.inl ⟨by rfl, ?_⟩) hH ?_
  rotate_left
  · (intro wS hS; (try dsimp only at hS); obtain ⟨hS, -, -⟩ := hS; obtain ⟨k1, k2, k3, -, -, -⟩ := hS.all; go_simp; try rfl)
  try simp only [Act.put, List.setIfInBounds_toArray, List.set_cons_zero, List.set_cons_succ]
  refine wpAnyH_take (i := 5) (v := ?_) (by simp only [List.getElem?_toArray, List.getElem?_cons_succ, List.getElem?_cons_zero]; rfl) (by kernel_rfl) (by kernel_rfl) (by kernel_rfl) (by exact fun _ _ _ h => h) (Or.inl ⟨by rfl, ?_⟩) hH ?_
  rotate_left
  · (intro wS hS; (try dsimp only at hS); obtain ⟨hS, -, -⟩ := hS; obtain ⟨k1, k2, k3, -, -, -⟩ := hS.all; go_simp; try rfl)
  try simp only [Act.put, List.setIfInBounds_toArray, List.set_cons_zero, List.set_cons_succ]
  refine wpAnyH_ready (rs := [6]) (by kernel_rfl) (by simp) ?_
  refine AllReadyH.cons (by simp only [List.getElem?_toArray, List.getElem?_cons_succ, List.getElem?_cons_zero]; rfl) (fun K hK => ?_) AllReadyH.nil
  go_simp
  obtain ⟨hH0, ⟨p, q, s, hH1⟩, hH2⟩ := hH
  have l1 := hH1.lt
  (with_reducible refine (iCloneN a cap n zs HZ.out _ (H.out.below hH2) (by omega)).mono ?_)
  rintro e v1 ⟨q0, qc, rfl, own, hb1⟩
  try dsimp only
  have J0 := Lib.hid (hH0.step hb1)
  have J1 := Lib.hid (hH1.step hb1)
  have JB := Lib.hid (stepB hH2 hb1)
  have O := Lib.hid own
  have l2 : w.heap.size + 1 < _ := l1
  refine hK.out _ _ ⟨J0.out, ⟨_, _, _, J1.out⟩, JB.out⟩ (fun hH => ?_)
  clear hK K own
  try simp only [Act.put, List.setIfInBounds_toArray, List.set_cons_zero, List.set_cons_succ]
  refine wpAnyH_take (i := 7) (v := ?_) (by simp only [List.getElem?_toArray, List.getElem?_cons_succ, List.getElem?_cons_zero]; rfl) (by kernel_rfl) (by kernel_rfl) (by kernel_rfl) (by exact fun _ _ _ h => h) (Or.inl ⟨by rfl, ?_⟩) hH ?_
  rotate_left
  · (intro wS hS; clear hS; go_simp; try rfl)
  try simp only [Act.put, List.setIfInBounds_toArray, List.set_cons_zero, List.set_cons_succ]
  refine wpAnyH_ready (rs := [8]) (by kernel_rfl) (by simp) ?_
  refine AllReadyH.cons (by simp only [List.getElem?_toArray, List.getElem?_cons_succ, List.getElem?_cons_zero]; rfl) (fun K hK => ?_) AllReadyH.nil
  obtain ⟨y0, y1, y2, y3, y4, y5⟩ := J1.out.all
  clear hH
  go_simp
  have Z0 := Lib.hid (((J0.out.far (a := ⟨w.heap.size + 1, 0, none⟩) (by simp) (.int .i64 r)).far (a := ⟨w.heap.size + 1, 1, none⟩) (by simp) (.int .i64 c)).far (a := ⟨w.heap.size + 1, 2, none⟩) (by simp) (.slice q0 n qc))
  have Z1 := Lib.hid (((J1.out.set0 (.int .i64 r)).set1 (.int .i64 c)).set2 (.slice q0 n qc))
  have OO := Lib.hid (((O.out.far (a := ⟨w.heap.size + 1, 0, none⟩) l2 (.int .i64 r)).far (a := ⟨w.heap.size + 1, 1, none⟩) l2 (.int .i64 c)).far (a := ⟨w.heap.size + 1, 2, none⟩) l2 (.slice q0 n qc))
  refine hK.out _ _ ⟨Z0.out, ⟨_, _, _, Z1.out⟩, ((JB.out.setCell (Nat.le_succ _) _).setCell (Nat.le_succ _) _).setCell (Nat.le_succ _) _⟩ (fun hH => ?_)
  have ZB := Lib.hid hH.2.2
  clear hK K hH
  refine wpAnyH_done (by kernel_rfl) ?_ _
  go_wp2_with fail
  obtain ⟨E0, E1, E2, -, -, -⟩ := Z1.out.all
  exact bodyPost_ret (v := .agg #[.int .i64 r, .int .i64 c, .slice q0 n qc]) (by simp [results, Try.results60, go_sem, E0, E1, E2]) rfl ⟨q0, qc, rfl, OO.out.le (by omega), ZB.out⟩
end Go.Proofs.Ytpelnfenfeoeeaa
end

section
/-
  The laws' unit and mix: some matrix is returned; nothing that was there changes.
-/
namespace Go.Proofs.Ytpelnfenfeoeeaa
set_option maxRecDepth 100000
open Go.RowKit
theorem Own.rd2 {B : Nat} {w : World} {q : Option Addr} {n qc : Nat} {zs : List Int} (h : Own B w (.slice q n qc) zs) : Rd w q zs := by
  obtain ⟨a', c', e, hr, -⟩ := h.form
  injection e with e1 e2 e3
  rw [e1]; exact hr
theorem Own.old2 {B : Nat} {w : World} {v : Value} {zs : List Int} (h : Own B w v zs) (o : Obj) : Own B (w.alloc o) v zs := h.keep ((Below.refl _ _).alloc (Nat.le_refl _) o)
theorem Own.spot2 {B n c : Nat} {w : World} {a : Option Addr} {zs : List Int} (h : Own B w (.slice a n c) zs) : Spot a := by
  rcases h with ⟨hv, -⟩ | ⟨g, cap, hv, -⟩
  · simp only [Value.slice.injEq] at hv
    exact .inl hv.1
  · simp only [Value.slice.injEq] at hv
    exact .inr ⟨_, _, hv.1⟩
theorem fourF {W w' : World} {b : Nat} {t : TypeId} {p q r v : Value} {x : Addr} (h0 : Blk3 W b t p q r) (hx : W.cell? x = some v) (hb : Below W.heap.size W w') :
    w'.cell? ⟨b, 0, none⟩ = some p ∧ w'.cell? ⟨b, 1, none⟩ = some q ∧ w'.cell? ⟨b, 2, none⟩ = some r ∧ w'.cell? x = some v :=
  ⟨(h0.keep hb h0.lt).cell0, (h0.keep hb h0.lt).cell1, (h0.keep hb h0.lt).cell2, (hb.cell (World.block_lt_of_cell? W _ hx)).trans hx⟩
theorem In.own {B T : Nat} {w : World} {v : Value} {zs : List Int} (h : In B T w v zs) : Own B w v zs := by
  rcases h with h | ⟨g, cap, hv, hB, -, hi, hl, hk⟩
  · exact .inl h
  · exact .inr ⟨g, cap, hv, hB, hi, hl, hk⟩
theorem Own.far2 {B : Nat} {w : World} {v : Value} {zs : List Int} (h : Own B w v zs) {a : Addr} (ha : a.block < B) (u : Value) : Own B (w.setCell a u) v zs := by
  rcases h with h | ⟨g, cap, hv, hB, hi, hl, hk⟩
  · exact .inl h
  · exact .inr ⟨g, cap, hv, hB, hi.far (by omega) u, hl, hk⟩
end Go.Proofs.Ytpelnfenfeoeeaa
end

section
/-
  The laws' unit and mix: mix is a matrix whose determinant is 1, or it is empty.
-/
namespace Go.Proofs.Ytpelnfenfeoeeaa
open Go.RowKit
def MixP (n r c : Int) (zs : List Int) : Prop := (r = n ∧ c = n ∧ 0 ≤ n ∧ zs.length = n.toNat * n.toNat ∧ nums zs = true ∧ det n.toNat (mxL n.toNat zs) = 1) ∨ (r = 0 ∧ c = 0 ∧ zs = [] ∧ 1 < n)
def UniOf (n : Int) (w : World) (e : Ending) (w' : World) : Prop := ∃ (r c : Int) (q : Option Addr) (qc : Nat) (zs : List Int), e = .returned (.agg #[.int .i64 r, .int .i64 c, .slice q zs.length qc]) ∧ Own w.heap.size w' (.slice q zs.length qc) zs ∧ MixP n r c zs ∧ zs.length ≤ 600 ∧ Below w.heap.size w w'
theorem idM_D (n : Int) (h0 : 0 ≤ n) (h6 : n ≤ 24) : MixP n (idM n).r (idM n).c (idM n).zs ∧ (idM n).zs.length ≤ 600 := by
  unfold idM
  rw [if_pos ⟨h0, by omega⟩]
  refine ⟨.inl ⟨rfl, rfl, h0, idL_length _ _, idL_nums _, idL_det _⟩, ?_⟩
  show (idL n.toNat n.toNat).length ≤ 600
  rw [idL_length]
  have : n.toNat * n.toNat ≤ 24 * 24 := Nat.mul_le_mul (by omega) (by omega)
  omega
theorem opM_len (k i j t r c : Int) (xs : List Int) (hl : xs.length ≤ 600) : (opM k i j t r c xs).zs.length ≤ 600 := by
  unfold opM MR.done
  split
  · split
    · show (opL k i.toNat j.toNat t c.toNat xs).length ≤ 600
      rw [opL_length]; exact hl
    · simp [MR.no]
  · simp [MR.no]
theorem opM_D (n i j t r c : Int) (xs : List Int) (h : MixP n r c xs) (hn : 1 < n) (hl : xs.length ≤ 600) : MixP n (opM 2 i j t r c xs).r (opM 2 i j t r c xs).c (opM 2 i j t r c xs).zs ∧ (opM 2 i j t r c xs).zs.length ≤ 600 := by
  refine ⟨?_, (opM_len 2 i j t r c xs hl)⟩
  rcases Bool.eq_false_or_eq_true (opM 2 i j t r c xs).ok with ho | ho
  · rcases h with ⟨rfl, rfl, h0, hz, hx, hd⟩ | ⟨rfl, rfl, rfl, -⟩
    · obtain ⟨N, rfl⟩ := Int.eq_ofNat_of_zero_le h0
      obtain ⟨ys, e, -, -, hy, ny, dy⟩ := opM_det ho
      rw [e]
      refine .inl ⟨rfl, rfl, h0, hy, ny, ?_⟩
      show det N (mxL N ys) = 1
      rw [dy]
      have hd : det N (mxL N xs) = 1 := hd
      rw [hd]; rfl
    · exfalso
      unfold opM at ho
      by_cases h1 : (isMat 0 0 [] && isOp 2 i j t 0) = true
      · simp only [Bool.and_eq_true] at h1
        have := isOp_says h1.2
        omega
      · rw [if_neg h1] at ho; exact absurd ho (by simp [MR.no])
  · have e : opM 2 i j t r c xs = MR.no := by
      unfold opM at ho ⊢
      split
      · rename_i h1
        rw [if_pos h1] at ho
        unfold MR.done at ho ⊢
        split
        · rename_i h2; rw [if_pos h2] at ho; exact absurd ho (by simp)
        · rfl
      · rfl
    rw [e]
    exact .inr ⟨rfl, rfl, rfl, hn⟩
theorem sOpD (n : Int) (h1 : 1 < n) (i j t r c : Int) (a : Option Addr) (m : Nat) (xs : List Int) (w : World) (h : Rd w a xs) (hn : xs.length ≤ 600) (hz : MixP n r c xs) (ha : Spot a) :
    Calls Try.prog 94 #[.agg #[.int .i64 r, .int .i64 c, .slice a xs.length m], .agg #[.int .i64 2, .int .i64 i, .int .i64 j, .int .i64 t]] w (fun e w' => ∃ (r' c' : Int) (q' : Option Addr) (qc' : Nat) (zs' : List Int) (ok : Bool), e = .returned (.tuple #[.agg #[.int .i64 r', .int .i64 c', .slice q' zs'.length qc'], .bool ok]) ∧ Own w.heap.size w' (.slice q' zs'.length qc') zs' ∧ (MixP n r' c' zs' ∧ zs'.length ≤ 600) ∧ Below w.heap.size w w') := by
  refine (sOp 2 i j t r c a m xs w h (by omega) ha).mono ?_
  rintro e w' ⟨v, rfl, own, hb⟩
  have hs := opM_D n i j t r c xs hz h1 hn
  obtain ⟨q, qc, rfl, -, -⟩ := own.form
  exact ⟨_, _, q, qc, _, _, rfl, own, hs, hb⟩
theorem lUnitX (n : Int) (w : World) : Calls Try.prog 93 #[.int .i64 n] w (fun e w' => ∃ (q : Option Addr) (qc : Nat), e = .returned (.agg #[.int .i64 (idM n).r, .int .i64 (idM n).c, .slice q (idM n).zs.length qc]) ∧ Own w.heap.size w' (.slice q (idM n).zs.length qc) (idM n).zs ∧ Below w.heap.size w w') := by
  obtain ⟨mr, hmr⟩ : ∃ mr, idM n = mr := ⟨_, rfl⟩
  rw [hmr]
  have MRH := Lib.hid hmr
  clear hmr
  go_enter Try.func93, Try.ntmps93
  go_wp2_with fail
  refine (sIdent n _).mono ?_
  rintro e w1 ⟨v, rfl, own, hb⟩
  rw [MRH.out] at own ⊢
  obtain ⟨q, qc, rfl, -, -⟩ := own.form
  have K2 : Hid (Blk3 w1 w.heap.size 26 (.int .i64 0) (.int .i64 0) (.slice none 0 0)) := (Blk3.at_ _ _ _ _ rfl).keep hb (by simp)
  have B : Hid (Below w.heap.size w w1) := ((Below.refl _ _).alloc (Nat.le_refl _) _).trans (hb.mono (by simp))
  have O := Lib.hid (own.le (show w.heap.size ≤ _ by simp))
  have OI : Hid (∀ x y z, Own w.heap.size ((((w1.alloc (.cells #[.int .i64 mr.r, .int .i64 mr.c, .slice q mr.zs.length qc] 26)).setCell ⟨w.heap.size, 0, none⟩ x).setCell ⟨w.heap.size, 1, none⟩ y).setCell ⟨w.heap.size, 2, none⟩ z) (.slice q mr.zs.length qc) mr.zs) := fun x y z => by
    rcases (own.old2 (.cells #[.int .i64 mr.r, .int .i64 mr.c, .slice q mr.zs.length qc] 26)) with h | ⟨g, cap, hv, hB, hi, hl, hc⟩
    · exact .inl h
    · have hB : w.heap.size + 1 ≤ g := by simpa using hB
      exact .inr ⟨g, cap, hv, by omega, ((hi.far (by show g ≠ w.heap.size; omega) _).far (by show g ≠ w.heap.size; omega) _).far (by show g ≠ w.heap.size; omega) _, hl, hc⟩
  clear own hb
  have K2 := Lib.hid (K2.out.old (.cells #[.int .i64 mr.r, .int .i64 mr.c, .slice q mr.zs.length qc] 26))
  obtain ⟨s0, s1, s2, f0, f1, f2⟩ := K2.out.all
  go_wp2_with fail
  obtain ⟨E0, E1, E2, -, -, -⟩ := (K2.out.set3 (.int .i64 mr.r) (.int .i64 mr.c) (.slice q mr.zs.length qc)).all
  refine bodyPost_ret (v := .agg #[.int .i64 mr.r, .int .i64 mr.c, .slice q mr.zs.length qc]) (by simp [results, Try.results93, go_sem, E0, E1, E2]) rfl ⟨q, qc, rfl, OI.out _ _ _, ?_⟩
  exact ((((B.out.alloc B.out.size _).setCell (Nat.le_refl _) _).setCell (Nat.le_refl _) _).setCell (Nat.le_refl _) _)
set_option maxRecDepth 100000 in
set_option maxHeartbeats 4000000 in
theorem lMixW (n : Int) (a : Option Addr) (len cap : Nat) (w : World) (hc : CodeIn w a len) (hn0 : 0 ≤ n) (hn6 : n ≤ 24) : Calls Try.prog 40 #[.slice a len cap, .int .i64 n] w (UniOf n w) := by
  have HC := Lib.hid hc
  have hl := hc.1
  clear hc
  unfold maxLen at hl
  go_enter Try.func40, Try.ntmps40
  go_wp2_with fail
  refine (lUnitX n _).mono ?_
  obtain ⟨hz, hlz⟩ := idM_D n hn0 hn6
  generalize (idM n).r = rA at hz ⊢
  generalize (idM n).c = cA at hz ⊢
  generalize (idM n).zs = zA at hz hlz ⊢
  rintro e w1 ⟨qA, qcA, rfl, own, hb⟩
  have K2 : Hid (Blk3 (w1.alloc (.cells #[.int .i64 rA, .int .i64 cA, .slice qA zA.length qcA] 26)) w.heap.size 26 (.int .i64 0) (.int .i64 0) (.slice none 0 0)) := ((Blk3.at_ _ _ _ _ rfl).keep hb (by simp)).old _
  have B : Hid (Below w.heap.size w (w1.alloc (.cells #[.int .i64 rA, .int .i64 cA, .slice qA zA.length qcA] 26))) := (((Below.refl _ _).alloc (Nat.le_refl _) _).trans (hb.mono (by simp))).alloc (by have := hb.size; simp at this; omega) _
  have K5 : Hid (Blk3 (w1.alloc (.cells #[.int .i64 rA, .int .i64 cA, .slice qA zA.length qcA] 26)) w1.heap.size 26 (.int .i64 rA) (.int .i64 cA) (.slice qA zA.length qcA)) := Blk3.at_ _ _ _ _ rfl
  have O := Lib.hid ((own.le (show w.heap.size + 1 ≤ _ by simp)).old2 (.cells #[.int .i64 rA, .int .i64 cA, .slice qA zA.length qcA] 26))
  have lw : w.heap.size < w1.heap.size := by have := hb.size; simp at this; omega
  have HZ := Lib.hid hz
  have HLZ := Lib.hid hlz
  clear own hb hz hlz
  go_wp2_with fail
  go_loopw [6, 7, 8, 9] (fun i _ _ _ wr => ∃ (j : Nat) (r c : Int) (q : Option Addr) (qc : Nat) (zs : List Int), i = .int .i64 j ∧ j ≤ 6 ∧ Blk3 wr w.heap.size 26 (.int .i64 0) (.int .i64 0) (.slice none 0 0) ∧ Blk3 wr w1.heap.size 26 (.int .i64 r) (.int .i64 c) (.slice q zs.length qc) ∧ Own (w.heap.size + 1) wr (.slice q zs.length qc) zs ∧ MixP n r c zs ∧ zs.length ≤ 600 ∧ Below w.heap.size w wr) (fun i _ _ _ _ => 6 - (intOf i).toNat)
  case atStart => exact ⟨0, rA, cA, qA, qcA, zA, rfl, by omega, K2.out, K5.out, O.out, HZ.out, HLZ.out, B.out⟩
  case round =>
    clear K2 K5 O HZ HLZ B
    obtain ⟨j, r, c, q, qc, zs, rfl, hj, hk2, hk5, ho, hz, hlz, hb⟩ := hrel
    have K2 := Lib.hid hk2
    have K5 := Lib.hid hk5
    have O := Lib.hid ho
    have HZ := Lib.hid hz
    have HLZ := Lib.hid hlz
    have B := Lib.hid hb
    have l2 := hk2.lt
    have l5 := hk5.lt
    clear hk2 hk5 ho hz hlz hb
    obtain ⟨x0, x1, x2, x3, x4, x5⟩ := K5.out.all
    obtain ⟨s0, s1, s2, f0, f1, f2⟩ := K2.out.all
    have ending : ∀ y0 y1 y2, y0 = Value.int .i64 r → y1 = Value.int .i64 c → y2 = Value.slice q zs.length qc → UniOf n w (.returned (.agg #[y0, y1, y2])) (((wr.setCell ⟨w.heap.size, 0, none⟩ (.int .i64 r)).setCell ⟨w.heap.size, 1, none⟩ (.int .i64 c)).setCell ⟨w.heap.size, 2, none⟩ (.slice q zs.length qc)) := by
      rintro _ _ _ rfl rfl rfl
      refine ⟨r, c, q, qc, zs, rfl, ?_, HZ.out, HLZ.out, ((B.out.setCell (Nat.le_refl _) _).setCell (Nat.le_refl _) _).setCell (Nat.le_refl _) _⟩
      rcases O.out with h | ⟨g, cap, hv, hB, hi, hl, hc⟩
      · exact .inl h
      · exact .inr ⟨g, cap, hv, by omega, ((hi.far (by show g ≠ w.heap.size; omega) _).far (by show g ≠ w.heap.size; omega) _).far (by show g ≠ w.heap.size; omega) _, hl, hc⟩
    have EN := Lib.hid ending
    clear ending
    obtain ⟨E0, E1, E2, -, -, -⟩ := (K2.out.set3 (.int .i64 r) (.int .i64 c) (.slice q zs.length qc)).all
    have EE0 := Lib.hid E0
    have EE1 := Lib.hid E1
    have EE2 := Lib.hid E2
    clear E0 E1 E2
    by_cases h1 : j < len
    · by_cases h2 : j < 6
      · by_cases h3 : 1 < n
        · obtain ⟨b, o, z, ha, hx, z0, z1⟩ := (HC.out.below B.out).2 j h1
          subst ha
          have g1 : (j : Int) < 6 := by omega
          have g2 : ¬ n = 0 := by omega
          have g3 : (n == 0) = false := by simpa using g2
          have g4 : IntKind.i64.wrap (n - 1) = n - 1 := IntWalk.i64_in _ (by omega)
          have g5 : ¬ n - 1 = 0 := by omega
          have g6 : (n - 1 == 0) = false := by simpa using g5
          go_wp2_with fail
          refine wp_region_held_drew (S := fun w' => Below wr.heap.size wr w') (by kernel_rfl) (Below.refl _ _).drew (fun hH => ?_)
          refine wpAnyH_take (i := 0) (v := ?_) (by simp only [List.getElem?_toArray, List.getElem?_cons_zero]; rfl) (by kernel_rfl) (by kernel_rfl) (by kernel_rfl) (by exact fun _ _ _ h => h) (Or.inl ⟨by rfl, ?_⟩) hH ?_
          rotate_left
          · (intro wS hS; (try dsimp only at hS); obtain ⟨k1, k2, k3, k4⟩ := fourF K5.out hx hS; go_simp; try rfl)
          try simp only [Act.put, List.setIfInBounds_toArray, List.set_cons_zero, List.set_cons_succ]
          refine wpAnyH_take (i := 1) (v := ?_) (by simp only [List.getElem?_toArray, List.getElem?_cons_succ, List.getElem?_cons_zero]; rfl) (by kernel_rfl) (by kernel_rfl) (by kernel_rfl) (by exact fun _ _ _ h => h) (Or.inl ⟨by rfl, ?_⟩) hH ?_
          rotate_left
          · (intro wS hS; (try dsimp only at hS); obtain ⟨k1, k2, k3, k4⟩ := fourF K5.out hx hS; go_simp; try rfl)
          try simp only [Act.put, List.setIfInBounds_toArray, List.set_cons_zero, List.set_cons_succ]
          refine wpAnyH_take (i := 2) (v := ?_) (by simp only [List.getElem?_toArray, List.getElem?_cons_succ, List.getElem?_cons_zero]; rfl) (by kernel_rfl) (by kernel_rfl) (by kernel_rfl) (by exact fun _ _ _ h => h) (Or.inl ⟨by rfl, ?_⟩) hH ?_
          rotate_left
          · (intro wS hS; (try dsimp only at hS); obtain ⟨k1, k2, k3, k4⟩ := fourF K5.out hx hS; go_simp; try rfl)
          try simp only [Act.put, List.setIfInBounds_toArray, List.set_cons_zero, List.set_cons_succ]
          refine wpAnyH_take (i := 3) (v := ?_) (by simp only [List.getElem?_toArray, List.getElem?_cons_succ, List.getElem?_cons_zero]; rfl) (by kernel_rfl) (by kernel_rfl) (by kernel_rfl) (by exact fun _ _ _ h => h) (Or.inl ⟨by rfl, ?_⟩) hH ?_
          rotate_left
          · (intro wS hS; (try dsimp only at hS); obtain ⟨k1, k2, k3, k4⟩ := fourF K5.out hx hS; go_simp; try rfl)
          try simp only [Act.put, List.setIfInBounds_toArray, List.set_cons_zero, List.set_cons_succ]
          refine wpAnyH_take (i := 4) (v := ?_) (by simp only [List.getElem?_toArray, List.getElem?_cons_succ, List.getElem?_cons_zero]; rfl) (by kernel_rfl) (by kernel_rfl) (by kernel_rfl) (by exact fun _ _ _ h => h) (Or.inl ⟨by rfl, ?_⟩) hH ?_
          rotate_left
          · (intro wS hS; (try dsimp only at hS); obtain ⟨k1, k2, k3, k4⟩ := fourF K5.out hx hS; go_simp; try rfl)
          try simp only [Act.put, List.setIfInBounds_toArray, List.set_cons_zero, List.set_cons_succ]
          refine wpAnyH_take (i := 5) (v := ?_) (by simp only [List.getElem?_toArray, List.getElem?_cons_succ, List.getElem?_cons_zero]; rfl) (by kernel_rfl) (by kernel_rfl) (by kernel_rfl) (by exact fun _ _ _ h => h) (Or.inl ⟨by rfl, ?_⟩) hH ?_
          rotate_left
          · (intro wS hS; (try dsimp only at hS); obtain ⟨k1, k2, k3, k4⟩ := fourF K5.out hx hS; go_simp; try rfl)
          try simp only [Act.put, List.setIfInBounds_toArray, List.set_cons_zero, List.set_cons_succ]
          refine wpAnyH_take (i := 6) (v := ?_) (by simp only [List.getElem?_toArray, List.getElem?_cons_succ, List.getElem?_cons_zero]; rfl) (by kernel_rfl) (by kernel_rfl) (by kernel_rfl) (by exact fun _ _ _ h => h) (Or.inl ⟨by rfl, ?_⟩) hH ?_
          rotate_left
          · (intro wS hS; (try dsimp only at hS); obtain ⟨k1, k2, k3, k4⟩ := fourF K5.out hx hS; go_simp; try rfl)
          try simp only [Act.put, List.setIfInBounds_toArray, List.set_cons_zero, List.set_cons_succ]
          refine wpAnyH_take (i := 7) (v := ?_) (by simp only [List.getElem?_toArray, List.getElem?_cons_succ, List.getElem?_cons_zero]; rfl) (by kernel_rfl) (by kernel_rfl) (by kernel_rfl) (by exact fun _ _ _ h => h) (Or.inl ⟨by rfl, ?_⟩) hH ?_
          rotate_left
          · (intro wS hS; (try dsimp only at hS); obtain ⟨k1, k2, k3, k4⟩ := fourF K5.out hx hS; go_simp; try rfl)
          try simp only [Act.put, List.setIfInBounds_toArray, List.set_cons_zero, List.set_cons_succ]
          refine wpAnyH_take (i := 8) (v := ?_) (by simp only [List.getElem?_toArray, List.getElem?_cons_succ, List.getElem?_cons_zero]; rfl) (by kernel_rfl) (by kernel_rfl) (by kernel_rfl) (by exact fun _ _ _ h => h) (Or.inl ⟨by rfl, ?_⟩) hH ?_
          rotate_left
          · (intro wS hS; (try dsimp only at hS); obtain ⟨k1, k2, k3, k4⟩ := fourF K5.out hx hS; go_simp; try rfl)
          try simp only [Act.put, List.setIfInBounds_toArray, List.set_cons_zero, List.set_cons_succ]
          refine wpAnyH_take (i := 9) (v := ?_) (by simp only [List.getElem?_toArray, List.getElem?_cons_succ, List.getElem?_cons_zero]; rfl) (by kernel_rfl) (by kernel_rfl) (by kernel_rfl) (by exact fun _ _ _ h => h) (Or.inl ⟨by rfl, ?_⟩) hH ?_
          rotate_left
          · (intro wS hS; (try dsimp only at hS); obtain ⟨k1, k2, k3, k4⟩ := fourF K5.out hx hS; go_simp; try rfl)
          try simp only [Act.put, List.setIfInBounds_toArray, List.set_cons_zero, List.set_cons_succ]
          refine wpAnyH_take (i := 10) (v := ?_) (by simp only [List.getElem?_toArray, List.getElem?_cons_succ, List.getElem?_cons_zero]; rfl) (by kernel_rfl) (by kernel_rfl) (by kernel_rfl) (by exact fun _ _ _ h => h) (Or.inl ⟨by rfl, ?_⟩) hH ?_
          rotate_left
          · (intro wS hS; (try dsimp only at hS); obtain ⟨k1, k2, k3, k4⟩ := fourF K5.out hx hS; go_simp; try rfl)
          try simp only [Act.put, List.setIfInBounds_toArray, List.set_cons_zero, List.set_cons_succ]
          refine wpAnyH_take (i := 11) (v := ?_) (by simp only [List.getElem?_toArray, List.getElem?_cons_succ, List.getElem?_cons_zero]; rfl) (by kernel_rfl) (by kernel_rfl) (by kernel_rfl) (by exact fun _ _ _ h => h) (Or.inl ⟨by rfl, ?_⟩) hH ?_
          rotate_left
          · (intro wS hS; (try dsimp only at hS); obtain ⟨k1, k2, k3, k4⟩ := fourF K5.out hx hS; go_simp; try rfl)
          try simp only [Act.put, List.setIfInBounds_toArray, List.set_cons_zero, List.set_cons_succ]
          refine wpAnyH_take (i := 12) (v := ?_) (by simp only [List.getElem?_toArray, List.getElem?_cons_succ, List.getElem?_cons_zero]; rfl) (by kernel_rfl) (by kernel_rfl) (by kernel_rfl) (by exact fun _ _ _ h => h) (Or.inl ⟨by rfl, ?_⟩) hH ?_
          rotate_left
          · (intro wS hS; (try dsimp only at hS); obtain ⟨k1, k2, k3, k4⟩ := fourF K5.out hx hS; go_simp; try rfl)
          try simp only [Act.put, List.setIfInBounds_toArray, List.set_cons_zero, List.set_cons_succ]
          refine wpAnyH_take (i := 13) (v := ?_) (by simp only [List.getElem?_toArray, List.getElem?_cons_succ, List.getElem?_cons_zero]; rfl) (by kernel_rfl) (by kernel_rfl) (by kernel_rfl) (by exact fun _ _ _ h => h) (Or.inl ⟨by rfl, ?_⟩) hH ?_
          rotate_left
          · (intro wS hS; (try dsimp only at hS); obtain ⟨k1, k2, k3, k4⟩ := fourF K5.out hx hS; go_simp; try rfl)
          try simp only [Act.put, List.setIfInBounds_toArray, List.set_cons_zero, List.set_cons_succ]
          refine wpAnyH_take (i := 14) (v := ?_) (by simp only [List.getElem?_toArray, List.getElem?_cons_succ, List.getElem?_cons_zero]; rfl) (by kernel_rfl) (by kernel_rfl) (by kernel_rfl) (by exact fun _ _ _ h => h) (Or.inl ⟨by rfl, ?_⟩) hH ?_
          rotate_left
          · (intro wS hS; (try dsimp only at hS); obtain ⟨k1, k2, k3, k4⟩ := fourF K5.out hx hS; go_simp; try rfl)
          try simp only [Act.put, List.setIfInBounds_toArray, List.set_cons_zero, List.set_cons_succ]
          refine wpAnyH_take (i := 15) (v := ?_) (by simp only [List.getElem?_toArray, List.getElem?_cons_succ, List.getElem?_cons_zero]; rfl) (by kernel_rfl) (by kernel_rfl) (by kernel_rfl) (by exact fun _ _ _ h => h) (Or.inl ⟨by rfl, ?_⟩) hH ?_
          rotate_left
          · (intro wS hS; (try dsimp only at hS); obtain ⟨k1, k2, k3, k4⟩ := fourF K5.out hx hS; go_simp; try rfl)
          try simp only [Act.put, List.setIfInBounds_toArray, List.set_cons_zero, List.set_cons_succ]
          refine wpAnyH_take (i := 16) (v := ?_) (by simp only [List.getElem?_toArray, List.getElem?_cons_succ, List.getElem?_cons_zero]; rfl) (by kernel_rfl) (by kernel_rfl) (by kernel_rfl) (by exact fun _ _ _ h => h) (Or.inl ⟨by rfl, ?_⟩) hH ?_
          rotate_left
          · (intro wS hS; (try dsimp only at hS); obtain ⟨k1, k2, k3, k4⟩ := fourF K5.out hx hS; go_simp; try rfl)
          try simp only [Act.put, List.setIfInBounds_toArray, List.set_cons_zero, List.set_cons_succ]
          refine wpAnyH_take (i := 17) (v := ?_) (by simp only [List.getElem?_toArray, List.getElem?_cons_succ, List.getElem?_cons_zero]; rfl) (by kernel_rfl) (by kernel_rfl) (by kernel_rfl) (by exact fun _ _ _ h => h) (Or.inl ⟨by rfl, ?_⟩) hH ?_
          rotate_left
          · (intro wS hS; (try dsimp only at hS); obtain ⟨k1, k2, k3, k4⟩ := fourF K5.out hx hS; go_simp; try rfl)
          try simp only [Act.put, List.setIfInBounds_toArray, List.set_cons_zero, List.set_cons_succ]
          refine wpAnyH_take (i := 18) (v := ?_) (by simp only [List.getElem?_toArray, List.getElem?_cons_succ, List.getElem?_cons_zero]; rfl) (by kernel_rfl) (by kernel_rfl) (by kernel_rfl) (by exact fun _ _ _ h => h) (Or.inl ⟨by rfl, ?_⟩) hH ?_
          rotate_left
          · (intro wS hS; (try dsimp only at hS); obtain ⟨k1, k2, k3, k4⟩ := fourF K5.out hx hS; go_simp; try rfl)
          try simp only [Act.put, List.setIfInBounds_toArray, List.set_cons_zero, List.set_cons_succ]
          refine wpAnyH_take (i := 19) (v := ?_) (by simp only [List.getElem?_toArray, List.getElem?_cons_succ, List.getElem?_cons_zero]; rfl) (by kernel_rfl) (by kernel_rfl) (by kernel_rfl) (by exact fun _ _ _ h => h) (Or.inl ⟨by rfl, ?_⟩) hH ?_
          rotate_left
          · (intro wS hS; (try dsimp only at hS); obtain ⟨k1, k2, k3, k4⟩ := fourF K5.out hx hS; go_simp; try rfl)
          try simp only [Act.put, List.setIfInBounds_toArray, List.set_cons_zero, List.set_cons_succ]
          refine wpAnyH_take (i := 20) (v := ?_) (by simp only [List.getElem?_toArray, List.getElem?_cons_succ, List.getElem?_cons_zero]; rfl) (by kernel_rfl) (by kernel_rfl) (by kernel_rfl) (by exact fun _ _ _ h => h) (Or.inl ⟨by rfl, ?_⟩) hH ?_
          rotate_left
          · (intro wS hS; (try dsimp only at hS); obtain ⟨k1, k2, k3, k4⟩ := fourF K5.out hx hS; go_simp; try rfl)
          try simp only [Act.put, List.setIfInBounds_toArray, List.set_cons_zero, List.set_cons_succ]
          refine wpAnyH_take (i := 21) (v := ?_) (by simp only [List.getElem?_toArray, List.getElem?_cons_succ, List.getElem?_cons_zero]; rfl) (by kernel_rfl) (by kernel_rfl) (by kernel_rfl) (by exact fun _ _ _ h => h) (Or.inl ⟨by rfl, ?_⟩) hH ?_
          rotate_left
          · (intro wS hS; (try dsimp only at hS); obtain ⟨k1, k2, k3, k4⟩ := fourF K5.out hx hS; go_simp; try rfl)
          try simp only [Act.put, List.setIfInBounds_toArray, List.set_cons_zero, List.set_cons_succ]
          refine wpAnyH_take (i := 22) (v := ?_) (by simp only [List.getElem?_toArray, List.getElem?_cons_succ, List.getElem?_cons_zero]; rfl) (by kernel_rfl) (by kernel_rfl) (by kernel_rfl) (by exact fun _ _ _ h => h) (Or.inl ⟨by rfl, ?_⟩) hH ?_
          rotate_left
          · (intro wS hS; (try dsimp only at hS); obtain ⟨k1, k2, k3, k4⟩ := fourF K5.out hx hS; go_simp; try rfl)
          try simp only [Act.put, List.setIfInBounds_toArray, List.set_cons_zero, List.set_cons_succ]
          refine wpAnyH_take (i := 23) (v := ?_) (by simp only [List.getElem?_toArray, List.getElem?_cons_succ, List.getElem?_cons_zero]; rfl) (by kernel_rfl) (by kernel_rfl) (by kernel_rfl) (by exact fun _ _ _ h => h) (Or.inl ⟨by rfl, ?_⟩) hH ?_
          rotate_left
          · (intro wS hS; (try dsimp only at hS); obtain ⟨k1, k2, k3, k4⟩ := fourF K5.out hx hS; go_simp; try rfl)
          try simp only [Act.put, List.setIfInBounds_toArray, List.set_cons_zero, List.set_cons_succ]
          refine wpAnyH_take (i := 24) (v := ?_) (by simp only [List.getElem?_toArray, List.getElem?_cons_succ, List.getElem?_cons_zero]; rfl) (by kernel_rfl) (by kernel_rfl) (by kernel_rfl) (by exact fun _ _ _ h => h) (Or.inl ⟨by rfl, ?_⟩) hH ?_
          rotate_left
          · (intro wS hS; (try dsimp only at hS); obtain ⟨k1, k2, k3, k4⟩ := fourF K5.out hx hS; go_simp; try rfl)
          try simp only [Act.put, List.setIfInBounds_toArray, List.set_cons_zero, List.set_cons_succ]
          refine wpAnyH_ready (rs := [25, 29]) (by kernel_rfl) (by simp) ?_
          refine AllReadyH.cons (by simp only [List.getElem?_toArray, List.getElem?_cons_succ, List.getElem?_cons_zero]; rfl) (fun K hK => ?_) (AllReadyH.cons (by simp only [List.getElem?_toArray, List.getElem?_cons_succ, List.getElem?_cons_zero]; rfl) (fun K hK => ?_) AllReadyH.nil)
          · go_simp
            have hs1 := hH.size
            (with_reducible refine (sOpD n h3 _ _ _ r c q qc zs _ (O.out.rd2.below hH) HLZ.out HZ.out O.out.spot2).mono ?_)
            rintro e v1 ⟨r', c', q', qc', zs', ok, rfl, own, hs, hb1⟩
            have OW := Lib.hid own.inn
            have HS := Lib.hid hs
            clear own hs
            try dsimp only
            refine hK.out _ _ ?_ (fun hH2 => ?_)
            · exact hH.trans (hb1.mono hH.size)
            clear hK K
            have hO := hH
            clear hH
            have hH := hH2
            clear hH2
            try simp only [Act.put, List.setIfInBounds_toArray, List.set_cons_zero, List.set_cons_succ]
            have z1 := hb1.size
            refine wpAnyH_take (i := 26) (v := ?_) (by simp only [List.getElem?_toArray, List.getElem?_cons_succ, List.getElem?_cons_zero]; rfl) (by kernel_rfl) (by kernel_rfl) (by kernel_rfl) (by exact fun _ _ _ h => h) (Or.inl ⟨by rfl, ?_⟩) hH ?_
            rotate_left
            · (intro wS hS; clear hS; go_simp; try rfl)
            try simp only [Act.put, List.setIfInBounds_toArray, List.set_cons_zero, List.set_cons_succ]
            refine wpAnyH_take (i := 27) (v := ?_) (by simp only [List.getElem?_toArray, List.getElem?_cons_succ, List.getElem?_cons_zero]; rfl) (by kernel_rfl) (by kernel_rfl) (by kernel_rfl) (by exact fun _ _ _ h => h) (Or.inl ⟨by rfl, ?_⟩) hH ?_
            rotate_left
            · (intro wS hS; clear hS; go_simp; try rfl)
            try simp only [Act.put, List.setIfInBounds_toArray, List.set_cons_zero, List.set_cons_succ]
            refine wpAnyH_take (i := 28) (v := ?_) (by simp only [List.getElem?_toArray, List.getElem?_cons_succ, List.getElem?_cons_zero]; rfl) (by kernel_rfl) (by kernel_rfl) (by kernel_rfl) (by exact fun _ _ _ h => h) (Or.inl ⟨by rfl, ?_⟩) hH ?_
            rotate_left
            · (intro wS hS; clear hS; go_simp; try rfl)
            try simp only [Act.put, List.setIfInBounds_toArray, List.set_cons_zero, List.set_cons_succ]
            refine wpAnyH_ready (rs := [29]) (by kernel_rfl) (by simp) ?_
            refine AllReadyH.cons (by simp only [List.getElem?_toArray, List.getElem?_cons_succ, List.getElem?_cons_zero]; rfl) (fun K hK => ?_) AllReadyH.nil
            go_simp
            have VB : Hid (Blk3 (v1.alloc (.cells #[.int .i64 0, .int .i64 0, .slice none 0 0] 26)) v1.heap.size 26 (.int .i64 0) (.int .i64 0) (.slice none 0 0)) := Blk3.at_ _ _ _ _ rfl
            have PL : wr.heap.size ≤ v1.heap.size := hH.size
            try dsimp only
            refine hK.out _ _ ?_ (fun hH2 => ?_)
            · exact hH.alloc hH.size _
            clear hK K
            have hO := hH
            clear hH
            have hH := hH2
            clear hH2
            try simp only [Act.put, List.setIfInBounds_toArray, List.set_cons_zero, List.set_cons_succ]
            refine wpAnyH_ready (rs := [30]) (by kernel_rfl) (by simp) ?_
            refine AllReadyH.cons (by simp only [List.getElem?_toArray, List.getElem?_cons_succ, List.getElem?_cons_zero]; rfl) (fun K hK => ?_) AllReadyH.nil
            go_simp
            have VB : Hid (Blk3 (v1.alloc (.cells #[(.int .i64 r'), (.int .i64 c'), (.slice q' zs'.length qc')] 26)) v1.heap.size 26 ((.int .i64 r')) ((.int .i64 c')) ((.slice q' zs'.length qc'))) := Blk3.at_ _ _ _ _ rfl
            try dsimp only
            refine hK.out _ _ ?_ (fun hH2 => ?_)
            · exact hO.alloc hO.size _
            clear hK K
            have hO := hH
            clear hH
            have hH := hH2
            clear hH2
            try simp only [Act.put, List.setIfInBounds_toArray, List.set_cons_zero, List.set_cons_succ]
            refine wpAnyH_take (i := 31) (v := ?_) (by simp only [List.getElem?_toArray, List.getElem?_cons_succ, List.getElem?_cons_zero]; rfl) (by kernel_rfl) (by kernel_rfl) (by kernel_rfl) (by exact fun _ _ _ h => h) (Or.inl ⟨by rfl, ?_⟩) hH ?_
            rotate_left
            · (intro wS hS; clear hS; go_simp; try rfl)
            try simp only [Act.put, List.setIfInBounds_toArray, List.set_cons_zero, List.set_cons_succ]
            refine wpAnyH_done (by kernel_rfl) ?_ _
            have K5n := Lib.hid (K5.out.keep hH l5)
            have K2n := Lib.hid (K2.out.keep hH l2)
            have IW := Lib.hid ((OW.out.old (.cells #[.int .i64 r', .int .i64 c', .slice q' zs'.length qc'] 26)).wide hs1 (Nat.le_refl _)).own
            have B9 := Lib.hid (B.out.trans (hH.mono B.out.size))
            have BS := B.out.size
            obtain ⟨vb0, vb1, vb2, -, -, -⟩ := VB.out.all
            obtain ⟨kb0, kb1, kb2, kb3, kb4, kb5⟩ := K5n.out.all
            have lvb := VB.out.lt
            have lkb := K5n.out.lt
            clear hH hO
            go_wp2_with fail
            go_roundw
            case rel =>
              refine ⟨j + 1, r', c', q', qc', zs', by go_num, by omega, K2n.out.far3 (by omega) _ _ _, K5n.out.set3 _ _ _, ?_, HS.out.1, HS.out.2, ?_⟩
              · exact (((IW.out.far2 (by exact l5) _).far2 (by exact l5) _).far2 (by exact l5) _).le (by omega)
              · exact ((B9.out.setCell (by show w.heap.size ≤ w1.heap.size; omega) _).setCell (by show w.heap.size ≤ w1.heap.size; omega) _).setCell (by show w.heap.size ≤ w1.heap.size; omega) _
            case measure => simp [intOf]; omega
          · go_simp
            have VB : Hid (Blk3 (wr.drew.alloc (.cells #[.int .i64 0, .int .i64 0, .slice none 0 0] 26)) wr.heap.size 26 (.int .i64 0) (.int .i64 0) (.slice none 0 0)) := Blk3.at_ _ _ _ _ rfl
            have PL : wr.heap.size ≤ wr.drew.heap.size := hH.size
            try dsimp only
            refine hK.out _ _ ?_ (fun hH2 => ?_)
            · exact hH.alloc hH.size _
            clear hK K
            have hO := hH
            clear hH
            have hH := hH2
            clear hH2
            try simp only [Act.put, List.setIfInBounds_toArray, List.set_cons_zero, List.set_cons_succ]
            refine wpAnyH_ready (rs := [25]) (by kernel_rfl) (by simp) ?_
            refine AllReadyH.cons (by simp only [List.getElem?_toArray, List.getElem?_cons_succ, List.getElem?_cons_zero]; rfl) (fun K hK => ?_) AllReadyH.nil
            go_simp
            have hs1 := hH.size
            have lb1 := VB.out.lt
            (with_reducible refine (sOpD n h3 _ _ _ r c q qc zs _ (O.out.rd2.below hH) HLZ.out HZ.out O.out.spot2).mono ?_)
            rintro e v1 ⟨r', c', q', qc', zs', ok, rfl, own, hs, hb1⟩
            have OW := Lib.hid own.inn
            have HS := Lib.hid hs
            clear own hs
            have VB := Lib.hid (VB.out.keep hb1 VB.out.lt)
            try dsimp only
            refine hK.out _ _ ?_ (fun hH2 => ?_)
            · exact hH.trans (hb1.mono hH.size)
            clear hK K
            have hO := hH
            clear hH
            have hH := hH2
            clear hH2
            try simp only [Act.put, List.setIfInBounds_toArray, List.set_cons_zero, List.set_cons_succ]
            have z1 := hb1.size
            refine wpAnyH_take (i := 26) (v := ?_) (by simp only [List.getElem?_toArray, List.getElem?_cons_succ, List.getElem?_cons_zero]; rfl) (by kernel_rfl) (by kernel_rfl) (by kernel_rfl) (by exact fun _ _ _ h => h) (Or.inl ⟨by rfl, ?_⟩) hH ?_
            rotate_left
            · (intro wS hS; clear hS; go_simp; try rfl)
            try simp only [Act.put, List.setIfInBounds_toArray, List.set_cons_zero, List.set_cons_succ]
            refine wpAnyH_take (i := 27) (v := ?_) (by simp only [List.getElem?_toArray, List.getElem?_cons_succ, List.getElem?_cons_zero]; rfl) (by kernel_rfl) (by kernel_rfl) (by kernel_rfl) (by exact fun _ _ _ h => h) (Or.inl ⟨by rfl, ?_⟩) hH ?_
            rotate_left
            · (intro wS hS; clear hS; go_simp; try rfl)
            try simp only [Act.put, List.setIfInBounds_toArray, List.set_cons_zero, List.set_cons_succ]
            refine wpAnyH_take (i := 28) (v := ?_) (by simp only [List.getElem?_toArray, List.getElem?_cons_succ, List.getElem?_cons_zero]; rfl) (by kernel_rfl) (by kernel_rfl) (by kernel_rfl) (by exact fun _ _ _ h => h) (Or.inl ⟨by rfl, ?_⟩) hH ?_
            rotate_left
            · (intro wS hS; clear hS; go_simp; try rfl)
            try simp only [Act.put, List.setIfInBounds_toArray, List.set_cons_zero, List.set_cons_succ]
            refine wpAnyH_ready (rs := [30]) (by kernel_rfl) (by simp) ?_
            refine AllReadyH.cons (by simp only [List.getElem?_toArray, List.getElem?_cons_succ, List.getElem?_cons_zero]; rfl) (fun K hK => ?_) AllReadyH.nil
            have VC := VB
            obtain ⟨y0, y1, y2, y3, y4, y5⟩ := VB.out.all
            go_simp
            have VB := Lib.hid (((VB.out.set0 ((.int .i64 r'))).set1 ((.int .i64 c'))).set2 ((.slice q' zs'.length qc')))
            try dsimp only
            refine hK.out _ _ ?_ (fun hH2 => ?_)
            · exact (((hH.setCell PL _).setCell PL _).setCell PL _)
            clear hK K
            have hO := hH
            clear hH
            have hH := hH2
            clear hH2
            try simp only [Act.put, List.setIfInBounds_toArray, List.set_cons_zero, List.set_cons_succ]
            refine wpAnyH_take (i := 31) (v := ?_) (by simp only [List.getElem?_toArray, List.getElem?_cons_succ, List.getElem?_cons_zero]; rfl) (by kernel_rfl) (by kernel_rfl) (by kernel_rfl) (by exact fun _ _ _ h => h) (Or.inl ⟨by rfl, ?_⟩) hH ?_
            rotate_left
            · (intro wS hS; clear hS; go_simp; try rfl)
            try simp only [Act.put, List.setIfInBounds_toArray, List.set_cons_zero, List.set_cons_succ]
            refine wpAnyH_done (by kernel_rfl) ?_ _
            have K5n := Lib.hid (K5.out.keep hH l5)
            have K2n := Lib.hid (K2.out.keep hH l2)
            have IW := Lib.hid ((((OW.out.far (a := ⟨wr.heap.size, 0, none⟩) (.inl (by simp)) (.int .i64 r')).far (a := ⟨wr.heap.size, 1, none⟩) (.inl (by simp)) (.int .i64 c')).far (a := ⟨wr.heap.size, 2, none⟩) (.inl (by simp)) (.slice q' zs'.length qc')).wide hs1 (Nat.le_refl _)).own
            have B9 := Lib.hid (B.out.trans (hH.mono B.out.size))
            have BS := B.out.size
            obtain ⟨vb0, vb1, vb2, -, -, -⟩ := VB.out.all
            obtain ⟨kb0, kb1, kb2, kb3, kb4, kb5⟩ := K5n.out.all
            have lvb := VB.out.lt
            have lkb := K5n.out.lt
            clear hH hO
            go_wp2_with fail
            go_roundw
            case rel =>
              refine ⟨j + 1, r', c', q', qc', zs', by go_num, by omega, K2n.out.far3 (by omega) _ _ _, K5n.out.set3 _ _ _, ?_, HS.out.1, HS.out.2, ?_⟩
              · exact (((IW.out.far2 (by exact l5) _).far2 (by exact l5) _).far2 (by exact l5) _).le (by omega)
              · exact ((B9.out.setCell (by show w.heap.size ≤ w1.heap.size; omega) _).setCell (by show w.heap.size ≤ w1.heap.size; omega) _).setCell (by show w.heap.size ≤ w1.heap.size; omega) _
            case measure => simp [intOf]; omega
        · have g1 : (j : Int) < 6 := by omega
          have g2 : decide (1 < n) = false := by simpa using h3
          have g3 : decide (n > 1) = false := by simpa using h3
          go_wp2_with fail
          exact bodyPost_ret (v := .agg #[.int .i64 r, .int .i64 c, .slice q zs.length qc]) (by simp [results, Try.results40, go_sem, EE0.out, EE1.out, EE2.out]) rfl (EN.out _ _ _ rfl rfl rfl)
      · have g1 : decide ((j : Int) < 6) = false := by simp; omega
        clear h2
        go_wp2_with fail
        exact bodyPost_ret (v := .agg #[.int .i64 r, .int .i64 c, .slice q zs.length qc]) (by simp [results, Try.results40, go_sem, EE0.out, EE1.out, EE2.out]) rfl (EN.out _ _ _ rfl rfl rfl)
    · have g1 : decide (j < len) = false := by simpa using h1
      go_wp2_with fail
      exact bodyPost_ret (v := .agg #[.int .i64 r, .int .i64 c, .slice q zs.length qc]) (by simp [results, Try.results40, go_sem, EE0.out, EE1.out, EE2.out]) rfl (EN.out _ _ _ rfl rfl rfl)
end Go.Proofs.Ytpelnfenfeoeeaa
end

section
/-
  What a call has built by append, whatever it is of.
-/
namespace Go.Proofs.Ytpelnfenfeoeeaa
open Go.RowKit
theorem ownB_ge2 {w : World} {base n k : Nat} {e : TypeId} {size : Nat} {v : Value} {xs : List Value} (h : w.ownsRow base e size v n xs) (hk : v.ownBlock = some k) : base ≤ k := (h.lt k hk).1
theorem rows_far {w : World} {base n : Nat} {e : TypeId} {size : Nat} {v : Value} {xs : List Value} (h : w.ownsRow base e size v n xs) {a : Addr} (ha : a.block < base) (u : Value) : (w.setCell a u).ownsRow base e size v n xs := by
  obtain ⟨h1, ⟨h2, h3⟩ | ⟨g, cap, cur, e, hB, hg, rest⟩⟩ := h
  · exact ⟨h1, .inl ⟨h2, h3⟩⟩
  · exact ⟨h1, .inr ⟨g, cap, cur, e, hB, (Below.heap_setCell w a u g (by omega)).trans hg, rest⟩⟩
theorem rows_keep {w w' : World} {base n : Nat} {e : TypeId} {size : Nat} {v : Value} {xs : List Value} (h : w.ownsRow base e size v n xs) (hb : Below w.heap.size w w') : w'.ownsRow base e size v n xs := by
  obtain ⟨h1, ⟨h2, h3⟩ | ⟨g, cap, cur, e, hB, hg, rest⟩⟩ := h
  · exact ⟨h1, .inl ⟨h2, h3⟩⟩
  · exact ⟨h1, .inr ⟨g, cap, cur, e, hB, (hb.block g (lt_of_block hg)).trans hg, rest⟩⟩
theorem rows_form {w : World} {base n : Nat} {e : TypeId} {size : Nat} {v : Value} {xs : List Value} (h : w.ownsRow base e size v n xs) : ∃ a m c, v = .slice a m c := by
  obtain ⟨h1, ⟨h2, h3⟩ | ⟨g, cap, cur, e, hB, hg, rest⟩⟩ := h
  · exact ⟨_, _, _, h2⟩
  · exact ⟨_, _, _, e⟩
end Go.Proofs.Ytpelnfenfeoeeaa
end
