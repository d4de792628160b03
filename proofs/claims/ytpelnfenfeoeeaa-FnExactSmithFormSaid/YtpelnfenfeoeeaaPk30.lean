/-
  Texts of this seat, joined: ZASmX · ZAAcD · ZANumIDiv · ZAAcX · ZATsB · ZATsQ · ZALsI · ZALcI · ZAClO · ZATsR
-/
import Derived.Test.YtpelnfenfeoeeaaRows
import Derived.WalkKit
import Derived.BigQuiet
import Derived.Deep.QuietTactic
import Derived.Lib.Hide
import Derived.Deep.DeepCutAuto
import Derived.IntWalk
import Derived.Test.YtpelnfenfeoeeaaPk24
import Derived.Test.YtpelnfenfeoeeaaPk26
import Derived.Test.YtpelnfenfeoeeaaPk27
import Derived.Test.YtpelnfenfeoeeaaPk28
import Derived.Test.YtpelnfenfeoeeaaPk29

section
/-
  Chapter 13, in the model: SmithForm.
-/
namespace Go.Proofs.Ytpelnfenfeoeeaa
set_option maxRecDepth 100000
open Go.RowKit
def SmG (w : World) (R : SR) (e : Ending) (w' : World) : Prop :=
  ∃ (va vb vc : Value), e = .returned (.tuple #[.agg #[.int .i64 R.d.r, .int .i64 R.d.c, va], .agg #[.int .i64 R.u.r, .int .i64 R.u.c, vb], .agg #[.int .i64 R.v.r, .int .i64 R.v.c, vc], .bool R.ok]) ∧ Own w.heap.size w' va R.d.zs ∧ Own w.heap.size w' vb R.u.zs ∧ Own w.heap.size w' vc R.v.zs ∧ (∀ k, va.ownBlock = some k → vb.ownBlock ≠ some k) ∧ (∀ k, va.ownBlock = some k → vc.ownBlock ≠ some k) ∧ (∀ k, vb.ownBlock = some k → vc.ownBlock ≠ some k) ∧ Below w.heap.size w w'
structure Res3 (B : Nat) (x1 x2 x3 y1 y2 y3 z1 z2 z3 : Value) (w : World) : Prop where
  a : Blk3 w (B + 1) 26 x1 x2 x3
  b : Blk3 w (B + 2) 26 y1 y2 y3
  c : Blk3 w (B + 3) 26 z1 z2 z3
section
variable {B : Nat} {x1 x2 x3 y1 y2 y3 z1 z2 z3 u1 u2 u3 : Value} {w w' : World}
theorem Res3.all (h : Res3 B x1 x2 x3 y1 y2 y3 z1 z2 z3 w) : (w.cell? ⟨B + 1, 0, none⟩ = some x1 ∧ w.cell? ⟨B + 1, 1, none⟩ = some x2 ∧ w.cell? ⟨B + 1, 2, none⟩ = some x3) ∧ (w.cell? ⟨B + 2, 0, none⟩ = some y1 ∧ w.cell? ⟨B + 2, 1, none⟩ = some y2 ∧ w.cell? ⟨B + 2, 2, none⟩ = some y3) ∧ (w.cell? ⟨B + 3, 0, none⟩ = some z1 ∧ w.cell? ⟨B + 3, 1, none⟩ = some z2 ∧ w.cell? ⟨B + 3, 2, none⟩ = some z3) :=
  ⟨⟨h.a.cell0, h.a.cell1, h.a.cell2⟩, ⟨h.b.cell0, h.b.cell1, h.b.cell2⟩, ⟨h.c.cell0, h.c.cell1, h.c.cell2⟩⟩
theorem Res3.step (h : Res3 B x1 x2 x3 y1 y2 y3 z1 z2 z3 w) (hb : Below w.heap.size w w') : Res3 B x1 x2 x3 y1 y2 y3 z1 z2 z3 w' := ⟨h.a.step hb, h.b.step hb, h.c.step hb⟩
theorem Res3.frs {pr : Nat → Prop} (h : Res3 B x1 x2 x3 y1 y2 y3 z1 z2 z3 w) (hf : FrS pr w w') (hn : ∀ k, k ≤ B + 3 → ¬ pr k) : Res3 B x1 x2 x3 y1 y2 y3 z1 z2 z3 w' := ⟨h.a.frs hf (hn _ (by omega)), h.b.frs hf (hn _ (by omega)), h.c.frs hf (hn _ (by omega))⟩
theorem Res3.old (h : Res3 B x1 x2 x3 y1 y2 y3 z1 z2 z3 w) (o : Obj) : Res3 B x1 x2 x3 y1 y2 y3 z1 z2 z3 (w.alloc o) := ⟨h.a.old o, h.b.old o, h.c.old o⟩
theorem Res3.put1 (h : Res3 B x1 x2 x3 y1 y2 y3 z1 z2 z3 w) : Res3 B u1 u2 u3 y1 y2 y3 z1 z2 z3 (((w.setCell ⟨B + 1, 0, none⟩ u1).setCell ⟨B + 1, 1, none⟩ u2).setCell ⟨B + 1, 2, none⟩ u3) :=
  ⟨((h.a.set0 _).set1 _).set2 _, ((h.b.far (by show _ ≠ _; simp) _).far (by show _ ≠ _; simp) _).far (by show _ ≠ _; simp) _, ((h.c.far (by show _ ≠ _; simp) _).far (by show _ ≠ _; simp) _).far (by show _ ≠ _; simp) _⟩
theorem Res3.put2 (h : Res3 B x1 x2 x3 y1 y2 y3 z1 z2 z3 w) : Res3 B x1 x2 x3 u1 u2 u3 z1 z2 z3 (((w.setCell ⟨B + 2, 0, none⟩ u1).setCell ⟨B + 2, 1, none⟩ u2).setCell ⟨B + 2, 2, none⟩ u3) :=
  ⟨((h.a.far (by show _ ≠ _; simp) _).far (by show _ ≠ _; simp) _).far (by show _ ≠ _; simp) _, ((h.b.set0 _).set1 _).set2 _, ((h.c.far (by show _ ≠ _; simp) _).far (by show _ ≠ _; simp) _).far (by show _ ≠ _; simp) _⟩
theorem Res3.put3 (h : Res3 B x1 x2 x3 y1 y2 y3 z1 z2 z3 w) : Res3 B x1 x2 x3 y1 y2 y3 u1 u2 u3 (((w.setCell ⟨B + 3, 0, none⟩ u1).setCell ⟨B + 3, 1, none⟩ u2).setCell ⟨B + 3, 2, none⟩ u3) :=
  ⟨((h.a.far (by show _ ≠ _; simp) _).far (by show _ ≠ _; simp) _).far (by show _ ≠ _; simp) _, ((h.b.far (by show _ ≠ _; simp) _).far (by show _ ≠ _; simp) _).far (by show _ ≠ _; simp) _, ((h.c.set0 _).set1 _).set2 _⟩
theorem Res3.zero (h : Res3 B x1 x2 x3 y1 y2 y3 z1 z2 z3 w) : Res3 B (.int .i64 0) (.int .i64 0) (.slice none 0 0) (.int .i64 0) (.int .i64 0) (.slice none 0 0) (.int .i64 0) (.int .i64 0) (.slice none 0 0) ((fun w => ((((((((w.setCell ⟨B + 1, 0, none⟩ (.int .i64 0)).setCell ⟨B + 1, 1, none⟩ (.int .i64 0)).setCell ⟨B + 1, 2, none⟩ (.slice none 0 0)).setCell ⟨B + 2, 0, none⟩ (.int .i64 0)).setCell ⟨B + 2, 1, none⟩ (.int .i64 0)).setCell ⟨B + 2, 2, none⟩ (.slice none 0 0)).setCell ⟨B + 3, 0, none⟩ (.int .i64 0)).setCell ⟨B + 3, 1, none⟩ (.int .i64 0)).setCell ⟨B + 3, 2, none⟩ (.slice none 0 0)) w) := h.put1.put2.put3
theorem belowK {b : Nat} {W : World} (h : Below W.heap.size W w) (hb : W.heap.size ≤ b) : Below W.heap.size W (((w.setCell ⟨b, 0, none⟩ u1).setCell ⟨b, 1, none⟩ u2).setCell ⟨b, 2, none⟩ u3) := ((h.setCell (p := ⟨b, 0, none⟩) hb _).setCell (p := ⟨b, 1, none⟩) hb _).setCell (p := ⟨b, 2, none⟩) hb _
theorem Blk3.farK {c b : Nat} {t : TypeId} (h : Blk3 w c t x1 x2 x3) (hb : c ≠ b) : Blk3 (((w.setCell ⟨b, 0, none⟩ u1).setCell ⟨b, 1, none⟩ u2).setCell ⟨b, 2, none⟩ u3) c t x1 x2 x3 := ((h.far (a := ⟨b, 0, none⟩) hb _).far (a := ⟨b, 1, none⟩) hb _).far (a := ⟨b, 2, none⟩) hb _
theorem Ints.farK {g b : Nat} {zs : List Int} (h : Ints w g zs) (hb : g ≠ b) : Ints (((w.setCell ⟨b, 0, none⟩ u1).setCell ⟨b, 1, none⟩ u2).setCell ⟨b, 2, none⟩ u3) g zs := ((h.far (a := ⟨b, 0, none⟩) hb _).far (a := ⟨b, 1, none⟩) hb _).far (a := ⟨b, 2, none⟩) hb _
end
set_option maxHeartbeats 4000000 in
theorem sSmithForm (r c : Int) (a : Option Addr) (m : Nat) (xs : List Int) (w : World) (h : Rd w a xs) (hn : xs.length ≤ 16777216) (ha : Spot a) :
    Calls Try.prog 15 #[.agg #[.int .i64 r, .int .i64 c, .slice a xs.length m]] w (SmG w (smR r c xs)) := by
  have IM : Hid (∀ w', Below w.heap.size w w' → Calls Try.prog 53 #[.agg #[.int .i64 r, .int .i64 c, .slice a xs.length m]] w' (Gives (.bool (isMat r c xs)) w')) := fun w' hb => sIsMat r c a m xs w' (h.below hb) hn
  cases hm : isMat r c xs with
  | false =>
    have RN : Hid (smR r c xs = SR.no) := smR_no hm
    rw [hm] at IM
    generalize smR r c xs = RES at RN ⊢
    generalize xs.length = L at IM ⊢
    clear h hn ha hm
    go_enter Try.func15, Try.ntmps15
    go_upto_region 1 with fail
    have K0 : Hid (Blk3 ((((w.alloc (.cells #[.int .i64 r, .int .i64 c, .slice a L m] 26)).alloc (.cells #[.int .i64 0, .int .i64 0, .slice none 0 0] 26)).alloc (.cells #[.int .i64 0, .int .i64 0, .slice none 0 0] 26)).alloc (.cells #[.int .i64 0, .int .i64 0, .slice none 0 0] 26)) w.heap.size 26 (.int .i64 r) (.int .i64 c) (.slice a L m)) := (((Blk3.at_ _ _ _ _ rfl).old _).old _).old _
    have R0 : Hid (Res3 w.heap.size (.int .i64 0) (.int .i64 0) (.slice none 0 0) (.int .i64 0) (.int .i64 0) (.slice none 0 0) (.int .i64 0) (.int .i64 0) (.slice none 0 0) ((((w.alloc (.cells #[.int .i64 r, .int .i64 c, .slice a L m] 26)).alloc (.cells #[.int .i64 0, .int .i64 0, .slice none 0 0] 26)).alloc (.cells #[.int .i64 0, .int .i64 0, .slice none 0 0] 26)).alloc (.cells #[.int .i64 0, .int .i64 0, .slice none 0 0] 26))) := ⟨((Blk3.at_ _ _ _ _ (by simp)).old _).old _, (Blk3.at_ _ _ _ _ (by simp)).old _, Blk3.at_ _ _ _ _ (by simp)⟩
    have B0 : Hid (Below w.heap.size w ((((w.alloc (.cells #[.int .i64 r, .int .i64 c, .slice a L m] 26)).alloc (.cells #[.int .i64 0, .int .i64 0, .slice none 0 0] 26)).alloc (.cells #[.int .i64 0, .int .i64 0, .slice none 0 0] 26)).alloc (.cells #[.int .i64 0, .int .i64 0, .slice none 0 0] 26))) := ((((Below.refl _ _).alloc (Nat.le_refl _) _).alloc (by simp) _).alloc (by simp; omega) _).alloc (by simp; omega) _
    have S0 : Hid (((((w.alloc (.cells #[.int .i64 r, .int .i64 c, .slice a L m] 26)).alloc (.cells #[.int .i64 0, .int .i64 0, .slice none 0 0] 26)).alloc (.cells #[.int .i64 0, .int .i64 0, .slice none 0 0] 26)).alloc (.cells #[.int .i64 0, .int .i64 0, .slice none 0 0] 26)).heap.size = w.heap.size + 4) := by show _ = _; simp
    generalize (((w.alloc (.cells #[.int .i64 r, .int .i64 c, .slice a L m] 26)).alloc (.cells #[.int .i64 0, .int .i64 0, .slice none 0 0] 26)).alloc (.cells #[.int .i64 0, .int .i64 0, .slice none 0 0] 26)).alloc (.cells #[.int .i64 0, .int .i64 0, .slice none 0 0] 26) = W0 at K0 R0 B0 S0 ⊢
    obtain ⟨p0, p1, p2, -, -, -⟩ := K0.out.all
    go_wp2_with fail
    refine (IM.out _ B0.out).mono ?_
    rintro e w1 ⟨rfl, hb⟩
    have R1 := Lib.hid (R0.out.step hb)
    have B1 := Lib.hid (B0.out.trans (hb.mono (by have := S0.out; omega)))
    clear hb p0 p1 p2 K0 R0 B0
    obtain ⟨r0, r1, r2, f0, f1, f2⟩ := R1.out.a.all
    obtain ⟨e0, e1, e2, l0, l1, l2⟩ := R1.out.b.all
    obtain ⟨g0, g1, g2, m0, m1, m2⟩ := R1.out.c.all
    go_wp2_with fail
    obtain ⟨E0, E1, E2⟩ := R1.out.zero.all
    obtain ⟨E3, E4, E5⟩ := E1
    obtain ⟨E6, E7, E8⟩ := E2
    obtain ⟨E0, E1, E2⟩ := E0
    refine bodyPost_ret (v := .tuple #[.agg #[.int .i64 0, .int .i64 0, .slice none 0 0], .agg #[.int .i64 0, .int .i64 0, .slice none 0 0], .agg #[.int .i64 0, .int .i64 0, .slice none 0 0], .bool false]) (by simp [results, Try.results15, go_sem, E0, E1, E2, E3, E4, E5, E6, E7, E8]) rfl ?_
    rw [RN.out]
    exact ⟨_, _, _, rfl, .inl ⟨rfl, rfl⟩, .inl ⟨rfl, rfl⟩, .inl ⟨rfl, rfl⟩, fun k hk => by simp [Value.ownBlock] at hk, fun k hk => by simp [Value.ownBlock] at hk, fun k hk => by simp [Value.ownBlock] at hk, belowK (belowK (belowK B1.out (by omega)) (by omega)) (by omega)⟩
  | true =>
    obtain ⟨⟨r0, r1⟩, ⟨c0, c1⟩, hl, nx⟩ := isMat_says hm
    obtain ⟨R, rfl⟩ := Int.eq_ofNat_of_zero_le r0
    obtain ⟨C, rfl⟩ := Int.eq_ofNat_of_zero_le c0
    have hl : xs.length = R * C := by rw [← Int.natCast_mul] at hl; omega
    have R24 : R ≤ 24 := by omega
    have C24 : C ≤ 24 := by omega
    have hbd : R * C ≤ 24 * 24 := Nat.mul_le_mul R24 C24
    have hbu : R * R ≤ 24 * 24 := Nat.mul_le_mul R24 R24
    have hbv : C * C ≤ 24 * 24 := Nat.mul_le_mul C24 C24
    have RS : Hid (smR R C xs = SR.of R C (smX R C xs)) := by show _ = _; unfold smR; rw [if_pos hm]; rfl
    have SZ : Hid (∀ s, smX R C xs = some s → Siz3 R C s) := fun s hs => (smX_says hl nx hs).1.siz
    have CP : Hid (∀ w', Below w.heap.size w w' → Calls Try.prog 54 #[.agg #[.int .i64 R, .int .i64 C, .slice a xs.length m]] w' (fun e w2 => ∃ g cap : Nat, e = .returned (.agg #[.int .i64 R, .int .i64 C, .slice (some ⟨g, 0, none⟩) xs.length cap]) ∧ w'.heap.size ≤ g ∧ IntsC w2 g cap xs ∧ Below w'.heap.size w' w2)) := fun w' hb => sCopyA R C a m xs.length xs w' (h.below hb) ha rfl (by omega)
    have HE : Hid (∀ (ga gu gv ca cu cv : Nat) w', Ints w' ga xs → Ints w' gu (idL R R) → Ints w' gv (idL C C) → ga ≠ gu → ga ≠ gv → gu ≠ gv → Calls Try.prog 56 #[.agg #[.int .i64 R, .int .i64 C, .slice (some ⟨ga, 0, none⟩) xs.length ca], .agg #[.int .i64 R, .int .i64 R, .slice (some ⟨gu, 0, none⟩) (R * R) cu], .agg #[.int .i64 C, .int .i64 C, .slice (some ⟨gv, 0, none⟩) (C * C) cv]] w' (SmRes ga gu gv (smX R C xs) w')) := fun ga gu gv ca cu cv w' q1 q2 q3 q4 q5 q6 => sSmith R C ga gu gv xs.length (R * R) (C * C) ca cu cv xs w' q1 q2 q3 q4 q5 q6 rfl hl rfl rfl R24 C24 nx
    have ID : Hid (∀ w', Calls Try.prog 55 #[.int .i64 R] w' (fun e w2 => ∃ g : Nat, e = .returned (.tuple #[.agg #[.int .i64 R, .int .i64 R, .slice (some ⟨g, 0, none⟩) (R * R) (R * R)], .bool true]) ∧ w'.heap.size ≤ g ∧ IntsC w2 g (R * R) (idL R R) ∧ Below w'.heap.size w' w2)) := fun w' => sIdentC R w' R24
    have IE : Hid (∀ w', Calls Try.prog 55 #[.int .i64 C] w' (fun e w2 => ∃ g : Nat, e = .returned (.tuple #[.agg #[.int .i64 C, .int .i64 C, .slice (some ⟨g, 0, none⟩) (C * C) (C * C)], .bool true]) ∧ w'.heap.size ≤ g ∧ IntsC w2 g (C * C) (idL C C) ∧ Below w'.heap.size w' w2)) := fun w' => sIdentC C w' C24
    rw [hm] at IM
    rw [RS.out]
    generalize smX R C xs = X at SZ HE ⊢
    have HL := Lib.hid hl
    obtain ⟨L, hL⟩ : ∃ L, xs.length = L := ⟨_, rfl⟩
    rw [hL] at IM CP HE HL ⊢
    obtain ⟨LU, hLU⟩ : ∃ LU, R * R = LU := ⟨_, rfl⟩
    rw [hLU] at HE ID
    obtain ⟨LV, hLV⟩ : ∃ LV, C * C = LV := ⟨_, rfl⟩
    rw [hLV] at HE IE
    have HLU := Lib.hid hLU
    have HLV := Lib.hid hLV
    have XL := Lib.hid hL
    have LB := Lib.hid (And.intro hbd (And.intro hbu hbv))
    clear h hn ha hm r0 r1 c0 c1 hl nx RS hL hLU hLV hbd hbu hbv
    go_enter Try.func15, Try.ntmps15
    go_upto_region 1 with fail
    have K0 : Hid (Blk3 ((((w.alloc (.cells #[.int .i64 R, .int .i64 C, .slice a L m] 26)).alloc (.cells #[.int .i64 0, .int .i64 0, .slice none 0 0] 26)).alloc (.cells #[.int .i64 0, .int .i64 0, .slice none 0 0] 26)).alloc (.cells #[.int .i64 0, .int .i64 0, .slice none 0 0] 26)) w.heap.size 26 (.int .i64 R) (.int .i64 C) (.slice a L m)) := (((Blk3.at_ _ _ _ _ rfl).old _).old _).old _
    have R0 : Hid (Res3 w.heap.size (.int .i64 0) (.int .i64 0) (.slice none 0 0) (.int .i64 0) (.int .i64 0) (.slice none 0 0) (.int .i64 0) (.int .i64 0) (.slice none 0 0) ((((w.alloc (.cells #[.int .i64 R, .int .i64 C, .slice a L m] 26)).alloc (.cells #[.int .i64 0, .int .i64 0, .slice none 0 0] 26)).alloc (.cells #[.int .i64 0, .int .i64 0, .slice none 0 0] 26)).alloc (.cells #[.int .i64 0, .int .i64 0, .slice none 0 0] 26))) := ⟨((Blk3.at_ _ _ _ _ (by simp)).old _).old _, (Blk3.at_ _ _ _ _ (by simp)).old _, Blk3.at_ _ _ _ _ (by simp)⟩
    have B0 : Hid (Below w.heap.size w ((((w.alloc (.cells #[.int .i64 R, .int .i64 C, .slice a L m] 26)).alloc (.cells #[.int .i64 0, .int .i64 0, .slice none 0 0] 26)).alloc (.cells #[.int .i64 0, .int .i64 0, .slice none 0 0] 26)).alloc (.cells #[.int .i64 0, .int .i64 0, .slice none 0 0] 26))) := ((((Below.refl _ _).alloc (Nat.le_refl _) _).alloc (by simp) _).alloc (by simp; omega) _).alloc (by simp; omega) _
    have S0 : Hid (((((w.alloc (.cells #[.int .i64 R, .int .i64 C, .slice a L m] 26)).alloc (.cells #[.int .i64 0, .int .i64 0, .slice none 0 0] 26)).alloc (.cells #[.int .i64 0, .int .i64 0, .slice none 0 0] 26)).alloc (.cells #[.int .i64 0, .int .i64 0, .slice none 0 0] 26)).heap.size = w.heap.size + 4) := by show _ = _; simp
    generalize (((w.alloc (.cells #[.int .i64 R, .int .i64 C, .slice a L m] 26)).alloc (.cells #[.int .i64 0, .int .i64 0, .slice none 0 0] 26)).alloc (.cells #[.int .i64 0, .int .i64 0, .slice none 0 0] 26)).alloc (.cells #[.int .i64 0, .int .i64 0, .slice none 0 0] 26) = W0 at K0 R0 B0 S0 ⊢
    obtain ⟨p0, p1, p2, -, -, -⟩ := K0.out.all
    go_wp2_with fail
    refine (IM.out _ B0.out).mono ?_
    rintro e w1 ⟨rfl, hb⟩
    have K1 := Lib.hid (K0.out.step hb)
    have R1 := Lib.hid (R0.out.step hb)
    have B1 := Lib.hid (B0.out.trans (hb.mono (by have := S0.out; omega)))
    have s1 : w.heap.size + 4 ≤ w1.heap.size := by have := S0.out; have := hb.size; omega
    clear hb p0 p1 p2 K0 R0 B0 S0
    obtain ⟨p0, p1, p2, -, -, -⟩ := K1.out.all
    go_wp2_with fail
    refine (CP.out _ B1.out).mono ?_
    rintro e w2 ⟨ga, ca, rfl, hga, hia, hb⟩
    have la := hia.ints.lt
    have K2 := Lib.hid ((K1.out.step hb).old (.cells #[.int .i64 R, .int .i64 C, .slice (some ⟨ga, 0, none⟩) L ca] 26))
    have R2 := Lib.hid ((R1.out.step hb).old (.cells #[.int .i64 R, .int .i64 C, .slice (some ⟨ga, 0, none⟩) L ca] 26))
    have A2 : Hid (Blk3 (w2.alloc (.cells #[.int .i64 R, .int .i64 C, .slice (some ⟨ga, 0, none⟩) L ca] 26)) w2.heap.size 26 (.int .i64 R) (.int .i64 C) (.slice (some ⟨ga, 0, none⟩) L ca)) := Blk3.at_ _ _ _ _ rfl
    have I2 := Lib.hid (IntsC.move hia (Below.heap_alloc w2 (.cells #[.int .i64 R, .int .i64 C, .slice (some ⟨ga, 0, none⟩) L ca] 26) ga la))
    have B2 := Lib.hid ((B1.out.trans (hb.mono (by omega))).alloc (by have := hb.size; omega) (.cells #[.int .i64 R, .int .i64 C, .slice (some ⟨ga, 0, none⟩) L ca] 26))
    have s2 := hb.size
    clear hb hia K1 R1 B1 p0 p1 p2 IM CP
    go_upto_region 4 with fail
    obtain ⟨b5, hb5⟩ : ∃ b, w2.heap.size = b := ⟨_, rfl⟩
    rw [hb5] at A2 la s2 ⊢
    have s3 : Hid ((w2.alloc (.cells #[.int .i64 R, .int .i64 C, .slice (some ⟨ga, 0, none⟩) L ca] 26)).heap.size = b5 + 1) := by show _ = _; simp [hb5]
    generalize w2.alloc (.cells #[.int .i64 R, .int .i64 C, .slice (some ⟨ga, 0, none⟩) L ca] 26) = W2 at K2 R2 A2 I2 B2 s3 ⊢
    clear hb5
    obtain ⟨p0, p1, p2, -, -, -⟩ := K2.out.all
    go_wp2_with fail
    refine (ID.out _).mono ?_
    rintro e w3 ⟨gu, rfl, hgu, hiu, hb⟩
    have lu := hiu.ints.lt
    have K3 := Lib.hid ((K2.out.step hb).old (.cells #[.int .i64 R, .int .i64 R, .slice (some ⟨gu, 0, none⟩) LU LU] 26))
    have R3 := Lib.hid ((R2.out.step hb).old (.cells #[.int .i64 R, .int .i64 R, .slice (some ⟨gu, 0, none⟩) LU LU] 26))
    have A3 := Lib.hid ((A2.out.step hb).old (.cells #[.int .i64 R, .int .i64 R, .slice (some ⟨gu, 0, none⟩) LU LU] 26))
    have U3 : Hid (Blk3 (w3.alloc (.cells #[.int .i64 R, .int .i64 R, .slice (some ⟨gu, 0, none⟩) LU LU] 26)) w3.heap.size 26 (.int .i64 R) (.int .i64 R) (.slice (some ⟨gu, 0, none⟩) LU LU)) := Blk3.at_ _ _ _ _ rfl
    have I3 := Lib.hid ((IntsC.move I2.out (hb.block ga (by have := s3.out; omega))).move (Below.heap_alloc w3 (.cells #[.int .i64 R, .int .i64 R, .slice (some ⟨gu, 0, none⟩) LU LU] 26) ga (by have := s3.out; have := hb.size; omega)))
    have J3 := Lib.hid (IntsC.move hiu (Below.heap_alloc w3 (.cells #[.int .i64 R, .int .i64 R, .slice (some ⟨gu, 0, none⟩) LU LU] 26) gu lu))
    have B3 := Lib.hid ((B2.out.trans (hb.mono B2.out.size)).alloc (by have := hb.size; have := B2.out.size; omega) (.cells #[.int .i64 R, .int .i64 R, .slice (some ⟨gu, 0, none⟩) LU LU] 26))
    have s4 := hb.size
    have n1 : Hid (w.heap.size + 3 < ga) := by show _ < _; omega
    have n3 : Hid (ga < b5) := la
    have n4 : Hid (b5 < gu) := by show _ < _; have := s3.out; omega
    clear hb hiu K2 R2 A2 I2 B2 p0 p1 p2 ID
    go_upto_region 5 with fail
    obtain ⟨b6, hb6⟩ : ∃ b, w3.heap.size = b := ⟨_, rfl⟩
    rw [hb6] at U3 lu ⊢
    have n5 : Hid (gu < b6) := lu
    have s5 : Hid ((w3.alloc (.cells #[.int .i64 R, .int .i64 R, .slice (some ⟨gu, 0, none⟩) LU LU] 26)).heap.size = b6 + 1) := by show _ = _; simp [hb6]
    generalize w3.alloc (.cells #[.int .i64 R, .int .i64 R, .slice (some ⟨gu, 0, none⟩) LU LU] 26) = W3 at K3 R3 A3 U3 I3 J3 B3 s5 ⊢
    clear hb6 s1 s2 s3 s4 la lu hga hgu
    obtain ⟨p0, p1, p2, -, -, -⟩ := K3.out.all
    go_wp2_with fail
    refine (IE.out _).mono ?_
    rintro e w4 ⟨gv, rfl, hgv, hiv, hb⟩
    have lv := hiv.ints.lt
    have R4 := Lib.hid ((R3.out.step hb).old (.cells #[.int .i64 C, .int .i64 C, .slice (some ⟨gv, 0, none⟩) LV LV] 26))
    have A4 := Lib.hid ((A3.out.step hb).old (.cells #[.int .i64 C, .int .i64 C, .slice (some ⟨gv, 0, none⟩) LV LV] 26))
    have U4 := Lib.hid ((U3.out.step hb).old (.cells #[.int .i64 C, .int .i64 C, .slice (some ⟨gv, 0, none⟩) LV LV] 26))
    have V4 : Hid (Blk3 (w4.alloc (.cells #[.int .i64 C, .int .i64 C, .slice (some ⟨gv, 0, none⟩) LV LV] 26)) w4.heap.size 26 (.int .i64 C) (.int .i64 C) (.slice (some ⟨gv, 0, none⟩) LV LV)) := Blk3.at_ _ _ _ _ rfl
    have g3 : ga < W3.heap.size ∧ gu < W3.heap.size := by have := s5.out; have := n3.out; have := n4.out; have := n5.out; exact ⟨by omega, by omega⟩
    have I4 := Lib.hid ((IntsC.move I3.out (hb.block ga g3.1)).move (Below.heap_alloc w4 (.cells #[.int .i64 C, .int .i64 C, .slice (some ⟨gv, 0, none⟩) LV LV] 26) ga (by have := hb.size; omega)))
    have J4 := Lib.hid ((IntsC.move J3.out (hb.block gu g3.2)).move (Below.heap_alloc w4 (.cells #[.int .i64 C, .int .i64 C, .slice (some ⟨gv, 0, none⟩) LV LV] 26) gu (by have := hb.size; omega)))
    have H4 := Lib.hid (IntsC.move hiv (Below.heap_alloc w4 (.cells #[.int .i64 C, .int .i64 C, .slice (some ⟨gv, 0, none⟩) LV LV] 26) gv lv))
    have B4 := Lib.hid ((B3.out.trans (hb.mono B3.out.size)).alloc (by have := hb.size; have := B3.out.size; omega) (.cells #[.int .i64 C, .int .i64 C, .slice (some ⟨gv, 0, none⟩) LV LV] 26))
    have n6 : Hid (b6 < gv) := by show _ < _; have := s5.out; omega
    clear hb hiv K3 R3 A3 U3 I3 J3 B3 p0 p1 p2 IE g3 s5
    go_upto_region 6 with fail
    obtain ⟨b7, hb7⟩ : ∃ b, w4.heap.size = b := ⟨_, rfl⟩
    rw [hb7] at V4 lv ⊢
    have n7 : Hid (gv < b7) := lv
    generalize w4.alloc (.cells #[.int .i64 C, .int .i64 C, .slice (some ⟨gv, 0, none⟩) LV LV] 26) = W4 at R4 A4 U4 V4 I4 J4 H4 B4 ⊢
    clear hb7 lv hgv
    obtain ⟨p0, p1, p2, -, -, -⟩ := A4.out.all
    obtain ⟨u0, u1, u2, -, -, -⟩ := U4.out.all
    obtain ⟨v0, v1, v2, -, -, -⟩ := V4.out.all
    go_wp2_with fail
    have NN : Hid (w.heap.size + 3 < ga ∧ ga < b5 ∧ b5 < gu ∧ gu < b6 ∧ b6 < gv ∧ gv < b7) := ⟨n1.out, n3.out, n4.out, n5.out, n6.out, n7.out⟩
    clear n1 n3 n4 n5 n6 n7
    refine (HE.out ga gu gv ca LU LV _ I4.out.ints J4.out.ints H4.out.ints (by have := NN.out; omega) (by have := NN.out; omega) (by have := NN.out; omega)).mono ?_
    rintro e w5 ⟨rfl, hf, hs⟩
    have R5 := Lib.hid (R4.out.frs hf (fun k hk => by have := NN.out; omega))
    have A5 := Lib.hid (A4.out.frs hf (by have := NN.out; omega))
    have U5 := Lib.hid (U4.out.frs hf (by have := NN.out; omega))
    have V5 := Lib.hid (V4.out.frs hf (by have := NN.out; omega))
    have B5 := Lib.hid (B4.out.trans (hf.below (B := w.heap.size) (fun k hk => by have := NN.out; omega) B4.out.size))
    have HS := Lib.hid hs
    obtain ⟨-, rA, cA2, -⟩ := I4.out
    rw [XL.out] at cA2
    have lA : L ≤ ca := by omega
    clear hf hs p0 p1 p2 u0 u1 u2 v0 v1 v2 R4 A4 U4 V4 I4 J4 H4 B4 HE rA cA2
    obtain ⟨r0, r1, r2, f0, f1, f2⟩ := R5.out.a.all
    obtain ⟨e0, e1, e2, l0, l1, l2⟩ := R5.out.b.all
    obtain ⟨g0, g1, g2, m0, m1, m2⟩ := R5.out.c.all
    cases X with
    | none =>
      dsimp only [Option.isSome]
      go_wp2_with fail
      obtain ⟨E0, E1, E2⟩ := R5.out.zero.all
      obtain ⟨E3, E4, E5⟩ := E1
      obtain ⟨E6, E7, E8⟩ := E2
      obtain ⟨E0, E1, E2⟩ := E0
      refine bodyPost_ret (v := .tuple #[.agg #[.int .i64 0, .int .i64 0, .slice none 0 0], .agg #[.int .i64 0, .int .i64 0, .slice none 0 0], .agg #[.int .i64 0, .int .i64 0, .slice none 0 0], .bool false]) (by simp [results, Try.results15, go_sem, E0, E1, E2, E3, E4, E5, E6, E7, E8]) rfl ?_
      exact ⟨_, _, _, rfl, .inl ⟨rfl, rfl⟩, .inl ⟨rfl, rfl⟩, .inl ⟨rfl, rfl⟩, fun k hk => by simp [Value.ownBlock] at hk, fun k hk => by simp [Value.ownBlock] at hk, fun k hk => by simp [Value.ownBlock] at hk, belowK (belowK (belowK B5.out (by omega)) (by omega)) (by omega)⟩
    | some s =>
      obtain ⟨i1, i2, i3⟩ := HS.out s rfl
      have IA := Lib.hid i1
      have IU := Lib.hid i2
      have IV := Lib.hid i3
      have SI := Lib.hid (SZ.out s rfl)
      clear i1 i2 i3 HS SZ r0 r1 r2 f0 f1 f2 e0 e1 e2 l0 l1 l2 g0 g1 g2 m0 m1 m2
      dsimp only [Option.isSome]
      go_wp2_with fail
      refine wp_region_T (S := fun w' => Blk3 w' b5 26 (.int .i64 R) (.int .i64 C) (.slice (some ⟨ga, 0, none⟩) L ca) ∧ Blk3 w' b6 26 (.int .i64 R) (.int .i64 R) (.slice (some ⟨gu, 0, none⟩) LU LU) ∧ Blk3 w' b7 26 (.int .i64 C) (.int .i64 C) (.slice (some ⟨gv, 0, none⟩) LV LV)) (T := fun _ => false) (by kernel_rfl) ⟨A5.out.drew, U5.out.drew, V5.out.drew⟩ (fun hH => ?_)
      have R6 : Hid (Res3 _ _ _ _ _ _ _ _ _ _ w5.drew) := Lib.hid ⟨R5.out.a.drew, R5.out.b.drew, R5.out.c.drew⟩
      have B6 := Lib.hid B5.out.drew
      have JA := Lib.hid (Ints.move IA.out (rfl : w5.drew.heap[ga]? = w5.heap[ga]?))
      have JU := Lib.hid (Ints.move IU.out (rfl : w5.drew.heap[gu]? = w5.heap[gu]?))
      have JV := Lib.hid (Ints.move IV.out (rfl : w5.drew.heap[gv]? = w5.heap[gv]?))
      generalize w5.drew = v0 at hH R6 B6 JA JU JV ⊢
      clear R5 B5 IA IU IV A5 U5 V5
      refine wpAnyT_take (i := 0) (v := ?_) (by simp only [List.getElem?_toArray, List.getElem?_cons_zero]; rfl) (by kernel_rfl) (by kernel_rfl) (by kernel_rfl) (by kernel_rfl) (fun _ hj => by cases hj) (by exact fun _ _ _ h => h) (Or.inl ⟨by rfl, ?_⟩) hH ?_
      rotate_left
      · (intro wS hS; (try dsimp only at hS); obtain ⟨k1, k2, k3, -, -, -⟩ := hS.1.all; go_simp; try rfl)
      try simp only [Act.put, List.setIfInBounds_toArray, List.set_cons_zero, List.set_cons_succ]
      refine wpAnyT_take (i := 1) (v := ?_) (by simp only [List.getElem?_toArray, List.getElem?_cons_succ, List.getElem?_cons_zero]; rfl) (by kernel_rfl) (by kernel_rfl) (by kernel_rfl) (by kernel_rfl) (fun _ hj => by cases hj) (by exact fun _ _ _ h => h) (Or.inl ⟨by rfl, ?_⟩) hH ?_
      rotate_left
      · (intro wS hS; (try dsimp only at hS); obtain ⟨k1, k2, k3, -, -, -⟩ := hS.2.1.all; go_simp; try rfl)
      try simp only [Act.put, List.setIfInBounds_toArray, List.set_cons_zero, List.set_cons_succ]
      refine wpAnyT_take (i := 2) (v := ?_) (by simp only [List.getElem?_toArray, List.getElem?_cons_succ, List.getElem?_cons_zero]; rfl) (by kernel_rfl) (by kernel_rfl) (by kernel_rfl) (by kernel_rfl) (fun _ hj => by cases hj) (by exact fun _ _ _ h => h) (Or.inl ⟨by rfl, ?_⟩) hH ?_
      rotate_left
      · (intro wS hS; (try dsimp only at hS); obtain ⟨k1, k2, k3, -, -, -⟩ := hS.2.2.all; go_simp; try rfl)
      try simp only [Act.put, List.setIfInBounds_toArray, List.set_cons_zero, List.set_cons_succ]
      refine wpAnyT_ready (rs := [3]) (by kernel_rfl) (by simp) ?_
      refine AllReadyT.cons (by simp only [List.getElem?_toArray, List.getElem?_cons_succ, List.getElem?_cons_zero]; rfl) (fun K hK => ?_) AllReadyT.nil
      obtain ⟨r0, r1, r2, f0, f1, f2⟩ := R6.out.a.all
      go_simp
      try dsimp only
      have hN := And.intro (hH.1.farK (b := w.heap.size + 1) (u1 := .int .i64 R) (u2 := .int .i64 C) (u3 := .slice (some ⟨ga, 0, none⟩) L ca) (by have := NN.out; omega)) (And.intro (hH.2.1.farK (b := w.heap.size + 1) (u1 := .int .i64 R) (u2 := .int .i64 C) (u3 := .slice (some ⟨ga, 0, none⟩) L ca) (by have := NN.out; omega)) (hH.2.2.farK (b := w.heap.size + 1) (u1 := .int .i64 R) (u2 := .int .i64 C) (u3 := .slice (some ⟨ga, 0, none⟩) L ca) (by have := NN.out; omega)))
      have R7 := Lib.hid (R6.out.put1 (u1 := .int .i64 R) (u2 := .int .i64 C) (u3 := .slice (some ⟨ga, 0, none⟩) L ca))
      have B7 := Lib.hid (belowK (b := w.heap.size + 1) (u1 := .int .i64 R) (u2 := .int .i64 C) (u3 := .slice (some ⟨ga, 0, none⟩) L ca) B6.out (by omega))
      have IA := Lib.hid (JA.out.farK (b := w.heap.size + 1) (u1 := .int .i64 R) (u2 := .int .i64 C) (u3 := .slice (some ⟨ga, 0, none⟩) L ca) (by have := NN.out; omega))
      have IU := Lib.hid (JU.out.farK (b := w.heap.size + 1) (u1 := .int .i64 R) (u2 := .int .i64 C) (u3 := .slice (some ⟨ga, 0, none⟩) L ca) (by have := NN.out; omega))
      have IV := Lib.hid (JV.out.farK (b := w.heap.size + 1) (u1 := .int .i64 R) (u2 := .int .i64 C) (u3 := .slice (some ⟨ga, 0, none⟩) L ca) (by have := NN.out; omega))
      refine hK.out _ _ (fun _ => hN) ?_
      clear hK K r0 r1 r2 f0 f1 f2 hH R6 B6 JA JU JV
      try simp only [Act.put, List.setIfInBounds_toArray, List.set_cons_zero, List.set_cons_succ]
      try simp only [show w.heap.size + 1 + 1 = w.heap.size + 2 from rfl, show w.heap.size + 1 + 1 + 1 = w.heap.size + 3 from rfl]
      generalize (((v0.setCell ⟨w.heap.size + 1, 0, none⟩ (.int .i64 R)).setCell ⟨w.heap.size + 1, 1, none⟩ (.int .i64 C)).setCell ⟨w.heap.size + 1, 2, none⟩ (.slice (some ⟨ga, 0, none⟩) L ca)) = v0 at hN R7 B7 IA IU IV ⊢
      have hH := hN
      have R6 := R7
      have B6 := B7
      have JA := IA
      have JU := IU
      have JV := IV
      clear hN R7 B7 IA IU IV
      refine wpAnyT_ready (rs := [4]) (by kernel_rfl) (by simp) ?_
      refine AllReadyT.cons (by simp only [List.getElem?_toArray, List.getElem?_cons_succ, List.getElem?_cons_zero]; rfl) (fun K hK => ?_) AllReadyT.nil
      obtain ⟨r0, r1, r2, f0, f1, f2⟩ := R6.out.b.all
      go_simp
      try dsimp only
      have hN := And.intro (hH.1.farK (b := w.heap.size + 2) (u1 := .int .i64 R) (u2 := .int .i64 R) (u3 := .slice (some ⟨gu, 0, none⟩) LU LU) (by have := NN.out; omega)) (And.intro (hH.2.1.farK (b := w.heap.size + 2) (u1 := .int .i64 R) (u2 := .int .i64 R) (u3 := .slice (some ⟨gu, 0, none⟩) LU LU) (by have := NN.out; omega)) (hH.2.2.farK (b := w.heap.size + 2) (u1 := .int .i64 R) (u2 := .int .i64 R) (u3 := .slice (some ⟨gu, 0, none⟩) LU LU) (by have := NN.out; omega)))
      have R7 := Lib.hid (R6.out.put2 (u1 := .int .i64 R) (u2 := .int .i64 R) (u3 := .slice (some ⟨gu, 0, none⟩) LU LU))
      have B7 := Lib.hid (belowK (b := w.heap.size + 2) (u1 := .int .i64 R) (u2 := .int .i64 R) (u3 := .slice (some ⟨gu, 0, none⟩) LU LU) B6.out (by omega))
      have IA := Lib.hid (JA.out.farK (b := w.heap.size + 2) (u1 := .int .i64 R) (u2 := .int .i64 R) (u3 := .slice (some ⟨gu, 0, none⟩) LU LU) (by have := NN.out; omega))
      have IU := Lib.hid (JU.out.farK (b := w.heap.size + 2) (u1 := .int .i64 R) (u2 := .int .i64 R) (u3 := .slice (some ⟨gu, 0, none⟩) LU LU) (by have := NN.out; omega))
      have IV := Lib.hid (JV.out.farK (b := w.heap.size + 2) (u1 := .int .i64 R) (u2 := .int .i64 R) (u3 := .slice (some ⟨gu, 0, none⟩) LU LU) (by have := NN.out; omega))
      refine hK.out _ _ (fun _ => hN) ?_
      clear hK K r0 r1 r2 f0 f1 f2 hH R6 B6 JA JU JV
      try simp only [Act.put, List.setIfInBounds_toArray, List.set_cons_zero, List.set_cons_succ]
      try simp only [show w.heap.size + 1 + 1 = w.heap.size + 2 from rfl, show w.heap.size + 1 + 1 + 1 = w.heap.size + 3 from rfl]
      generalize (((v0.setCell ⟨w.heap.size + 2, 0, none⟩ (.int .i64 R)).setCell ⟨w.heap.size + 2, 1, none⟩ (.int .i64 R)).setCell ⟨w.heap.size + 2, 2, none⟩ (.slice (some ⟨gu, 0, none⟩) LU LU)) = v0 at hN R7 B7 IA IU IV ⊢
      have hH := hN
      have R6 := R7
      have B6 := B7
      have JA := IA
      have JU := IU
      have JV := IV
      clear hN R7 B7 IA IU IV
      refine wpAnyT_ready (rs := [5]) (by kernel_rfl) (by simp) ?_
      refine AllReadyT.cons (by simp only [List.getElem?_toArray, List.getElem?_cons_succ, List.getElem?_cons_zero]; rfl) (fun K hK => ?_) AllReadyT.nil
      obtain ⟨r0, r1, r2, f0, f1, f2⟩ := R6.out.c.all
      go_simp
      try dsimp only
      have hN := And.intro (hH.1.farK (b := w.heap.size + 3) (u1 := .int .i64 C) (u2 := .int .i64 C) (u3 := .slice (some ⟨gv, 0, none⟩) LV LV) (by have := NN.out; omega)) (And.intro (hH.2.1.farK (b := w.heap.size + 3) (u1 := .int .i64 C) (u2 := .int .i64 C) (u3 := .slice (some ⟨gv, 0, none⟩) LV LV) (by have := NN.out; omega)) (hH.2.2.farK (b := w.heap.size + 3) (u1 := .int .i64 C) (u2 := .int .i64 C) (u3 := .slice (some ⟨gv, 0, none⟩) LV LV) (by have := NN.out; omega)))
      have R7 := Lib.hid (R6.out.put3 (u1 := .int .i64 C) (u2 := .int .i64 C) (u3 := .slice (some ⟨gv, 0, none⟩) LV LV))
      have B7 := Lib.hid (belowK (b := w.heap.size + 3) (u1 := .int .i64 C) (u2 := .int .i64 C) (u3 := .slice (some ⟨gv, 0, none⟩) LV LV) B6.out (by omega))
      have IA := Lib.hid (JA.out.farK (b := w.heap.size + 3) (u1 := .int .i64 C) (u2 := .int .i64 C) (u3 := .slice (some ⟨gv, 0, none⟩) LV LV) (by have := NN.out; omega))
      have IU := Lib.hid (JU.out.farK (b := w.heap.size + 3) (u1 := .int .i64 C) (u2 := .int .i64 C) (u3 := .slice (some ⟨gv, 0, none⟩) LV LV) (by have := NN.out; omega))
      have IV := Lib.hid (JV.out.farK (b := w.heap.size + 3) (u1 := .int .i64 C) (u2 := .int .i64 C) (u3 := .slice (some ⟨gv, 0, none⟩) LV LV) (by have := NN.out; omega))
      refine hK.out _ _ (fun _ => hN) ?_
      clear hK K r0 r1 r2 f0 f1 f2 hH R6 B6 JA JU JV
      try simp only [Act.put, List.setIfInBounds_toArray, List.set_cons_zero, List.set_cons_succ]
      try simp only [show w.heap.size + 1 + 1 = w.heap.size + 2 from rfl, show w.heap.size + 1 + 1 + 1 = w.heap.size + 3 from rfl]
      generalize (((v0.setCell ⟨w.heap.size + 3, 0, none⟩ (.int .i64 C)).setCell ⟨w.heap.size + 3, 1, none⟩ (.int .i64 C)).setCell ⟨w.heap.size + 3, 2, none⟩ (.slice (some ⟨gv, 0, none⟩) LV LV)) = v0 at hN R7 B7 IA IU IV ⊢
      have hH := hN
      have R6 := R7
      have B6 := B7
      have JA := IA
      have JU := IU
      have JV := IV
      clear hN R7 B7 IA IU IV
      refine wpAnyT_ready (rs := [6]) (by kernel_rfl) (by simp) ?_
      refine AllReadyT.cons (by simp only [List.getElem?_toArray, List.getElem?_cons_succ, List.getElem?_cons_zero]; rfl) (fun K hK => ?_) AllReadyT.nil
      go_simp
      try dsimp only
      refine hK.out _ _ (fun _ => hH) ?_
      clear hK K
      try simp only [Act.put, List.setIfInBounds_toArray, List.set_cons_zero, List.set_cons_succ]
      refine wpAnyT_done (by kernel_rfl) ?_ _
      go_wp2_with fail
      obtain ⟨E0, E1, E2⟩ := R6.out.all
      obtain ⟨E3, E4, E5⟩ := E1
      obtain ⟨E6, E7, E8⟩ := E2
      obtain ⟨E0, E1, E2⟩ := E0
      have e1 : s.1.length = L := by rw [SI.out.l1, HL.out]
      have e2 : s.2.1.length = LU := by rw [SI.out.l2, HLU.out]
      have e3 : s.2.2.length = LV := by rw [SI.out.l3, HLV.out]
      refine bodyPost_ret (v := .tuple #[.agg #[.int .i64 R, .int .i64 C, .slice (some ⟨ga, 0, none⟩) L ca], .agg #[.int .i64 R, .int .i64 R, .slice (some ⟨gu, 0, none⟩) LU LU], .agg #[.int .i64 C, .int .i64 C, .slice (some ⟨gv, 0, none⟩) LV LV], .bool true]) (by simp [results, Try.results15, go_sem, E0, E1, E2, E3, E4, E5, E6, E7, E8]) rfl ?_
      have Q1 := NN.out
      have Q2 := LB.out
      have Q3 := HL.out
      have Q4 := HLU.out
      have Q5 := HLV.out
      refine ⟨.slice (some ⟨ga, 0, none⟩) L ca, .slice (some ⟨gu, 0, none⟩) LU LU, .slice (some ⟨gv, 0, none⟩) LV LV, rfl, .inr ⟨ga, ca, by rw [← e1]; rfl, by omega, JA.out, by show s.1.length ≤ ca; omega, by show s.1.length ≤ 16777216; omega⟩, .inr ⟨gu, LU, by rw [← e2]; rfl, by omega, JU.out, by show s.2.1.length ≤ LU; omega, by show s.2.1.length ≤ 16777216; omega⟩, .inr ⟨gv, LV, by rw [← e3]; rfl, by omega, JV.out, by show s.2.2.length ≤ LV; omega, by show s.2.2.length ≤ 16777216; omega⟩, fun k hk => ?_, fun k hk => ?_, fun k hk => ?_, B6.out⟩
      · have hk : some ga = some k := hk
        intro h9
        have h9 : some gu = some k := h9
        have hk := Option.some.inj hk
        have h9 := Option.some.inj h9
        omega
      · have hk : some ga = some k := hk
        intro h9
        have h9 : some gv = some k := h9
        have hk := Option.some.inj hk
        have h9 := Option.some.inj h9
        omega
      · have hk : some gu = some k := hk
        intro h9
        have h9 : some gv = some k := h9
        have hk := Option.some.inj hk
        have h9 := Option.some.inj h9
        omega
end Go.Proofs.Ytpelnfenfeoeeaa
end

section
/-
  Chapter 12, in the program: one row operation done to a matrix and to its account.
-/
namespace Go.Proofs.Ytpelnfenfeoeeaa
set_option maxRecDepth 100000
open Go.RowKit
end Go.Proofs.Ytpelnfenfeoeeaa
end

section
/-
  Chapter 1, in the program: DivideFloor.
-/
namespace Go.Proofs.Ytpelnfenfeoeeaa
open Go.RowKit
set_option maxHeartbeats 400000 in
theorem iDiv (n d : Int) (w : World) (hn1 : -400000000 ≤ n) (hn2 : n ≤ 400000000) (hd1 : -400000000 ≤ d) (hd2 : d ≤ 400000000) (hd0 : d ≠ 0) :
    Calls Try.prog 163 #[.int .i64 n, .int .i64 d] w fun e w' => e = .returned (.tuple #[.int .i64 (n / d), .int .i64 (n % d), .bool true]) ∧ ∃ n, w' = w.drewN n := by
  have hz : (d == 0) = false := by simpa using hd0
  obtain ⟨b1, b2⟩ := tdiv_bd n d hn1 hn2
  have l := tmod_small n d hd0
  have l1 : -400000000 ≤ n.tmod d := by omega
  have l2 : n.tmod d ≤ 400000000 := by omega
  clear l
  by_cases h : n.tmod d < 0
  · have hn : n < 0 := by
      rcases Int.lt_or_le n 0 with h' | h'
      · exact h'
      · have := Int.tmod_nonneg d h'; omega
    by_cases hd : 0 < d
    · have E := Lib.hid (tdiv_down n d hd h)
      go_enter Try.func163, Try.ntmps163
      go_wp2_with (first | (go_at_call 114; refine (iIsNum_t _ _ (by omega) (by omega)).mono ?_; rintro e w' ⟨rfl, rfl⟩) | go_quiet (fail))
      go_ret3
      exact ⟨by rw [E.out.1, E.out.2]; rfl, _, rfl⟩
    · have E : Hid (n / d = n.tdiv d + 1 ∧ n % d = n.tmod d - d) := by
        obtain ⟨c, rfl⟩ : ∃ c, d = -c := ⟨-d, by omega⟩
        exact iDiv_neg n c (by omega) h
      have hd' : decide (0 < d) = false := by simpa using hd
      go_enter Try.func163, Try.ntmps163
      go_wp2_with (first | (go_at_call 114; refine (iIsNum_t _ _ (by omega) (by omega)).mono ?_; rintro e w' ⟨rfl, rfl⟩) | go_quiet (fail))
      go_ret3
      exact ⟨by rw [E.out.1, E.out.2]; rfl, _, rfl⟩
  · have E := Lib.hid (iDiv_pos n d hd0 (by omega))
    have h' : decide (n.tmod d < 0) = false := by simpa using h
    have hp : 0 ≤ n % d := Int.emod_nonneg n hd0
    have hp' : decide (n % d < 0) = false := by simpa using hp
    go_enter Try.func163, Try.ntmps163
    go_wp2_with (first | (go_at_call 114; refine (iIsNum_t _ _ (by omega) (by omega)).mono ?_; rintro e w' ⟨rfl, rfl⟩) | go_quiet (fail))
    go_ret3
    exact ⟨by rw [E.out.1, E.out.2]; rfl, _, rfl⟩
end Go.Proofs.Ytpelnfenfeoeeaa
end

section
/-
  Chapter 12, in the program: the remainder of a row by another one (the method divide).
-/
namespace Go.Proofs.Ytpelnfenfeoeeaa
set_option maxRecDepth 100000
open Go.RowKit
theorem isOp_add {R I J : Nat} {z : Int} (hR : R ≤ 24) (hI : I < R) (hJ : J < R) (hne : I ≠ J) (hz : NumP z) : isOp 2 I J z R = true := by
  unfold isOp rangeOp
  simp only [Bool.and_eq_true, decide_eq_true_eq]
  refine ⟨⟨⟨⟨⟨by omega, by omega⟩, by omega⟩, by omega⟩, hz⟩, ?_⟩
  rw [if_neg (by decide), if_neg (by decide), decide_eq_true_eq]
  omega
theorem isOp_swap {R I J : Nat} (hR : R ≤ 24) (hI : I < R) (hJ : J < R) (hne : I ≠ J) : isOp 0 I J 0 R = true := by
  unfold isOp rangeOp
  simp only [Bool.and_eq_true, decide_eq_true_eq]
  refine ⟨⟨⟨⟨⟨by omega, by omega⟩, by omega⟩, by omega⟩, by unfold NumP; omega⟩, ?_⟩
  simp
  omega
theorem isOp_neg {R I : Nat} (hR : R ≤ 24) (hI : I < R) : isOp 1 I I 0 R = true := by
  unfold isOp rangeOp
  simp only [Bool.and_eq_true, decide_eq_true_eq]
  refine ⟨⟨⟨⟨⟨by omega, by omega⟩, by omega⟩, by omega⟩, by unfold NumP; omega⟩, ?_⟩
  simp
end Go.Proofs.Ytpelnfenfeoeeaa
end

section
/-
  Chapter 13, in the program: a line is brought to its place.
-/
namespace Go.Proofs.Ytpelnfenfeoeeaa
set_option maxRecDepth 100000
open Go.RowKit
theorem colL_none {I J C : Nat} {xs : List Int} (h : nums xs = true) : colL 2 I J 0 C xs = xs := by
  refine list_getD (colL_length _ _ _ _ _ _) fun p hp => ?_
  rw [colL_length] at hp
  rw [colL_getD hp]
  unfold colAt
  rw [if_neg (by decide)]
  split
  · have a := nums_def h p
    have b := nums_def h (p / C * C + J)
    rw [mulB_num b (by decide), Int.mul_zero, fitB_num (by decide), addB_num a (by decide), Int.add_zero, fitB_num a]
  · rfl
theorem col3_none {C : Nat} {I J : Nat} {s : SSt} (h : ok3 s = true) : col3 C 2 I J 0 s = s := by
  obtain ⟨a, b, c⟩ := ok3_and h
  unfold col3
  rw [colL_none a, colL_none c]
set_option maxHeartbeats 2000000 in
theorem iBringR (R C px B l t : Nat) (s : SSt) (w : World) (h : TsW R C px B s w) (hR : R ≤ 24) (hC : C ≤ 24) (ho : ok3 s = true) (hl : l < R) (ht : t < R) :
    Calls Try.prog 149 #[.func (.func 120) #[.pointer (some ⟨px, 0, none⟩)] #[], .int .i64 l, .int .i64 t] w (TsRes R C px B (if l ≠ t then row3 R C 0 l t 0 s else s) w) := by
  have W := Lib.hid h
  by_cases hlt : l = t
  · have n1 : ((l : Int) == (t : Int)) = true := by simp [hlt]
    have HO := Lib.hid ho
    rw [if_neg (fun h => h hlt)]
    clear h ho hlt
    go_enter Try.func149, Try.ntmps149
    go_wp2_with fail
    go_ret
    exact ⟨by rw [HO.out]; rfl, FrS.refl _ _, fun _ => W.out⟩
  · have n1 : ((l : Int) == (t : Int)) = false := by simp; omega
    rw [if_pos hlt]
    have D : Hid (∀ w', TsW R C px B s w' → Calls Try.prog 120 #[.pointer (some ⟨px, 0, none⟩), .agg #[.int .i64 0, .int .i64 l, .int .i64 t, .int .i64 0]] w' (TsRes R C px B (row3 R C 0 l t 0 s) w')) := fun w' h9 => iDoRow R C px B l t 0 0 s w' h9 hR hC ho (isOp_swap hR hl ht hlt)
    generalize row3 R C 0 l t 0 s = s' at D ⊢
    clear h ho hlt
    go_enter Try.func149, Try.ntmps149
    go_wp2_with fail
    refine (D.out _ W.out).mono ?_
    rintro e w1 ⟨rfl, hf, hs⟩
    go_wp2_with fail
    go_ret
    exact ⟨rfl, hf, hs⟩
set_option maxHeartbeats 2000000 in
theorem iBringC (R C px B l t : Nat) (s : SSt) (w : World) (h : TsW R C px B s w) (hR : R ≤ 24) (hC : C ≤ 24) (ho : ok3 s = true) (hl : l < C) (ht : t < C) :
    Calls Try.prog 149 #[.func (.func 148) #[.pointer (some ⟨px, 0, none⟩)] #[], .int .i64 l, .int .i64 t] w (TsRes R C px B (if l ≠ t then col3 C 0 l t 0 s else s) w) := by
  have W := Lib.hid h
  by_cases hlt : l = t
  · have n1 : ((l : Int) == (t : Int)) = true := by simp [hlt]
    have HO := Lib.hid ho
    rw [if_neg (fun h => h hlt)]
    clear h ho hlt
    go_enter Try.func149, Try.ntmps149
    go_wp2_with fail
    go_ret
    exact ⟨by rw [HO.out]; rfl, FrS.refl _ _, fun _ => W.out⟩
  · have n1 : ((l : Int) == (t : Int)) = false := by simp; omega
    rw [if_pos hlt]
    have D : Hid (∀ w', TsW R C px B s w' → Calls Try.prog 148 #[.pointer (some ⟨px, 0, none⟩), .agg #[.int .i64 0, .int .i64 l, .int .i64 t, .int .i64 0]] w' (TsRes R C px B (col3 C 0 l t 0 s) w')) := fun w' h9 => iDoCol R C px B l t 0 0 s w' h9 hR hC ho (isOp_swap hC hl ht hlt) (.inl rfl) hl ht
    generalize col3 C 0 l t 0 s = s' at D ⊢
    clear h ho hlt
    go_enter Try.func149, Try.ntmps149
    go_wp2_with fail
    refine (D.out _ W.out).mono ?_
    rintro e w1 ⟨rfl, hf, hs⟩
    go_wp2_with fail
    go_ret
    exact ⟨rfl, hf, hs⟩
end Go.Proofs.Ytpelnfenfeoeeaa
end

section
/-
  Chapter 13, in the program: lines are divided by line t.
-/
namespace Go.Proofs.Ytpelnfenfeoeeaa
set_option maxRecDepth 100000
open Go.RowKit
theorem twoF {W w' : World} {g d1 d2 : Nat} {x y : Value} (hx : W.cell? ⟨g, d1, none⟩ = some x) (hy : W.cell? ⟨g, d2, none⟩ = some y) (hb : Below W.heap.size W w') : w'.cell? ⟨g, d1, none⟩ = some x ∧ w'.cell? ⟨g, d2, none⟩ = some y :=
  ⟨(hb.cell (World.block_lt_of_cell? W _ hx)).trans hx, (hb.cell (World.block_lt_of_cell? W _ hy)).trans hy⟩
set_option maxHeartbeats 4000000 in
theorem iDivR (R C px B t m : Nat) (a : Option Addr) (Y : List Int) (p : Int) (s : SSt) (w : World) (h : TsW R C px B s w) (hR : R ≤ 24) (hC : C ≤ 24) (ho : ok3 s = true) (hY : Rd w a Y) (hYl : Y.length = R) (ha : ∀ b o : Nat, a = some ⟨b, o, none⟩ → b ≠ px) (ht : t < R) (ht2 : t < C) (hX : ∀ i, i < R → Y.getD i 0 = cel3S C s i t) (hp : Y.getD t 0 = p) (hp0 : p ≠ 0) :
    Calls Try.prog 150 #[.func (.func 120) #[.pointer (some ⟨px, 0, none⟩)] #[], .slice a R m, .int .i64 t] w (TsRes R C px B (rowsF R C t p s (R - t - 1)) w) := by
  have hS := h.siz
  have YN : Hid (∀ i, i < R → NumP (Y.getD i 0)) := fun i hi => by rw [hX i hi]; exact nums_def (ok3_and ho).1 _
  have NPp := YN.out t ht
  rw [hp] at NPp
  obtain ⟨F, hF⟩ : ∃ F : Nat → SSt, rowsF R C t p s = F := ⟨_, rfl⟩
  have F0 : F 0 = s := by rw [← hF]; rfl
  have DO : Hid (∀ n, t + 1 + n < R → F (n + 1) = if Y.getD (t + 1 + n) 0 ≠ 0 then row3 R C 2 (t + 1 + n) t (-(Y.getD (t + 1 + n) 0 / p)) (F n) else F n) := fun n hn => by rw [hX _ hn, ← hF]; exact rowsF_do hS hn ht2
  have BAD : Hid (∀ n, t + 1 + n < R → ok3 (F (n + 1)) = false → ok3 (F (R - t - 1)) = false) := fun n hn h9 => by
    have := rowsF_bad hS ht (p := p) (n := n + 1) (by rw [hF]; exact h9) (R - t - 1 - (n + 1)) (by omega)
    rw [hF, show n + 1 + (R - t - 1 - (n + 1)) = R - t - 1 by omega] at this
    exact this
  have DD : Hid (∀ n (I : Nat) (z : Int) w', TsW R C px B (F n) w' → ok3 (F n) = true → I < R → I ≠ t → NumP z → Calls Try.prog 120 #[.pointer (some ⟨px, 0, none⟩), .agg #[.int .i64 2, .int .i64 I, .int .i64 t, .int .i64 z]] w' (TsRes R C px B (row3 R C 2 I t z (F n)) w')) := fun n I z w' q0 q2 q1 q3 q4 => iDoRow R C px B I t 2 z (F n) w' q0 hR hC q2 (isOp_add hR q1 ht q3 q4)
  have NON : Hid (∀ n (I : Nat), ok3 (F n) = true → row3 R C 2 I t 0 (F n) = F n) := fun n I h9 => row3_none h9
  have DV : Hid (∀ x w', NumP x → Calls Try.prog 163 #[.int .i64 x, .int .i64 p] w' (Gives (.tuple #[.int .i64 (x / p), .int .i64 (x % p), .bool true]) w')) := fun x w' hx => by
    refine (iDiv x p w' hx.1 hx.2 NPp.1 NPp.2 hp0).mono ?_
    rintro e w2 ⟨rfl, n, rfl⟩
    exact ⟨rfl, below_drewN (Below.refl _ _) n⟩
  have QN : Hid (∀ x, NumP x → NumP (-(x / p))) := fun x hx => quot_num hx hp0
  have RY := Lib.hid hY
  have HA := Lib.hid ha
  have YL := Lib.hid hYl
  have HP := Lib.hid hp
  have W0 : Hid (TsW R C px B (F 0) w) := by refine Lib.hid ?_; rw [F0]; exact h
  have O0 : Hid (ok3 (F 0) = true) := by refine Lib.hid ?_; rw [F0]; exact ho
  rw [hF]
  clear h ho hY hYl ha hX hp hp0 hF F0 hS NPp
  go_enter Try.func150, Try.ntmps150
  go_wp2_with fail
  go_loopw [7, 8, 9, 10] (fun v7 _ _ _ wq => ∃ n : Nat, v7 = .int .i64 ((t + 1 + n : Nat) : Int) ∧ t + 1 + n ≤ R ∧ ok3 (F n) = true ∧ TsW R C px B (F n) wq ∧ FrS (fun b => b = px) w wq) (fun v7 _ _ _ _ => R - (intOf v7).toNat)
  case atStart => exact ⟨0, by go_num, by omega, O0.out, W0.out, FrS.refl _ _⟩
  case round =>
    clear W0 O0
    obtain ⟨n, rfl, hn, hok, hW, hfr⟩ := hrel
    have WR := Lib.hid hW
    have OK := Lib.hid hok
    have FR := Lib.hid hfr
    clear hW hok hfr
    by_cases hlt : t + 1 + n < R
    rotate_left
    · have hnN : n = R - t - 1 := by omega
      have e9 : t + 1 + n = R := by omega
      have WF : Hid (TsW R C px B (F (R - t - 1)) wr) := by refine Lib.hid ?_; rw [← hnN]; exact WR.out
      have OF : Hid (ok3 (F (R - t - 1)) = true) := by refine Lib.hid ?_; rw [← hnN]; exact OK.out
      rw [e9]
      clear hnN e9 hlt hn
      go_wp2_with fail
      go_ret
      exact ⟨by rw [OF.out]; rfl, FR.out, fun _ => WF.out⟩
    have ES := Lib.hid (DO.out n hlt)
    have BD := Lib.hid (BAD.out n hlt)
    have NX := YN.out (t + 1 + n) hlt
    have R2 := RY.out.frs FR.out (fun b o e => HA.out b o e)
    obtain ⟨g, o, rfl, cx⟩ := R2 (t + 1 + n) (by rw [YL.out]; exact hlt)
    obtain ⟨g2, o2, hqb, cy⟩ := R2 t (by rw [YL.out]; exact ht)
    injection hqb with hqb
    injection hqb with e1 e2
    subst e1 e2
    rw [HP.out] at cy
    have DN := Lib.hid (DD.out n)
    have NN := Lib.hid (NON.out n)
    obtain ⟨T, hT⟩ : ∃ T, t + 1 + n = T := ⟨_, rfl⟩
    have ET := Lib.hid hT
    have hTt : T ≠ t := by omega
    rw [hT] at ES NX cx hlt ⊢
    obtain ⟨x, hx⟩ : ∃ x, Y.getD T 0 = x := ⟨_, rfl⟩
    rw [hx] at ES NX cx
    clear hx hT R2
    have DV1 := Lib.hid (fun w' => DV.out x w' NX)
    have NQ := QN.out x NX
    generalize x % p = rm at DV1
    obtain ⟨q, hq⟩ : ∃ q, x / p = q := ⟨_, rfl⟩
    rw [hq] at ES NQ DV1
    have i1 : (T : Int) < (R : Int) := by omega
    have i2 : (t : Int) < (R : Int) := by omega
    have XQ : Hid (x = 0 → q = 0) := fun h => by rw [← hq, h, Int.zero_ediv]
    clear hq NX
    go_wp2_with fail
    refine wp_region_T (S := fun w' => Below wr.heap.size wr w') (T := fun _ => false) (by kernel_rfl) (Below.refl _ _).drew (fun hH => ?_)
    refine wpAnyT_take (i := 0) (v := ?_) (by simp only [List.getElem?_toArray, List.getElem?_cons_zero]; rfl) (by kernel_rfl) (by kernel_rfl) (by kernel_rfl) (by kernel_rfl) (fun _ hj => by cases hj) (by exact fun _ _ _ h => h) (Or.inl ⟨by rfl, ?_⟩) hH ?_
    rotate_left
    · (intro wS hS; clear hS; go_simp; try rfl)
    try simp only [Act.put, List.setIfInBounds_toArray, List.set_cons_zero, List.set_cons_succ]
    refine wpAnyT_take (i := 1) (v := ?_) (by simp only [List.getElem?_toArray, List.getElem?_cons_succ, List.getElem?_cons_zero]; rfl) (by kernel_rfl) (by kernel_rfl) (by kernel_rfl) (by kernel_rfl) (fun _ hj => by cases hj) (by exact fun _ _ _ h => h) (Or.inl ⟨by rfl, ?_⟩) hH ?_
    rotate_left
    · (intro wS hS; clear hS; go_simp; try rfl)
    try simp only [Act.put, List.setIfInBounds_toArray, List.set_cons_zero, List.set_cons_succ]
    refine wpAnyT_take (i := 2) (v := ?_) (by simp only [List.getElem?_toArray, List.getElem?_cons_succ, List.getElem?_cons_zero]; rfl) (by kernel_rfl) (by kernel_rfl) (by kernel_rfl) (by kernel_rfl) (fun _ hj => by cases hj) (by exact fun _ _ _ h => h) (Or.inl ⟨by rfl, ?_⟩) hH ?_
    rotate_left
    · (intro wS hS; clear hS; go_simp; try rfl)
    try simp only [Act.put, List.setIfInBounds_toArray, List.set_cons_zero, List.set_cons_succ]
    refine wpAnyT_take (i := 3) (v := ?_) (by simp only [List.getElem?_toArray, List.getElem?_cons_succ, List.getElem?_cons_zero]; rfl) (by kernel_rfl) (by kernel_rfl) (by kernel_rfl) (by kernel_rfl) (fun _ hj => by cases hj) (by exact fun _ _ _ h => h) (Or.inl ⟨by rfl, ?_⟩) hH ?_
    rotate_left
    · (intro wS hS; (try dsimp only at hS); obtain ⟨k1, k2⟩ := twoF cx cy hS; go_simp; try rfl)
    try simp only [Act.put, List.setIfInBounds_toArray, List.set_cons_zero, List.set_cons_succ]
    refine wpAnyT_take (i := 4) (v := ?_) (by simp only [List.getElem?_toArray, List.getElem?_cons_succ, List.getElem?_cons_zero]; rfl) (by kernel_rfl) (by kernel_rfl) (by kernel_rfl) (by kernel_rfl) (fun _ hj => by cases hj) (by exact fun _ _ _ h => h) (Or.inl ⟨by rfl, ?_⟩) hH ?_
    rotate_left
    · (intro wS hS; clear hS; go_simp; try rfl)
    try simp only [Act.put, List.setIfInBounds_toArray, List.set_cons_zero, List.set_cons_succ]
    refine wpAnyT_take (i := 5) (v := ?_) (by simp only [List.getElem?_toArray, List.getElem?_cons_succ, List.getElem?_cons_zero]; rfl) (by kernel_rfl) (by kernel_rfl) (by kernel_rfl) (by kernel_rfl) (fun _ hj => by cases hj) (by exact fun _ _ _ h => h) (Or.inl ⟨by rfl, ?_⟩) hH ?_
    rotate_left
    · (intro wS hS; clear hS; go_simp; try rfl)
    try simp only [Act.put, List.setIfInBounds_toArray, List.set_cons_zero, List.set_cons_succ]
    refine wpAnyT_take (i := 6) (v := ?_) (by simp only [List.getElem?_toArray, List.getElem?_cons_succ, List.getElem?_cons_zero]; rfl) (by kernel_rfl) (by kernel_rfl) (by kernel_rfl) (by kernel_rfl) (fun _ hj => by cases hj) (by exact fun _ _ _ h => h) (Or.inl ⟨by rfl, ?_⟩) hH ?_
    rotate_left
    · (intro wS hS; clear hS; go_simp; try rfl)
    try simp only [Act.put, List.setIfInBounds_toArray, List.set_cons_zero, List.set_cons_succ]
    refine wpAnyT_take (i := 7) (v := ?_) (by simp only [List.getElem?_toArray, List.getElem?_cons_succ, List.getElem?_cons_zero]; rfl) (by kernel_rfl) (by kernel_rfl) (by kernel_rfl) (by kernel_rfl) (fun _ hj => by cases hj) (by exact fun _ _ _ h => h) (Or.inl ⟨by rfl, ?_⟩) hH ?_
    rotate_left
    · (intro wS hS; (try dsimp only at hS); obtain ⟨k1, k2⟩ := twoF cx cy hS; go_simp; try rfl)
    try simp only [Act.put, List.setIfInBounds_toArray, List.set_cons_zero, List.set_cons_succ]
    refine wpAnyT_ready (rs := [8]) (by kernel_rfl) (by simp) ?_
    refine AllReadyT.cons (by simp only [List.getElem?_toArray, List.getElem?_cons_succ, List.getElem?_cons_zero]; rfl) (fun K hK => ?_) AllReadyT.nil
    go_simp
    (with_reducible refine (DV1.out _).mono ?_)
    rintro e v1 ⟨rfl, hb1⟩
    try dsimp only
    refine hK.out _ _ (fun _ => hH.trans (hb1.mono hH.size)) ?_
    clear hK K
    have hH := hH.trans (hb1.mono hH.size)
    clear hb1
    try simp only [Act.put, List.setIfInBounds_toArray, List.set_cons_zero, List.set_cons_succ]
    refine wpAnyT_take (i := 9) (v := ?_) (by simp only [List.getElem?_toArray, List.getElem?_cons_succ, List.getElem?_cons_zero]; rfl) (by kernel_rfl) (by kernel_rfl) (by kernel_rfl) (by kernel_rfl) (fun _ hj => by cases hj) (by exact fun _ _ _ h => h) (Or.inl ⟨by rfl, ?_⟩) hH ?_
    rotate_left
    · (intro wS hS; clear hS; go_simp; try rfl)
    try simp only [Act.put, List.setIfInBounds_toArray, List.set_cons_zero, List.set_cons_succ]
    refine wpAnyT_take (i := 10) (v := ?_) (by simp only [List.getElem?_toArray, List.getElem?_cons_succ, List.getElem?_cons_zero]; rfl) (by kernel_rfl) (by kernel_rfl) (by kernel_rfl) (by kernel_rfl) (fun _ hj => by cases hj) (by exact fun _ _ _ h => h) (Or.inl ⟨by rfl, ?_⟩) hH ?_
    rotate_left
    · (intro wS hS; clear hS; go_simp; try rfl)
    try simp only [Act.put, List.setIfInBounds_toArray, List.set_cons_zero, List.set_cons_succ]
    refine wpAnyT_take (i := 11) (v := ?_) (by simp only [List.getElem?_toArray, List.getElem?_cons_succ, List.getElem?_cons_zero]; rfl) (by kernel_rfl) (by kernel_rfl) (by kernel_rfl) (by kernel_rfl) (fun _ hj => by cases hj) (by exact fun _ _ _ h => h) (Or.inl ⟨by rfl, ?_⟩) hH ?_
    rotate_left
    · (intro wS hS; clear hS; go_simp; try rfl)
    try simp only [Act.put, List.setIfInBounds_toArray, List.set_cons_zero, List.set_cons_succ]
    refine wpAnyT_take (i := 12) (v := ?_) (by simp only [List.getElem?_toArray, List.getElem?_cons_succ, List.getElem?_cons_zero]; rfl) (by kernel_rfl) (by kernel_rfl) (by kernel_rfl) (by kernel_rfl) (fun _ hj => by cases hj) (by exact fun _ _ _ h => h) (Or.inl ⟨by rfl, ?_⟩) hH ?_
    rotate_left
    · (intro wS hS; clear hS; go_simp; try rfl)
    try simp only [Act.put, List.setIfInBounds_toArray, List.set_cons_zero, List.set_cons_succ]
    refine wpAnyT_take (i := 13) (v := ?_) (by simp only [List.getElem?_toArray, List.getElem?_cons_succ, List.getElem?_cons_zero]; rfl) (by kernel_rfl) (by kernel_rfl) (by kernel_rfl) (by kernel_rfl) (fun _ hj => by cases hj) (by exact fun _ _ _ h => h) (Or.inl ⟨by rfl, ?_⟩) hH ?_
    rotate_left
    · (intro wS hS; clear hS; go_simp; try rfl)
    try simp only [Act.put, List.setIfInBounds_toArray, List.set_cons_zero, List.set_cons_succ]
    refine wpAnyT_take (i := 14) (v := ?_) (by simp only [List.getElem?_toArray, List.getElem?_cons_succ, List.getElem?_cons_zero]; rfl) (by kernel_rfl) (by kernel_rfl) (by kernel_rfl) (by kernel_rfl) (fun _ hj => by cases hj) (by exact fun _ _ _ h => h) (Or.inl ⟨by rfl, ?_⟩) hH ?_
    rotate_left
    · (intro wS hS; clear hS; go_simp; try rfl)
    try simp only [Act.put, List.setIfInBounds_toArray, List.set_cons_zero, List.set_cons_succ]
    refine wpAnyT_take (i := 15) (v := ?_) (by simp only [List.getElem?_toArray, List.getElem?_cons_succ, List.getElem?_cons_zero]; rfl) (by kernel_rfl) (by kernel_rfl) (by kernel_rfl) (by kernel_rfl) (fun _ hj => by cases hj) (by exact fun _ _ _ h => h) (Or.inl ⟨by rfl, ?_⟩) hH ?_
    rotate_left
    · (intro wS hS; clear hS; go_simp; try rfl)
    try simp only [Act.put, List.setIfInBounds_toArray, List.set_cons_zero, List.set_cons_succ]
    refine wpAnyT_done (by kernel_rfl) ?_ _
    have W5 := Lib.hid (WR.out.step hH)
    have F5 := Lib.hid (FR.out.trans (FrS.of_below hH))
    clear WR FR hH cx cy
    by_cases hq0 : q = 0
    · have n2 : (q != 0) = false := by simp [hq0]
      have EN : Hid (F (n + 1) = F n) := by
        refine Lib.hid ?_
        rw [ES.out, hq0]
        split
        · exact NN.out T OK.out
        · rfl
      clear hq0
      go_wp2_with fail
      go_roundw
      case rel => exact ⟨n + 1, by rw [← Nat.add_assoc, ET.out]; go_num, by have := ET.out; omega, by rw [EN.out]; exact OK.out, by rw [EN.out]; exact W5.out, F5.out⟩
      case measure => simp [intOf]; omega
    have n2 : (q != 0) = true := by simpa using hq0
    have EN : Hid (F (n + 1) = row3 R C 2 T t (-q) (F n)) := by refine Lib.hid ?_; rw [ES.out, if_pos (fun h => hq0 (XQ.out h))]
    have DC := Lib.hid (DN.out T (-q) _ W5.out OK.out hlt hTt NQ)
    rw [← EN.out] at DC
    obtain ⟨z1, z2⟩ := NQ
    have v1 : IntKind.i64.wrap (-q) = -q := IntWalk.i64_in _ (by omega)
    clear hq0 ES EN DN NN W5
    go_wp2_with fail
    refine DC.out.mono ?_
    rintro e w6 ⟨rfl, hf, hs⟩
    have F6 := Lib.hid (F5.out.trans hf)
    have HS := Lib.hid hs
    obtain ⟨ok, hok⟩ : ∃ ok, ok3 (F (n + 1)) = ok := ⟨_, rfl⟩
    rw [hok] at BD HS ⊢
    have HO := Lib.hid hok
    clear hf hs hok DC F5
    cases ok with
    | false =>
      have V := Lib.hid (BD.out (by trivial))
      go_wp2_with fail
      go_ret
      exact ⟨by rw [V.out]; rfl, F6.out, fun h => by rw [V.out] at h; cases h⟩
    | true =>
      have W6 := Lib.hid (HS.out (by trivial))
      go_wp2_with fail
      go_roundw
      case rel => exact ⟨n + 1, by rw [← Nat.add_assoc, ET.out]; go_num, by have := ET.out; omega, HO.out, W6.out, F6.out⟩
      case measure => simp [intOf]; omega
set_option maxHeartbeats 4000000 in
theorem iDivC (R C px B t m : Nat) (a : Option Addr) (Y : List Int) (p : Int) (s : SSt) (w : World) (h : TsW R C px B s w) (hR : R ≤ 24) (hC : C ≤ 24) (ho : ok3 s = true) (hY : Rd w a Y) (hYl : Y.length = C) (ha : ∀ b o : Nat, a = some ⟨b, o, none⟩ → b ≠ px) (ht : t < C) (ht2 : t < R) (hX : ∀ i, i < C → Y.getD i 0 = cel3S C s t i) (hp : Y.getD t 0 = p) (hp0 : p ≠ 0) :
    Calls Try.prog 150 #[.func (.func 148) #[.pointer (some ⟨px, 0, none⟩)] #[], .slice a C m, .int .i64 t] w (TsRes R C px B (colsF C t p s (C - t - 1)) w) := by
  have hS := h.siz
  have YN : Hid (∀ i, i < C → NumP (Y.getD i 0)) := fun i hi => by rw [hX i hi]; exact nums_def (ok3_and ho).1 _
  have NPp := YN.out t ht
  rw [hp] at NPp
  obtain ⟨F, hF⟩ : ∃ F : Nat → SSt, colsF C t p s = F := ⟨_, rfl⟩
  have F0 : F 0 = s := by rw [← hF]; rfl
  have DO : Hid (∀ n, t + 1 + n < C → F (n + 1) = if Y.getD (t + 1 + n) 0 ≠ 0 then col3 C 2 (t + 1 + n) t (-(Y.getD (t + 1 + n) 0 / p)) (F n) else F n) := fun n hn => by rw [hX _ hn, ← hF]; exact colsF_do hS hn ht2
  have BAD : Hid (∀ n, t + 1 + n < C → ok3 (F (n + 1)) = false → ok3 (F (C - t - 1)) = false) := fun n hn h9 => by
    have := colsF_bad hS ht (p := p) (n := n + 1) (by rw [hF]; exact h9) (C - t - 1 - (n + 1)) (by omega)
    rw [hF, show n + 1 + (C - t - 1 - (n + 1)) = C - t - 1 by omega] at this
    exact this
  have DD : Hid (∀ n (I : Nat) (z : Int) w', TsW R C px B (F n) w' → ok3 (F n) = true → I < C → I ≠ t → NumP z → Calls Try.prog 148 #[.pointer (some ⟨px, 0, none⟩), .agg #[.int .i64 2, .int .i64 I, .int .i64 t, .int .i64 z]] w' (TsRes R C px B (col3 C 2 I t z (F n)) w')) := fun n I z w' q0 q2 q1 q3 q4 => iDoCol R C px B I t 2 z (F n) w' q0 hR hC q2 (isOp_add hC q1 ht q3 q4) (.inr rfl) q1 ht
  have NON : Hid (∀ n (I : Nat), ok3 (F n) = true → col3 C 2 I t 0 (F n) = F n) := fun n I h9 => col3_none h9
  have DV : Hid (∀ x w', NumP x → Calls Try.prog 163 #[.int .i64 x, .int .i64 p] w' (Gives (.tuple #[.int .i64 (x / p), .int .i64 (x % p), .bool true]) w')) := fun x w' hx => by
    refine (iDiv x p w' hx.1 hx.2 NPp.1 NPp.2 hp0).mono ?_
    rintro e w2 ⟨rfl, n, rfl⟩
    exact ⟨rfl, below_drewN (Below.refl _ _) n⟩
  have QN : Hid (∀ x, NumP x → NumP (-(x / p))) := fun x hx => quot_num hx hp0
  have RY := Lib.hid hY
  have HA := Lib.hid ha
  have YL := Lib.hid hYl
  have HP := Lib.hid hp
  have W0 : Hid (TsW R C px B (F 0) w) := by refine Lib.hid ?_; rw [F0]; exact h
  have O0 : Hid (ok3 (F 0) = true) := by refine Lib.hid ?_; rw [F0]; exact ho
  rw [hF]
  clear h ho hY hYl ha hX hp hp0 hF F0 hS NPp
  go_enter Try.func150, Try.ntmps150
  go_wp2_with fail
  go_loopw [7, 8, 9, 10] (fun v7 _ _ _ wq => ∃ n : Nat, v7 = .int .i64 ((t + 1 + n : Nat) : Int) ∧ t + 1 + n ≤ C ∧ ok3 (F n) = true ∧ TsW R C px B (F n) wq ∧ FrS (fun b => b = px) w wq) (fun v7 _ _ _ _ => C - (intOf v7).toNat)
  case atStart => exact ⟨0, by go_num, by omega, O0.out, W0.out, FrS.refl _ _⟩
  case round =>
    clear W0 O0
    obtain ⟨n, rfl, hn, hok, hW, hfr⟩ := hrel
    have WR := Lib.hid hW
    have OK := Lib.hid hok
    have FR := Lib.hid hfr
    clear hW hok hfr
    by_cases hlt : t + 1 + n < C
    rotate_left
    · have hnN : n = C - t - 1 := by omega
      have e9 : t + 1 + n = C := by omega
      have WF : Hid (TsW R C px B (F (C - t - 1)) wr) := by refine Lib.hid ?_; rw [← hnN]; exact WR.out
      have OF : Hid (ok3 (F (C - t - 1)) = true) := by refine Lib.hid ?_; rw [← hnN]; exact OK.out
      rw [e9]
      clear hnN e9 hlt hn
      go_wp2_with fail
      go_ret
      exact ⟨by rw [OF.out]; rfl, FR.out, fun _ => WF.out⟩
    have ES := Lib.hid (DO.out n hlt)
    have BD := Lib.hid (BAD.out n hlt)
    have NX := YN.out (t + 1 + n) hlt
    have R2 := RY.out.frs FR.out (fun b o e => HA.out b o e)
    obtain ⟨g, o, rfl, cx⟩ := R2 (t + 1 + n) (by rw [YL.out]; exact hlt)
    obtain ⟨g2, o2, hqb, cy⟩ := R2 t (by rw [YL.out]; exact ht)
    injection hqb with hqb
    injection hqb with e1 e2
    subst e1 e2
    rw [HP.out] at cy
    have DN := Lib.hid (DD.out n)
    have NN := Lib.hid (NON.out n)
    obtain ⟨T, hT⟩ : ∃ T, t + 1 + n = T := ⟨_, rfl⟩
    have ET := Lib.hid hT
    have hTt : T ≠ t := by omega
    rw [hT] at ES NX cx hlt ⊢
    obtain ⟨x, hx⟩ : ∃ x, Y.getD T 0 = x := ⟨_, rfl⟩
    rw [hx] at ES NX cx
    clear hx hT R2
    have DV1 := Lib.hid (fun w' => DV.out x w' NX)
    have NQ := QN.out x NX
    generalize x % p = rm at DV1
    obtain ⟨q, hq⟩ : ∃ q, x / p = q := ⟨_, rfl⟩
    rw [hq] at ES NQ DV1
    have i1 : (T : Int) < (C : Int) := by omega
    have i2 : (t : Int) < (C : Int) := by omega
    have XQ : Hid (x = 0 → q = 0) := fun h => by rw [← hq, h, Int.zero_ediv]
    clear hq NX
    go_wp2_with fail
    refine wp_region_T (S := fun w' => Below wr.heap.size wr w') (T := fun _ => false) (by kernel_rfl) (Below.refl _ _).drew (fun hH => ?_)
    refine wpAnyT_take (i := 0) (v := ?_) (by simp only [List.getElem?_toArray, List.getElem?_cons_zero]; rfl) (by kernel_rfl) (by kernel_rfl) (by kernel_rfl) (by kernel_rfl) (fun _ hj => by cases hj) (by exact fun _ _ _ h => h) (Or.inl ⟨by rfl, ?_⟩) hH ?_
    rotate_left
    · (intro wS hS; clear hS; go_simp; try rfl)
    try simp only [Act.put, List.setIfInBounds_toArray, List.set_cons_zero, List.set_cons_succ]
    refine wpAnyT_take (i := 1) (v := ?_) (by simp only [List.getElem?_toArray, List.getElem?_cons_succ, List.getElem?_cons_zero]; rfl) (by kernel_rfl) (by kernel_rfl) (by kernel_rfl) (by kernel_rfl) (fun _ hj => by cases hj) (by exact fun _ _ _ h => h) (Or.inl ⟨by rfl, ?_⟩) hH ?_
    rotate_left
    · (intro wS hS; clear hS; go_simp; try rfl)
    try simp only [Act.put, List.setIfInBounds_toArray, List.set_cons_zero, List.set_cons_succ]
    refine wpAnyT_take (i := 2) (v := ?_) (by simp only [List.getElem?_toArray, List.getElem?_cons_succ, List.getElem?_cons_zero]; rfl) (by kernel_rfl) (by kernel_rfl) (by kernel_rfl) (by kernel_rfl) (fun _ hj => by cases hj) (by exact fun _ _ _ h => h) (Or.inl ⟨by rfl, ?_⟩) hH ?_
    rotate_left
    · (intro wS hS; clear hS; go_simp; try rfl)
    try simp only [Act.put, List.setIfInBounds_toArray, List.set_cons_zero, List.set_cons_succ]
    refine wpAnyT_take (i := 3) (v := ?_) (by simp only [List.getElem?_toArray, List.getElem?_cons_succ, List.getElem?_cons_zero]; rfl) (by kernel_rfl) (by kernel_rfl) (by kernel_rfl) (by kernel_rfl) (fun _ hj => by cases hj) (by exact fun _ _ _ h => h) (Or.inl ⟨by rfl, ?_⟩) hH ?_
    rotate_left
    · (intro wS hS; (try dsimp only at hS); obtain ⟨k1, k2⟩ := twoF cx cy hS; go_simp; try rfl)
    try simp only [Act.put, List.setIfInBounds_toArray, List.set_cons_zero, List.set_cons_succ]
    refine wpAnyT_take (i := 4) (v := ?_) (by simp only [List.getElem?_toArray, List.getElem?_cons_succ, List.getElem?_cons_zero]; rfl) (by kernel_rfl) (by kernel_rfl) (by kernel_rfl) (by kernel_rfl) (fun _ hj => by cases hj) (by exact fun _ _ _ h => h) (Or.inl ⟨by rfl, ?_⟩) hH ?_
    rotate_left
    · (intro wS hS; clear hS; go_simp; try rfl)
    try simp only [Act.put, List.setIfInBounds_toArray, List.set_cons_zero, List.set_cons_succ]
    refine wpAnyT_take (i := 5) (v := ?_) (by simp only [List.getElem?_toArray, List.getElem?_cons_succ, List.getElem?_cons_zero]; rfl) (by kernel_rfl) (by kernel_rfl) (by kernel_rfl) (by kernel_rfl) (fun _ hj => by cases hj) (by exact fun _ _ _ h => h) (Or.inl ⟨by rfl, ?_⟩) hH ?_
    rotate_left
    · (intro wS hS; clear hS; go_simp; try rfl)
    try simp only [Act.put, List.setIfInBounds_toArray, List.set_cons_zero, List.set_cons_succ]
    refine wpAnyT_take (i := 6) (v := ?_) (by simp only [List.getElem?_toArray, List.getElem?_cons_succ, List.getElem?_cons_zero]; rfl) (by kernel_rfl) (by kernel_rfl) (by kernel_rfl) (by kernel_rfl) (fun _ hj => by cases hj) (by exact fun _ _ _ h => h) (Or.inl ⟨by rfl, ?_⟩) hH ?_
    rotate_left
    · (intro wS hS; clear hS; go_simp; try rfl)
    try simp only [Act.put, List.setIfInBounds_toArray, List.set_cons_zero, List.set_cons_succ]
    refine wpAnyT_take (i := 7) (v := ?_) (by simp only [List.getElem?_toArray, List.getElem?_cons_succ, List.getElem?_cons_zero]; rfl) (by kernel_rfl) (by kernel_rfl) (by kernel_rfl) (by kernel_rfl) (fun _ hj => by cases hj) (by exact fun _ _ _ h => h) (Or.inl ⟨by rfl, ?_⟩) hH ?_
    rotate_left
    · (intro wS hS; (try dsimp only at hS); obtain ⟨k1, k2⟩ := twoF cx cy hS; go_simp; try rfl)
    try simp only [Act.put, List.setIfInBounds_toArray, List.set_cons_zero, List.set_cons_succ]
    refine wpAnyT_ready (rs := [8]) (by kernel_rfl) (by simp) ?_
    refine AllReadyT.cons (by simp only [List.getElem?_toArray, List.getElem?_cons_succ, List.getElem?_cons_zero]; rfl) (fun K hK => ?_) AllReadyT.nil
    go_simp
    (with_reducible refine (DV1.out _).mono ?_)
    rintro e v1 ⟨rfl, hb1⟩
    try dsimp only
    refine hK.out _ _ (fun _ => hH.trans (hb1.mono hH.size)) ?_
    clear hK K
    have hH := hH.trans (hb1.mono hH.size)
    clear hb1
    try simp only [Act.put, List.setIfInBounds_toArray, List.set_cons_zero, List.set_cons_succ]
    refine wpAnyT_take (i := 9) (v := ?_) (by simp only [List.getElem?_toArray, List.getElem?_cons_succ, List.getElem?_cons_zero]; rfl) (by kernel_rfl) (by kernel_rfl) (by kernel_rfl) (by kernel_rfl) (fun _ hj => by cases hj) (by exact fun _ _ _ h => h) (Or.inl ⟨by rfl, ?_⟩) hH ?_
    rotate_left
    · (intro wS hS; clear hS; go_simp; try rfl)
    try simp only [Act.put, List.setIfInBounds_toArray, List.set_cons_zero, List.set_cons_succ]
    refine wpAnyT_take (i := 10) (v := ?_) (by simp only [List.getElem?_toArray, List.getElem?_cons_succ, List.getElem?_cons_zero]; rfl) (by kernel_rfl) (by kernel_rfl) (by kernel_rfl) (by kernel_rfl) (fun _ hj => by cases hj) (by exact fun _ _ _ h => h) (Or.inl ⟨by rfl, ?_⟩) hH ?_
    rotate_left
    · (intro wS hS; clear hS; go_simp; try rfl)
    try simp only [Act.put, List.setIfInBounds_toArray, List.set_cons_zero, List.set_cons_succ]
    refine wpAnyT_take (i := 11) (v := ?_) (by simp only [List.getElem?_toArray, List.getElem?_cons_succ, List.getElem?_cons_zero]; rfl) (by kernel_rfl) (by kernel_rfl) (by kernel_rfl) (by kernel_rfl) (fun _ hj => by cases hj) (by exact fun _ _ _ h => h) (Or.inl ⟨by rfl, ?_⟩) hH ?_
    rotate_left
    · (intro wS hS; clear hS; go_simp; try rfl)
    try simp only [Act.put, List.setIfInBounds_toArray, List.set_cons_zero, List.set_cons_succ]
    refine wpAnyT_take (i := 12) (v := ?_) (by simp only [List.getElem?_toArray, List.getElem?_cons_succ, List.getElem?_cons_zero]; rfl) (by kernel_rfl) (by kernel_rfl) (by kernel_rfl) (by kernel_rfl) (fun _ hj => by cases hj) (by exact fun _ _ _ h => h) (Or.inl ⟨by rfl, ?_⟩) hH ?_
    rotate_left
    · (intro wS hS; clear hS; go_simp; try rfl)
    try simp only [Act.put, List.setIfInBounds_toArray, List.set_cons_zero, List.set_cons_succ]
    refine wpAnyT_take (i := 13) (v := ?_) (by simp only [List.getElem?_toArray, List.getElem?_cons_succ, List.getElem?_cons_zero]; rfl) (by kernel_rfl) (by kernel_rfl) (by kernel_rfl) (by kernel_rfl) (fun _ hj => by cases hj) (by exact fun _ _ _ h => h) (Or.inl ⟨by rfl, ?_⟩) hH ?_
    rotate_left
    · (intro wS hS; clear hS; go_simp; try rfl)
    try simp only [Act.put, List.setIfInBounds_toArray, List.set_cons_zero, List.set_cons_succ]
    refine wpAnyT_take (i := 14) (v := ?_) (by simp only [List.getElem?_toArray, List.getElem?_cons_succ, List.getElem?_cons_zero]; rfl) (by kernel_rfl) (by kernel_rfl) (by kernel_rfl) (by kernel_rfl) (fun _ hj => by cases hj) (by exact fun _ _ _ h => h) (Or.inl ⟨by rfl, ?_⟩) hH ?_
    rotate_left
    · (intro wS hS; clear hS; go_simp; try rfl)
    try simp only [Act.put, List.setIfInBounds_toArray, List.set_cons_zero, List.set_cons_succ]
    refine wpAnyT_take (i := 15) (v := ?_) (by simp only [List.getElem?_toArray, List.getElem?_cons_succ, List.getElem?_cons_zero]; rfl) (by kernel_rfl) (by kernel_rfl) (by kernel_rfl) (by kernel_rfl) (fun _ hj => by cases hj) (by exact fun _ _ _ h => h) (Or.inl ⟨by rfl, ?_⟩) hH ?_
    rotate_left
    · (intro wS hS; clear hS; go_simp; try rfl)
    try simp only [Act.put, List.setIfInBounds_toArray, List.set_cons_zero, List.set_cons_succ]
    refine wpAnyT_done (by kernel_rfl) ?_ _
    have W5 := Lib.hid (WR.out.step hH)
    have F5 := Lib.hid (FR.out.trans (FrS.of_below hH))
    clear WR FR hH cx cy
    by_cases hq0 : q = 0
    · have n2 : (q != 0) = false := by simp [hq0]
      have EN : Hid (F (n + 1) = F n) := by
        refine Lib.hid ?_
        rw [ES.out, hq0]
        split
        · exact NN.out T OK.out
        · rfl
      clear hq0
      go_wp2_with fail
      go_roundw
      case rel => exact ⟨n + 1, by rw [← Nat.add_assoc, ET.out]; go_num, by have := ET.out; omega, by rw [EN.out]; exact OK.out, by rw [EN.out]; exact W5.out, F5.out⟩
      case measure => simp [intOf]; omega
    have n2 : (q != 0) = true := by simpa using hq0
    have EN : Hid (F (n + 1) = col3 C 2 T t (-q) (F n)) := by refine Lib.hid ?_; rw [ES.out, if_pos (fun h => hq0 (XQ.out h))]
    have DC := Lib.hid (DN.out T (-q) _ W5.out OK.out hlt hTt NQ)
    rw [← EN.out] at DC
    obtain ⟨z1, z2⟩ := NQ
    have v1 : IntKind.i64.wrap (-q) = -q := IntWalk.i64_in _ (by omega)
    clear hq0 ES EN DN NN W5
    go_wp2_with fail
    refine DC.out.mono ?_
    rintro e w6 ⟨rfl, hf, hs⟩
    have F6 := Lib.hid (F5.out.trans hf)
    have HS := Lib.hid hs
    obtain ⟨ok, hok⟩ : ∃ ok, ok3 (F (n + 1)) = ok := ⟨_, rfl⟩
    rw [hok] at BD HS ⊢
    have HO := Lib.hid hok
    clear hf hs hok DC F5
    cases ok with
    | false =>
      have V := Lib.hid (BD.out (by trivial))
      go_wp2_with fail
      go_ret
      exact ⟨by rw [V.out]; rfl, F6.out, fun h => by rw [V.out] at h; cases h⟩
    | true =>
      have W6 := Lib.hid (HS.out (by trivial))
      go_wp2_with fail
      go_roundw
      case rel => exact ⟨n + 1, by rw [← Nat.add_assoc, ET.out]; go_num, by have := ET.out; omega, HO.out, W6.out, F6.out⟩
      case measure => simp [intOf]; omega
end Go.Proofs.Ytpelnfenfeoeeaa
end

section
/-
  Chapter 12, in the program: whether a cell is nearer to 0 than the least one before it; the first row with the least cell that is not 0.
-/
namespace Go.Proofs.Ytpelnfenfeoeeaa
set_option maxRecDepth 100000
open Go.RowKit
def nearB (x y : Int) : Bool := decide (x ≠ 0 ∧ (y = 0 ∨ x.natAbs < y.natAbs))
set_option maxHeartbeats 1000000 in
theorem iNear (x y : Int) (w : World) (hx : NumP x) (hy : NumP y) : Calls Try.prog 116 #[.int .i64 x, .int .i64 y] w (Gives (.bool (nearB x y)) w) := by
  obtain ⟨x1, x2⟩ := hx
  obtain ⟨y1, y2⟩ := hy
  by_cases h0 : x = 0
  · have V : Hid (nearB x y = false) := by show _ = _; unfold nearB; exact decide_eq_false (fun h => h.1 h0)
    have n1 : (x != 0) = false := by simp [h0]
    rw [V.out]
    clear h0
    go_enter Try.func116, Try.ntmps116
    go_wp2_with fail
    go_ret
    exact ⟨rfl, by first | exact Below.refl _ _ | exact below_drewN (Below.refl _ _) _⟩
  have n1 : (x != 0) = true := by simpa using h0
  by_cases hy0 : y = 0
  · have V : Hid (nearB x y = true) := by show _ = _; unfold nearB; exact decide_eq_true ⟨h0, .inl hy0⟩
    have n2 : (y == 0) = true := by simp [hy0]
    rw [V.out]
    clear h0 hy0
    go_enter Try.func116, Try.ntmps116
    go_wp2_with fail
    go_ret
    exact ⟨rfl, by first | exact Below.refl _ _ | exact below_drewN (Below.refl _ _) _⟩
  have n2 : (y == 0) = false := by simpa using hy0
  have v1 : IntKind.i64.wrap (-x) = -x := IntWalk.i64_in _ (by omega)
  have v2 : IntKind.i64.wrap (-y) = -y := IntWalk.i64_in _ (by omega)
  obtain ⟨ax, hax⟩ : ∃ z : Int, (x.natAbs : Int) = z := ⟨_, rfl⟩
  obtain ⟨ay, hay⟩ : ∃ z : Int, (y.natAbs : Int) = z := ⟨_, rfl⟩
  have v3 : ∀ d : Decidable (x < -x), (@ite Int (x < -x) d (-x) x) = ax := fun d => by rw [← hax]; split <;> omega
  have v4 : ∀ d : Decidable (y < -y), (@ite Int (y < -y) d (-y) y) = ay := fun d => by rw [← hay]; split <;> omega
  have v5 : max x (-x) = ax := by rw [← hax]; omega
  have v6 : max y (-y) = ay := by rw [← hay]; omega
  by_cases hl : x.natAbs < y.natAbs
  · have V : Hid (nearB x y = true) := by show _ = _; unfold nearB; exact decide_eq_true ⟨h0, .inr hl⟩
    have n3 : decide (ax < ay) = true := decide_eq_true (by omega)
    rw [V.out]
    clear h0 hy0 hl hax hay
    go_enter Try.func116, Try.ntmps116
    go_wp2_with fail
    go_ret
    exact ⟨rfl, by first | exact Below.refl _ _ | exact below_drewN (Below.refl _ _) _⟩
  · have V : Hid (nearB x y = false) := by
      show _ = _
      unfold nearB
      refine decide_eq_false ?_
      rintro ⟨-, h | h⟩
      · exact hy0 h
      · exact hl h
    have n3 : decide (ax < ay) = false := decide_eq_false (by omega)
    rw [V.out]
    clear h0 hy0 hl hax hay
    go_enter Try.func116, Try.ntmps116
    go_wp2_with fail
    go_ret
    exact ⟨rfl, by first | exact Below.refl _ _ | exact below_drewN (Below.refl _ _) _⟩
end Go.Proofs.Ytpelnfenfeoeeaa
end

section
/-
  Chapter 13, in the program: the place of the least cell.
-/
namespace Go.Proofs.Ytpelnfenfeoeeaa
set_option maxRecDepth 100000
open Go.RowKit
def lcR (C t : Nat) (L : Int) : Int := if L < 0 then 0 else plR C t L
def lcC (C t : Nat) (L : Int) : Int := if L < 0 then 0 else plC C t L
def lcZ (C t : Nat) (s : SSt) (L : Int) : Int := if L < 0 then 0 else plF C t s L.toNat
section
variable {R C t a b : Nat} {s : SSt}
theorem lc_nz {m : Nat} (h : ¬ plL C t s m < 0) : plF C t s (plL C t s m).toNat ≠ 0 := by
  rcases leastF_says (plF C t s) 0 m with ⟨h1, -⟩ | ⟨p, h1, -, -, h4, -⟩
  · have h1 : plL C t s m = -1 := h1
    omega
  · have h1 : plL C t s m = (p : Int) := h1
    rw [h1, Int.toNat_natCast]; exact h4
theorem lc_keep (hb : b < C - t) (h : nearB (cel3S C s (t + a) (t + b)) (lcZ C t s (plL C t s (a * (C - t) + b))) = false) : plL C t s (a * (C - t) + (b + 1)) = plL C t s (a * (C - t) + b) := by
  unfold nearB at h
  rw [decide_eq_false_iff_not] at h
  refine pl_keep hb ?_
  by_cases h0 : cel3S C s (t + a) (t + b) = 0
  · exact .inl h0
  · right
    unfold lcZ at h
    by_cases hl : plL C t s (a * (C - t) + b) < 0
    · rw [if_pos hl] at h; exact absurd ⟨h0, .inl rfl⟩ h
    · rw [if_neg hl] at h
      exact ⟨hl, fun h9 => h ⟨h0, .inr h9⟩⟩
theorem lc_new (hb : b < C - t) (h : nearB (cel3S C s (t + a) (t + b)) (lcZ C t s (plL C t s (a * (C - t) + b))) = true) : lcR C t (plL C t s (a * (C - t) + (b + 1))) = ((t + a : Nat) : Int) ∧ lcC C t (plL C t s (a * (C - t) + (b + 1))) = ((t + b : Nat) : Int) ∧ lcZ C t s (plL C t s (a * (C - t) + (b + 1))) = cel3S C s (t + a) (t + b) := by
  unfold nearB at h
  rw [decide_eq_true_iff] at h
  have h2 : plL C t s (a * (C - t) + b) < 0 ∨ (cel3S C s (t + a) (t + b)).natAbs < (plF C t s (plL C t s (a * (C - t) + b)).toNat).natAbs := by
    have h2 := h.2
    unfold lcZ at h2
    by_cases hl : plL C t s (a * (C - t) + b) < 0
    · exact .inl hl
    · rw [if_neg hl] at h2
      exact .inr (h2.resolve_left (lc_nz hl))
  obtain ⟨e1, e2, e3⟩ := pl_new hb h.1 h2
  rw [e1]
  unfold lcR lcC lcZ
  rw [if_neg (by omega), if_neg (by omega), if_neg (by omega), Int.toNat_natCast, pl_at hb]
  exact ⟨e2, e3, rfl⟩
theorem lc_ok {m : Nat} : (lcZ C t s (plL C t s m) != 0) = !decide (plL C t s m < 0) := by
  unfold lcZ
  by_cases hl : plL C t s m < 0
  · rw [if_pos hl, decide_eq_true hl]; rfl
  · rw [if_neg hl, decide_eq_false hl]
    simpa using lc_nz hl
theorem lc_none (h : plS R C t s = none) : lcR C t (plL C t s ((R - t) * (C - t))) = 0 ∧ lcC C t (plL C t s ((R - t) * (C - t))) = 0 ∧ decide (plL C t s ((R - t) * (C - t)) < 0) = true := by
  rw [pl_end] at h
  by_cases hl : plL C t s ((R - t) * (C - t)) < 0
  · unfold lcR lcC; rw [if_pos hl, if_pos hl]; exact ⟨rfl, rfl, decide_eq_true hl⟩
  · rw [if_neg hl] at h; cases h
theorem lc_some {i j : Nat} (h : plS R C t s = some (i, j)) : lcR C t (plL C t s ((R - t) * (C - t))) = i ∧ lcC C t (plL C t s ((R - t) * (C - t))) = j ∧ decide (plL C t s ((R - t) * (C - t)) < 0) = false := by
  rw [pl_end] at h
  by_cases hl : plL C t s ((R - t) * (C - t)) < 0
  · rw [if_pos hl] at h; cases h
  · rw [if_neg hl] at h
    have h := Option.some.inj h
    have h1 := congrArg Prod.fst h
    have h2 := congrArg Prod.snd h
    dsimp only at h1 h2
    unfold lcR lcC
    rw [if_neg hl, if_neg hl]
    unfold plR at h1 ⊢
    unfold plC at h2 ⊢
    rw [if_neg hl] at h1 h2 ⊢
    rw [if_neg hl]
    rw [Int.toNat_natCast] at h1 h2
    rw [h1, h2]
    exact ⟨rfl, rfl, decide_eq_false hl⟩
end
set_option maxHeartbeats 4000000 in
theorem iLeastCell (R C : Nat) (a : Option Addr) (n m t : Nat) (s : SSt) (w : World) (h : Rd w a s.1) (hA : CelA a n m) (hx : s.1.length = n) (hn : n = R * C) (hR : R ≤ 24) (hC : C ≤ 24) (htR : t < R) (htC : t < C) (ho : nums s.1 = true) :
    Calls Try.prog 61 #[.agg #[.int .i64 R, .int .i64 C, .slice a n m], .int .i64 t] w (Gives (.tuple #[.int .i64 (lcR C t (plL C t s ((R - t) * (C - t)))), .int .i64 (lcC C t (plL C t s ((R - t) * (C - t)))), .bool (!decide (plL C t s ((R - t) * (C - t)) < 0))]) w) := by
  have hle : R * C ≤ 24 * 24 := Nat.mul_le_mul hR hC
  have K0 : Hid (Blk3 (w.alloc (.cells #[.int .i64 R, .int .i64 C, .slice a n m] 26)) w.heap.size 26 (.int .i64 R) (.int .i64 C) (.slice a n m)) := Blk3.at_ _ _ _ _ rfl
  have B0 : Hid (Below w.heap.size w (w.alloc (.cells #[.int .i64 R, .int .i64 C, .slice a n m] 26))) := (Below.refl _ _).alloc (Nat.le_refl _) _
  have RW : Hid (∀ i w', i < R → Calls Try.prog 83 #[.agg #[.int .i64 R, .int .i64 C, .slice a n m], .int .i64 i] w' (RowAt a (i * C) C w')) := fun i w' hi => iRowIn R C i (i * C) n m a w' hA.spot rfl (by rw [hn, ← Nat.succ_mul]; exact Nat.mul_le_mul_right _ hi) hA.le hA.nil (by omega) (by omega)
  have CX : Hid (∀ i j w', i < R → j < C → Below w.heap.size w w' → ∃ g o : Nat, a = some ⟨g, o, none⟩ ∧ w'.cell? ⟨g, o + i * C + j, none⟩ = some (.int .i64 (cel3S C s i j))) := fun i j w' hi hj hb => by
    obtain ⟨g, o, h1, h2⟩ := h.below hb (i * C + j) (by rw [hx, hn]; exact idx_lt hi hj)
    exact ⟨g, o, h1, by rw [Nat.add_assoc]; exact h2⟩
  have NU : Hid (∀ i j, NumP (cel3S C s i j)) := fun i j => nums_def ho _
  have NZ : Hid (∀ L, NumP (lcZ C t s L)) := fun L => by
    unfold lcZ
    split
    · exact ⟨by decide, by decide⟩
    · exact nums_def ho _
  have KEEP : Hid (∀ a b, b < C - t → nearB (cel3S C s (t + a) (t + b)) (lcZ C t s (plL C t s (a * (C - t) + b))) = false → plL C t s (a * (C - t) + (b + 1)) = plL C t s (a * (C - t) + b)) := fun a b hb h => lc_keep hb h
  have NEW : Hid (∀ a b, b < C - t → nearB (cel3S C s (t + a) (t + b)) (lcZ C t s (plL C t s (a * (C - t) + b))) = true → lcR C t (plL C t s (a * (C - t) + (b + 1))) = ((t + a : Nat) : Int) ∧ lcC C t (plL C t s (a * (C - t) + (b + 1))) = ((t + b : Nat) : Int) ∧ lcZ C t s (plL C t s (a * (C - t) + (b + 1))) = cel3S C s (t + a) (t + b)) := fun a b hb h => lc_new hb h
  have OKZ : Hid ((lcZ C t s (plL C t s ((R - t) * (C - t))) != 0) = !decide (plL C t s ((R - t) * (C - t)) < 0)) := lc_ok
  have ZR : Hid (lcR C t (plL C t s (0 * (C - t))) = 0 ∧ lcC C t (plL C t s (0 * (C - t))) = 0 ∧ lcZ C t s (plL C t s (0 * (C - t))) = 0) := by rw [Nat.zero_mul]; exact ⟨rfl, rfl, rfl⟩
  obtain ⟨okb, hokb⟩ : ∃ okb, (!decide (plL C t s ((R - t) * (C - t)) < 0)) = okb := ⟨_, rfl⟩
  rw [hokb] at OKZ ⊢
  clear hokb
  obtain ⟨W, hW⟩ : ∃ W, C - t = W := ⟨_, rfl⟩
  obtain ⟨f, hf⟩ : ∃ f : Nat → Int, plL C t s = f := ⟨_, rfl⟩
  obtain ⟨r, hr⟩ : ∃ r : Int → Int, lcR C t = r := ⟨_, rfl⟩
  obtain ⟨c, hc⟩ : ∃ c : Int → Int, lcC C t = c := ⟨_, rfl⟩
  obtain ⟨y, hy⟩ : ∃ y : Int → Int, lcZ C t s = y := ⟨_, rfl⟩
  obtain ⟨g, hg⟩ : ∃ g : Nat → Nat → Int, cel3S C s = g := ⟨_, rfl⟩
  rw [hW, hf, hr, hc, hy] at ZR
  rw [hW, hf, hy] at OKZ
  rw [hW, hf, hr, hc]
  rw [hy] at NZ
  rw [hW, hf, hy, hg] at KEEP
  rw [hW, hf, hy, hr, hc, hg] at NEW
  rw [hg] at CX NU
  have WC := Lib.hid hW
  clear h hx hn ho hf hr hc hy hg hW hA hle
  go_enter Try.func61, Try.ntmps61
  go_wp2_with fail
  go_loopw [4, 5, 7, 8, 9, 10] (fun v4 v5 v7 v8 _ _ wr => ∃ a0 : Nat, v4 = .int .i64 (r (f (a0 * W))) ∧ v5 = .int .i64 (c (f (a0 * W))) ∧ v7 = .int .i64 (y (f (a0 * W))) ∧ v8 = .int .i64 ((t + a0 : Nat) : Int) ∧ t + a0 ≤ R ∧ Blk3 wr w.heap.size 26 (.int .i64 R) (.int .i64 C) (.slice a n m) ∧ Below w.heap.size w wr) (fun _ _ _ v8 _ _ _ => R - (intOf v8).toNat)
  case atStart => exact ⟨0, by rw [ZR.out.1], by rw [ZR.out.2.1], by rw [ZR.out.2.2], rfl, by omega, K0.out, B0.out⟩
  case round =>
    clear K0 B0 ZR
    obtain ⟨a', rfl, rfl, rfl, rfl, ha, hK, hB⟩ := hrel
    have K := Lib.hid hK
    have B := Lib.hid hB
    clear hK hB
    obtain ⟨p0, p1, p2, -, -, -⟩ := K.out.all
    by_cases hlt : t + a' < R
    · obtain ⟨T, hT⟩ : ∃ T, t + a' = T := ⟨_, rfl⟩
      have ET := Lib.hid hT
      rw [hT] at hlt ⊢
      clear hT
      go_wp2_with fail
      clear p0 p1 p2
      go_loopw [4, 5, 7, 9, 10] (fun v4 v5 v7 v9 _ wr => ∃ b : Nat, v4 = .int .i64 (r (f (a' * W + b))) ∧ v5 = .int .i64 (c (f (a' * W + b))) ∧ v7 = .int .i64 (y (f (a' * W + b))) ∧ v9 = .int .i64 ((t + b : Nat) : Int) ∧ t + b ≤ C ∧ Blk3 wr w.heap.size 26 (.int .i64 R) (.int .i64 C) (.slice a n m) ∧ Below w.heap.size w wr) (fun _ _ _ v9 _ _ => C - (intOf v9).toNat)
      case atStart => exact ⟨0, rfl, rfl, rfl, rfl, by omega, K.out, B.out⟩
      case round =>
        clear K B
        obtain ⟨b, rfl, rfl, rfl, rfl, hb, hK, hB⟩ := hrel
        have K := Lib.hid hK
        have B := Lib.hid hB
        clear hK hB
        obtain ⟨p0, p1, p2, -, -, -⟩ := K.out.all
        by_cases hltC : t + b < C
        · have hbW : b < W := by have := WC.out; omega
          have KE := Lib.hid (KEEP.out a' b hbW)
          have NE := Lib.hid (NEW.out a' b hbW)
          rw [ET.out] at KE NE
          have NX := Lib.hid (NU.out T (t + b))
          have CXX := Lib.hid (fun w' h9 => CX.out T (t + b) w' hlt hltC h9)
          obtain ⟨U, hU⟩ : ∃ U, t + b = U := ⟨_, rfl⟩
          have EU := Lib.hid hU
          rw [hU] at KE NE NX CXX hltC ⊢
          obtain ⟨L, hL⟩ : ∃ L, f (a' * W + b) = L := ⟨_, rfl⟩
          rw [hL] at KE NE ⊢
          obtain ⟨x, hx⟩ : ∃ x, g T U = x := ⟨_, rfl⟩
          rw [hx] at KE NE NX CXX
          have ZI := Lib.hid (NZ.out L)
          obtain ⟨Z, hZ⟩ : ∃ Z, y L = Z := ⟨_, rfl⟩
          rw [hZ] at KE NE ZI ⊢
          have EZ := Lib.hid hZ
          have NR := Lib.hid (fun w' => iNear x Z w' NX.out ZI.out)
          obtain ⟨nb, hnb⟩ : ∃ nb, nearB x Z = nb := ⟨_, rfl⟩
          rw [hnb] at NR KE NE
          clear hL hx hU hbW hZ hnb
          have u0 : (0 : Int) ≤ (U : Int) := by omega
          have u1 : (U : Int) < (C : Int) := by omega
          go_wp2_with fail
          refine (RW.out T _ hlt).mono ?_
          rintro e w3 ⟨q', m', rfl, -, hq', -, hb3⟩
          have K3 := Lib.hid (K.out.step hb3)
          have B3 := Lib.hid (B.out.trans (hb3.mono B.out.size))
          obtain ⟨g9, o9, hag, hcell⟩ := CXX.out w3 B3.out
          obtain rfl := hq' g9 o9 hag (by omega)
          clear hb3 hq' hag p0 p1 p2 K B
          go_wp2_with fail
          refine (NR.out _).mono ?_
          rintro e w4 ⟨rfl, hb4⟩
          have K4 := Lib.hid (K3.out.step hb4)
          have B4 := Lib.hid (B3.out.trans (hb4.mono B3.out.size))
          clear hb4 K3 B3 hcell u0 u1
          cases nb with
          | false =>
            have LE := Lib.hid (KE.out rfl)
            go_wp2_with fail
            go_roundw
            case rel => exact ⟨b + 1, by rw [LE.out], by rw [LE.out], by rw [LE.out, EZ.out], by rw [← Nat.add_assoc, EU.out]; go_num, by have := EU.out; omega, K4.out, B4.out⟩
            case measure => simp [intOf]; omega
          | true =>
            have LE := Lib.hid (NE.out rfl)
            go_wp2_with fail
            go_roundw
            case rel => exact ⟨b + 1, by rw [LE.out.1], by rw [LE.out.2.1], by rw [LE.out.2.2], by rw [← Nat.add_assoc, EU.out]; go_num, by have := EU.out; omega, K4.out, B4.out⟩
            case measure => simp [intOf]; omega
        · have hbe : b = W := by have := WC.out; omega
          have SE : Hid (a' * W + b = (a' + 1) * W) := by refine Lib.hid ?_; rw [hbe, Nat.succ_mul]
          clear hbe
          go_wp2_with fail
          go_roundw
          case rel => exact ⟨a' + 1, by rw [SE.out], by rw [SE.out], by rw [SE.out], by rw [← Nat.add_assoc, ET.out]; go_num, by have := ET.out; omega, K.out, B.out⟩
          case measure => simp [intOf]; omega
    · have SE : Hid (a' = R - t) := by show _ = _; omega
      rw [SE.out]
      obtain ⟨zz, hzz⟩ : ∃ zz, y (f ((R - t) * W)) = zz := ⟨_, rfl⟩
      have OK := OKZ.out
      rw [hzz] at OK ⊢
      have e9 : ¬ t + (R - t) < R := by omega
      clear hzz SE hlt ha
      go_wp2_with fail
      exact bodyPost_ret (v := .tuple #[.int .i64 (r (f ((R - t) * W))), .int .i64 (c (f ((R - t) * W))), .bool okb]) (by simp [results, Try.results61, go_sem]) rfl ⟨rfl, B.out⟩
end Go.Proofs.Ytpelnfenfeoeeaa
end

section
/-
  Chapter 13, in the program: a column, a diagonal, in memory of their own.
-/
namespace Go.Proofs.Ytpelnfenfeoeeaa
set_option maxRecDepth 100000
open Go.RowKit
def upV (v : Nat → Int) (N k : Nat) : List Int := (List.range N).map fun i => if i < k then v i else 0
theorem upV_length (v : Nat → Int) (N k : Nat) : (upV v N k).length = N := by simp [upV]
theorem upV_at {v : Nat → Int} {N k i : Nat} (hi : i < N) : (upV v N k).getD i 0 = if i < k then v i else 0 := by simp [upV, List.getD, hi]
theorem upV_zero (v : Nat → Int) (N : Nat) : upV v N 0 = List.replicate N 0 := by
  refine list_getD (by rw [upV_length, List.length_replicate]) fun p hp => ?_
  rw [upV_length] at hp
  rw [upV_at hp, if_neg (Nat.not_lt_zero _)]
  simp [List.getD, hp]
theorem upV_all (v : Nat → Int) (N : Nat) : upV v N N = rwL N v := by
  refine list_getD (by rw [upV_length, rwL_length]) fun p hp => ?_
  rw [upV_length] at hp
  rw [upV_at hp, if_pos hp, rwL_at hp]
theorem upV_set {v : Nat → Int} {N k : Nat} (hk : k < N) : (upV v N k).set k (v k) = upV v N (k + 1) := by
  refine list_getD (by rw [List.length_set, upV_length, upV_length]) fun p hp => ?_
  rw [List.length_set, upV_length] at hp
  rw [getD_set _ _ _ _ (by rw [upV_length]; exact hk), upV_at hp, upV_at hp]
  by_cases e : p = k
  · rw [if_pos e, e, if_pos (Nat.lt_succ_self _)]
  · rw [if_neg e]
    by_cases h : p < k
    · rw [if_pos h, if_pos (by omega)]
    · rw [if_neg h, if_neg (by omega)]
def LineRes (N : Nat) (v : Nat → Int) (w : World) (e : Ending) (w' : World) : Prop := ∃ g : Nat, e = .returned (.slice (some ⟨g, 0, none⟩) N N) ∧ w.heap.size ≤ g ∧ Ints w' g (rwL N v) ∧ Below w.heap.size w w'
set_option maxHeartbeats 2000000 in
theorem iColOf (R C : Nat) (a : Option Addr) (n m j : Nat) (xs : List Int) (w : World) (h : Rd w a xs) (hA : CelA a n m) (hx : xs.length = n) (hn : n = R * C) (hR : R ≤ 24) (hC : C ≤ 24) (hj : j < C) :
    Calls Try.prog 151 #[.agg #[.int .i64 R, .int .i64 C, .slice a n m], .int .i64 j] w (LineRes R (fun i => mxC C xs i j) w) := by
  have hle : R * C ≤ 24 * 24 := Nat.mul_le_mul hR hC
  have RW : Hid (∀ i w', i < R → Calls Try.prog 83 #[.agg #[.int .i64 R, .int .i64 C, .slice a n m], .int .i64 i] w' (RowAt a (i * C) C w')) := fun i w' hi => iRowIn R C i (i * C) n m a w' hA.spot rfl (by rw [hn, ← Nat.succ_mul]; exact Nat.mul_le_mul_right _ hi) hA.le hA.nil (by omega) (by omega)
  have CX : Hid (∀ i w', i < R → Below w.heap.size w w' → ∃ g o : Nat, a = some ⟨g, o, none⟩ ∧ w'.cell? ⟨g, o + i * C + j, none⟩ = some (.int .i64 (mxC C xs i j))) := fun i w' hi hb => by
    obtain ⟨g, o, h1, h2⟩ := h.below hb (i * C + j) (by rw [hx, hn]; exact idx_lt hi hj)
    exact ⟨g, o, h1, by rw [Nat.add_assoc]; exact h2⟩
  obtain ⟨v, hv⟩ : ∃ v : Nat → Int, (fun i => mxC C xs i j) = v := ⟨_, rfl⟩
  have CX : Hid (∀ i w', i < R → Below w.heap.size w w' → ∃ g o : Nat, a = some ⟨g, o, none⟩ ∧ w'.cell? ⟨g, o + i * C + j, none⟩ = some (.int .i64 (v i))) := by rw [← hv]; exact CX
  rw [hv]
  clear h hA hx hn hv hle
  go_enter Try.func151, Try.ntmps151
  have hmk := makeInts R (by omega)
  have I0 : Hid (Ints ((w.alloc (.cells #[.int .i64 R, .int .i64 C, .slice a n m] 26)).alloc (.cells (madeCells #[.int .i64 0] R) 3)) (w.heap.size + 1) (upV v R 0)) := by
    refine Lib.hid ?_
    rw [upV_zero]
    exact Ints.made R (by simp)
  have K0 : Hid (Blk3 ((w.alloc (.cells #[.int .i64 R, .int .i64 C, .slice a n m] 26)).alloc (.cells (madeCells #[.int .i64 0] R) 3)) w.heap.size 26 (.int .i64 R) (.int .i64 C) (.slice a n m)) := (Blk3.at_ _ _ _ _ rfl).old _
  have B0 : Hid (Below w.heap.size w ((w.alloc (.cells #[.int .i64 R, .int .i64 C, .slice a n m] 26)).alloc (.cells (madeCells #[.int .i64 0] R) 3))) := ((Below.refl _ _).alloc (Nat.le_refl _) _).alloc (by simp) _
  have S0 : Hid (((w.alloc (.cells #[.int .i64 R, .int .i64 C, .slice a n m] 26)).alloc (.cells (madeCells #[.int .i64 0] R) 3)).heap.size = w.heap.size + 2) := by show _ = _; simp
  go_wp2_with fail
  generalize (w.alloc (.cells #[.int .i64 R, .int .i64 C, .slice a n m] 26)).alloc (.cells (madeCells #[.int .i64 0] R) 3) = W0 at I0 K0 B0 S0 ⊢
  clear hmk
  go_loopw [6, 12] (fun _ v9 wq => ∃ k : Nat, v9 = .int .i64 k ∧ k ≤ R ∧ Ints wq (w.heap.size + 1) (upV v R k) ∧ FrS (fun b => b = w.heap.size + 1) W0 wq) (fun _ v9 _ => R - (intOf v9).toNat)
  case atStart => exact ⟨0, rfl, by omega, I0.out, FrS.refl _ _⟩
  case round =>
    clear I0
    obtain ⟨k, rfl, hk, hi, hfr⟩ := hrel
    have I := Lib.hid hi
    have F := Lib.hid hfr
    clear hi hfr
    have K := Lib.hid (K0.out.frs F.out (by omega))
    have B := Lib.hid (B0.out.trans (F.out.below (B := w.heap.size) (fun k hk => by omega) B0.out.size))
    obtain ⟨p0, p1, p2, -, -, -⟩ := K.out.all
    by_cases hlt : k < R
    · have CXX := Lib.hid (fun w' h9 => CX.out k w' hlt h9)
      have US := Lib.hid (upV_set (v := v) hlt)
      obtain ⟨x, hx⟩ : ∃ x, v k = x := ⟨_, rfl⟩
      rw [hx] at CXX US
      clear hx
      go_wp2_with fail
      refine (RW.out k _ hlt).mono ?_
      rintro e w3 ⟨q', m', rfl, -, hq', -, hb3⟩
      have B3 := Lib.hid (B.out.trans (hb3.mono B.out.size))
      obtain ⟨g9, o9, hag, hcell⟩ := CXX.out w3 B3.out
      obtain rfl := hq' g9 o9 hag (by omega)
      have I3 := Lib.hid (I.out.keep hb3 I.out.lt)
      have F3 := Lib.hid (F.out.trans (FrS.of_below hb3))
      have hold := I3.out.cell (i := k) (by rw [upV_length]; exact hlt)
      have hfree := I3.out.free k
      have u1 : (k : Int) < (R : Int) := by omega
      have u2 : (j : Int) < (C : Int) := by omega
      clear hb3 hq' hag p0 p1 p2
      go_wp2_with fail
      go_roundw
      case rel => exact ⟨k + 1, by go_num, by omega, by rw [← US.out]; exact I3.out.set k x, F3.out.set (a := ⟨w.heap.size + 1, k, none⟩) (.inl rfl) _⟩
      case measure => simp [intOf]; omega
    · have hkN : k = R := by omega
      have II : Hid (Ints wr (w.heap.size + 1) (rwL R v)) := by refine Lib.hid ?_; rw [← upV_all, ← hkN]; rw [← hkN] at I; exact I.out
      clear hkN
      go_wp2_with fail
      go_ret
      exact ⟨_, rfl, by omega, II.out, B.out⟩
set_option maxHeartbeats 4000000 in
theorem iDiagOf (R C : Nat) (a : Option Addr) (n m : Nat) (xs : List Int) (w : World) (h : Rd w a xs) (hA : CelA a n m) (hx : xs.length = n) (hn : n = R * C) (hR : R ≤ 24) (hC : C ≤ 24) :
    Calls Try.prog 64 #[.agg #[.int .i64 R, .int .i64 C, .slice a n m]] w (LineRes (min R C) (fun i => mxC C xs i i) w) := by
  have hle : R * C ≤ 24 * 24 := Nat.mul_le_mul hR hC
  have RW : Hid (∀ i w', i < R → Calls Try.prog 83 #[.agg #[.int .i64 R, .int .i64 C, .slice a n m], .int .i64 i] w' (RowAt a (i * C) C w')) := fun i w' hi => iRowIn R C i (i * C) n m a w' hA.spot rfl (by rw [hn, ← Nat.succ_mul]; exact Nat.mul_le_mul_right _ hi) hA.le hA.nil (by omega) (by omega)
  have CX : Hid (∀ i w', i < R → i < C → Below w.heap.size w w' → ∃ g o : Nat, a = some ⟨g, o, none⟩ ∧ w'.cell? ⟨g, o + i * C + i, none⟩ = some (.int .i64 (mxC C xs i i))) := fun i w' hi hj hb => by
    obtain ⟨g, o, h1, h2⟩ := h.below hb (i * C + i) (by rw [hx, hn]; exact idx_lt hi hj)
    exact ⟨g, o, h1, by rw [Nat.add_assoc]; exact h2⟩
  obtain ⟨v, hv⟩ : ∃ v : Nat → Int, (fun i => mxC C xs i i) = v := ⟨_, rfl⟩
  have CX : Hid (∀ i w', i < R → i < C → Below w.heap.size w w' → ∃ g o : Nat, a = some ⟨g, o, none⟩ ∧ w'.cell? ⟨g, o + i * C + i, none⟩ = some (.int .i64 (v i))) := by rw [← hv]; exact CX
  rw [hv]
  clear h hA hx hn hv hle
  rcases Nat.lt_or_ge C R with hCR | hCR
  · have CX : Hid (∀ i w', i < C → Below w.heap.size w w' → ∃ g o : Nat, a = some ⟨g, o, none⟩ ∧ w'.cell? ⟨g, o + i * C + i, none⟩ = some (.int .i64 (v i))) := fun i w' h1 h2 => CX.out i w' (by omega) h1 h2
    have RW : Hid (∀ i w', i < C → Calls Try.prog 83 #[.agg #[.int .i64 R, .int .i64 C, .slice a n m], .int .i64 i] w' (RowAt a (i * C) C w')) := fun i w' h1 => RW.out i w' (by omega)
    rw [Nat.min_eq_right (Nat.le_of_lt hCR)]
    have vm4 : min (R : Int) (C : Int) = (C : Int) := by omega
    go_enter Try.func64, Try.ntmps64
    have hmk := makeInts C (by omega)
    have I0 : Hid (Ints ((w.alloc (.cells #[.int .i64 R, .int .i64 C, .slice a n m] 26)).alloc (.cells (madeCells #[.int .i64 0] C) 3)) (w.heap.size + 1) (upV v C 0)) := by
      refine Lib.hid ?_
      rw [upV_zero]
      exact Ints.made C (by simp)
    have K0 : Hid (Blk3 ((w.alloc (.cells #[.int .i64 R, .int .i64 C, .slice a n m] 26)).alloc (.cells (madeCells #[.int .i64 0] C) 3)) w.heap.size 26 (.int .i64 R) (.int .i64 C) (.slice a n m)) := (Blk3.at_ _ _ _ _ rfl).old _
    have B0 : Hid (Below w.heap.size w ((w.alloc (.cells #[.int .i64 R, .int .i64 C, .slice a n m] 26)).alloc (.cells (madeCells #[.int .i64 0] C) 3))) := ((Below.refl _ _).alloc (Nat.le_refl _) _).alloc (by simp) _
    have S0 : Hid (((w.alloc (.cells #[.int .i64 R, .int .i64 C, .slice a n m] 26)).alloc (.cells (madeCells #[.int .i64 0] C) 3)).heap.size = w.heap.size + 2) := by show _ = _; simp
    go_wp2_with fail
    generalize (w.alloc (.cells #[.int .i64 R, .int .i64 C, .slice a n m] 26)).alloc (.cells (madeCells #[.int .i64 0] C) 3) = W0 at I0 K0 B0 S0 ⊢
    clear hmk
    go_loopw [4, 13] (fun _ v9 wq => ∃ k : Nat, v9 = .int .i64 k ∧ k ≤ C ∧ Ints wq (w.heap.size + 1) (upV v C k) ∧ FrS (fun b => b = w.heap.size + 1) W0 wq) (fun _ v9 _ => C - (intOf v9).toNat)
    case atStart => exact ⟨0, rfl, by omega, I0.out, FrS.refl _ _⟩
    case round =>
      clear I0
      obtain ⟨k, rfl, hk, hi, hfr⟩ := hrel
      have I := Lib.hid hi
      have F := Lib.hid hfr
      clear hi hfr
      have K := Lib.hid (K0.out.frs F.out (by omega))
      have B := Lib.hid (B0.out.trans (F.out.below (B := w.heap.size) (fun k hk => by omega) B0.out.size))
      obtain ⟨p0, p1, p2, -, -, -⟩ := K.out.all
      by_cases hlt : k < C
      · have CXX := Lib.hid (fun w' h9 => CX.out k w' hlt h9)
        have US := Lib.hid (upV_set (v := v) hlt)
        obtain ⟨x, hx⟩ : ∃ x, v k = x := ⟨_, rfl⟩
        rw [hx] at CXX US
        clear hx
        go_wp2_with fail
        refine (RW.out k _ hlt).mono ?_
        rintro e w3 ⟨q', m', rfl, -, hq', -, hb3⟩
        have B3 := Lib.hid (B.out.trans (hb3.mono B.out.size))
        obtain ⟨g9, o9, hag, hcell⟩ := CXX.out w3 B3.out
        obtain rfl := hq' g9 o9 hag (by omega)
        have I3 := Lib.hid (I.out.keep hb3 I.out.lt)
        have F3 := Lib.hid (F.out.trans (FrS.of_below hb3))
        have hold := I3.out.cell (i := k) (by rw [upV_length]; exact hlt)
        have hfree := I3.out.free k
        have u1 : (k : Int) < (C : Int) := by omega
        have u2 : (k : Int) < (C : Int) := by omega
        clear hb3 hq' hag p0 p1 p2
        go_wp2_with fail
        go_roundw
        case rel => exact ⟨k + 1, by go_num, by omega, by rw [← US.out]; exact I3.out.set k x, F3.out.set (a := ⟨w.heap.size + 1, k, none⟩) (.inl rfl) _⟩
        case measure => simp [intOf]; omega
      · have hkN : k = C := by omega
        have II : Hid (Ints wr (w.heap.size + 1) (rwL C v)) := by refine Lib.hid ?_; rw [← upV_all, ← hkN]; rw [← hkN] at I; exact I.out
        clear hkN
        go_wp2_with fail
        go_ret
        exact ⟨_, rfl, by omega, II.out, B.out⟩
  · have CX : Hid (∀ i w', i < R → Below w.heap.size w w' → ∃ g o : Nat, a = some ⟨g, o, none⟩ ∧ w'.cell? ⟨g, o + i * C + i, none⟩ = some (.int .i64 (v i))) := fun i w' h1 h2 => CX.out i w' h1 (by omega) h2
    have hCR2 : ¬ C < R := by omega
    rw [Nat.min_eq_left hCR]
    have vm4 : min (R : Int) (C : Int) = (R : Int) := by omega
    go_enter Try.func64, Try.ntmps64
    have hmk := makeInts R (by omega)
    have I0 : Hid (Ints ((w.alloc (.cells #[.int .i64 R, .int .i64 C, .slice a n m] 26)).alloc (.cells (madeCells #[.int .i64 0] R) 3)) (w.heap.size + 1) (upV v R 0)) := by
      refine Lib.hid ?_
      rw [upV_zero]
      exact Ints.made R (by simp)
    have K0 : Hid (Blk3 ((w.alloc (.cells #[.int .i64 R, .int .i64 C, .slice a n m] 26)).alloc (.cells (madeCells #[.int .i64 0] R) 3)) w.heap.size 26 (.int .i64 R) (.int .i64 C) (.slice a n m)) := (Blk3.at_ _ _ _ _ rfl).old _
    have B0 : Hid (Below w.heap.size w ((w.alloc (.cells #[.int .i64 R, .int .i64 C, .slice a n m] 26)).alloc (.cells (madeCells #[.int .i64 0] R) 3))) := ((Below.refl _ _).alloc (Nat.le_refl _) _).alloc (by simp) _
    have S0 : Hid (((w.alloc (.cells #[.int .i64 R, .int .i64 C, .slice a n m] 26)).alloc (.cells (madeCells #[.int .i64 0] R) 3)).heap.size = w.heap.size + 2) := by show _ = _; simp
    go_wp2_with fail
    generalize (w.alloc (.cells #[.int .i64 R, .int .i64 C, .slice a n m] 26)).alloc (.cells (madeCells #[.int .i64 0] R) 3) = W0 at I0 K0 B0 S0 ⊢
    clear hmk
    go_loopw [4, 13] (fun _ v9 wq => ∃ k : Nat, v9 = .int .i64 k ∧ k ≤ R ∧ Ints wq (w.heap.size + 1) (upV v R k) ∧ FrS (fun b => b = w.heap.size + 1) W0 wq) (fun _ v9 _ => R - (intOf v9).toNat)
    case atStart => exact ⟨0, rfl, by omega, I0.out, FrS.refl _ _⟩
    case round =>
      clear I0
      obtain ⟨k, rfl, hk, hi, hfr⟩ := hrel
      have I := Lib.hid hi
      have F := Lib.hid hfr
      clear hi hfr
      have K := Lib.hid (K0.out.frs F.out (by omega))
      have B := Lib.hid (B0.out.trans (F.out.below (B := w.heap.size) (fun k hk => by omega) B0.out.size))
      obtain ⟨p0, p1, p2, -, -, -⟩ := K.out.all
      by_cases hlt : k < R
      · have CXX := Lib.hid (fun w' h9 => CX.out k w' hlt h9)
        have US := Lib.hid (upV_set (v := v) hlt)
        obtain ⟨x, hx⟩ : ∃ x, v k = x := ⟨_, rfl⟩
        rw [hx] at CXX US
        clear hx
        go_wp2_with fail
        refine (RW.out k _ hlt).mono ?_
        rintro e w3 ⟨q', m', rfl, -, hq', -, hb3⟩
        have B3 := Lib.hid (B.out.trans (hb3.mono B.out.size))
        obtain ⟨g9, o9, hag, hcell⟩ := CXX.out w3 B3.out
        obtain rfl := hq' g9 o9 hag (by omega)
        have I3 := Lib.hid (I.out.keep hb3 I.out.lt)
        have F3 := Lib.hid (F.out.trans (FrS.of_below hb3))
        have hold := I3.out.cell (i := k) (by rw [upV_length]; exact hlt)
        have hfree := I3.out.free k
        have u1 : (k : Int) < (R : Int) := by omega
        have u2 : (k : Int) < (C : Int) := by omega
        clear hb3 hq' hag p0 p1 p2
        go_wp2_with fail
        go_roundw
        case rel => exact ⟨k + 1, by go_num, by omega, by rw [← US.out]; exact I3.out.set k x, F3.out.set (a := ⟨w.heap.size + 1, k, none⟩) (.inl rfl) _⟩
        case measure => simp [intOf]; omega
      · have hkN : k = R := by omega
        have II : Hid (Ints wr (w.heap.size + 1) (rwL R v)) := by refine Lib.hid ?_; rw [← upV_all, ← hkN]; rw [← hkN] at I; exact I.out
        clear hkN
        go_wp2_with fail
        go_ret
        exact ⟨_, rfl, by omega, II.out, B.out⟩
end Go.Proofs.Ytpelnfenfeoeeaa
end

section
/-
  Chapter 13, in the program: a round.
-/
namespace Go.Proofs.Ytpelnfenfeoeeaa
set_option maxRecDepth 100000
open Go.RowKit
theorem Own.blk_ne {B g o n m px : Nat} {w : World} {zs : List Int} (h : Own B w (.slice (some ⟨g, o, none⟩) n m) zs) (hb : (Value.slice (some ⟨g, o, none⟩) n m).ownBlock ≠ some px) : g ≠ px := fun e => by
  apply hb
  rcases h with ⟨h, -⟩ | ⟨g2, c, h, -⟩
  · cases h
  · injection h with h1 _ _
    injection h1 with h1
    injection h1 with h1 h2
    rw [h2, e]
    rfl
set_option maxHeartbeats 4000000 in
theorem iRound (R C px B t i j : Nat) (s : SSt) (w : World) (h : TsW R C px B s w) (hR : R ≤ 24) (hC : C ≤ 24) (ho : ok3 s = true) (htR : t < R) (htC : t < C) (hiR : i < R) (hjC : j < C) (hP : plS R C t s = some (i, j)) (hz : cel3S C (sw3 R C t i j s) t t ≠ 0) :
    Calls Try.prog 117 #[.pointer (some ⟨px, 0, none⟩), .int .i64 t] w (TsRes R C px B (rdF R C t (sw3 R C t i j s)) w) := by
  have hle := le600 hR hC
  obtain ⟨e1, e2, e3⟩ := lc_some hP
  have LC : Hid (∀ (qa : Option Addr) (ma : Nat) w', Own B w' (.slice qa (R * C) ma) s.1 → Calls Try.prog 61 #[.agg #[.int .i64 R, .int .i64 C, .slice qa (R * C) ma], .int .i64 t] w' (Gives (.tuple #[.int .i64 i, .int .i64 j, .bool true]) w')) := fun qa ma w' hw => by
    have := iLeastCell R C qa (R * C) ma t s w' hw.rdS hw.celA h.siz.l1 rfl hR hC htR htC (ok3_and ho).1
    rw [e1, e2, e3] at this
    exact this
  obtain ⟨st1, hst1⟩ : ∃ st1, (if i ≠ t then row3 R C 0 i t 0 s else s) = st1 := ⟨_, rfl⟩
  have o1 : ok3 st1 = true := by
    rw [← hst1]; split
    · exact ok3_swapR ho
    · exact ho
  have BR : Hid (∀ w', TsW R C px B s w' → Calls Try.prog 149 #[.func (.func 120) #[.pointer (some ⟨px, 0, none⟩)] #[], .int .i64 i, .int .i64 t] w' (fun e w2 => e = .returned (.bool true) ∧ FrS (fun b => b = px) w' w2 ∧ TsW R C px B st1 w2)) := fun w' hw => by
    have := iBringR R C px B i t s w' hw hR hC ho hiR htR
    rw [hst1] at this
    refine this.mono ?_
    rintro e w2 ⟨q1, q2, q3⟩
    exact ⟨by rw [q1, o1], q2, q3 o1⟩
  have es : (if j ≠ t then col3 C 0 j t 0 st1 else st1) = sw3 R C t i j s := by unfold sw3; rw [hst1]
  have o2 := ok3_sw (R := R) (C := C) (t := t) (i := i) (j := j) ho
  obtain ⟨st2, hst2⟩ : ∃ st2, sw3 R C t i j s = st2 := ⟨_, rfl⟩
  rw [hst2] at es o2 hz ⊢
  have BC : Hid (∀ w', TsW R C px B st1 w' → Calls Try.prog 149 #[.func (.func 148) #[.pointer (some ⟨px, 0, none⟩)] #[], .int .i64 j, .int .i64 t] w' (fun e w2 => e = .returned (.bool true) ∧ FrS (fun b => b = px) w' w2 ∧ TsW R C px B st2 w2)) := fun w' hw => by
    have := iBringC R C px B j t st1 w' hw hR hC o1 hjC htC
    rw [es] at this
    refine this.mono ?_
    rintro e w2 ⟨q1, q2, q3⟩
    exact ⟨by rw [q1, o2], q2, q3 o2⟩
  have CO : Hid (∀ (qa : Option Addr) (ma : Nat) w', Siz3 R C st2 → Own B w' (.slice qa (R * C) ma) st2.1 → Calls Try.prog 151 #[.agg #[.int .i64 R, .int .i64 C, .slice qa (R * C) ma], .int .i64 t] w' (LineRes R (fun i => mxC C st2.1 i t) w')) := fun qa ma w' hs hw => iColOf R C qa (R * C) ma t st2.1 w' hw.rdS hw.celA hs.l1 rfl hR hC htC
  obtain ⟨p, hp⟩ : ∃ p, cel3S C st2 t t = p := ⟨_, rfl⟩
  rw [hp] at hz
  obtain ⟨s3, hs3⟩ : ∃ s3, rowsF R C t p st2 (R - t - 1) = s3 := ⟨_, rfl⟩
  have DR : Hid (∀ g w', TsW R C px B st2 w' → Ints w' g (rwL R (fun i => mxC C st2.1 i t)) → g ≠ px → Calls Try.prog 150 #[.func (.func 120) #[.pointer (some ⟨px, 0, none⟩)] #[], .slice (some ⟨g, 0, none⟩) R R, .int .i64 t] w' (TsRes R C px B s3 w')) := fun g w' hw hi hg => by
    rw [← hs3]
    exact iDivR R C px B t R _ _ p st2 w' hw hR hC o2 hi.rd (rwL_length _ _) (fun b o e => by injection e with e; injection e with e1 _; rw [← e1]; exact hg) htR htC (fun i hi => by rw [rwL_at hi]; rfl) (by rw [rwL_at htR]; exact hp) hz
  have RB : Hid (Siz3 R C st2 → ok3 s3 = false → ok3 (rdF R C t st2) = false) := fun hs h9 => rd_bad_rows hs htR htC (n := R - t - 1) (by omega) (by rw [hp, hs3]; exact h9)
  have KP : Hid (Siz3 R C st2 → cel3S C s3 t t = p) := fun hs => by rw [← hs3, ← hp]; exact rowsF_keep hs _ (by omega) t t htR htC (.inl (Nat.le_refl _))
  have RI : Hid (∀ (g o ma : Nat) w', Own B w' (.slice (some ⟨g, o, none⟩) (R * C) ma) s3.1 → Calls Try.prog 83 #[.agg #[.int .i64 R, .int .i64 C, .slice (some ⟨g, o, none⟩) (R * C) ma], .int .i64 t] w' (fun e w2 => ∃ m', e = .returned (.slice (some ⟨g, o + t * C, none⟩) C m') ∧ Below w'.heap.size w' w2)) := fun g o ma w' hw => (iRowIn R C t (t * C) (R * C) ma _ w' hw.celA.spot rfl (by rw [← Nat.succ_mul]; exact Nat.mul_le_mul_right _ htR) hw.celA.le hw.celA.nil (by omega) (by omega)).mono fun e w2 ⟨q', m', h1, _, h2, _, h3⟩ => ⟨m', by rw [h1, h2 g o rfl (by omega)], h3⟩
  have DC : Hid (∀ (g o m' : Nat) w', Siz3 R C st2 → ok3 s3 = true → TsW R C px B s3 w' → Rd w' (some ⟨g, o, none⟩) (rwL C (mxC C s3.1 t)) → g ≠ px → Calls Try.prog 150 #[.func (.func 148) #[.pointer (some ⟨px, 0, none⟩)] #[], .slice (some ⟨g, o, none⟩) C m', .int .i64 t] w' (TsRes R C px B (rdF R C t st2) w')) := fun g o m' w' hs h9 hw hi hg => by
    have := iDivC R C px B t m' _ _ p s3 w' hw hR hC h9 hi (rwL_length _ _) (fun b o e => by injection e with e; injection e with e1 _; rw [← e1]; exact hg) htC htR (fun i hi => by rw [rwL_at hi]; rfl) (by rw [rwL_at htC]; exact KP.out hs) hz
    rw [← hs3, ← hp] at this
    exact this
  have RDR : Hid (∀ (g o : Nat) w', Siz3 R C s3 → Rd w' (some ⟨g, o, none⟩) s3.1 → Rd w' (some ⟨g, o + t * C, none⟩) (rwL C (mxC C s3.1 t))) := fun g o w' hs hw => hw.row (r := R) hs.l1 htR (fun g' o' e _ => by injection e with e; injection e with e1 e2; rw [e1, e2])
  have HA : Hid (∀ (qa : Option Addr) w', Siz3 R C s3 → Rd w' qa s3.1 → ∃ g o : Nat, qa = some ⟨g, o, none⟩) := fun qa w' hs hw => by
    obtain ⟨g, o, e, -⟩ := hw (t * C + t) (by rw [hs.l1]; exact idx_lt htR htC)
    exact ⟨g, o, e⟩
  have W0 := Lib.hid h
  generalize rdF R C t st2 = s9 at RB DC ⊢
  clear h hR hC ho hP hz hp hs3 hst1 hst2 es o1 o2 e1 e2 e3 hiR hjC KP
  obtain ⟨qa, qu, qv, ma, mu, mv, q⟩ := W0.out
  have QX := Lib.hid q
  obtain ⟨c0, c1, c2, -⟩ := q.k.all
  clear q
  go_enter Try.func117, Try.ntmps117
  go_wp2_with fail
  refine (LC.out qa ma _ QX.out.fA).mono ?_
  rintro e w1 ⟨rfl, hb⟩
  have W1 := Lib.hid (W0.out.step hb)
  have F1 : Hid (FrS (fun b => b = px) w w1) := FrS.of_below hb
  clear hb LC W0 QX c0 c1 c2
  go_wp2_with fail
  refine (BR.out _ W1.out).mono ?_
  rintro e w2 ⟨rfl, hf, hw⟩
  have W2 := Lib.hid hw
  have F2 := Lib.hid (F1.out.trans hf)
  clear hf hw BR W1 F1
  go_wp2_with fail
  refine (BC.out _ W2.out).mono ?_
  rintro e w3 ⟨rfl, hf, hw⟩
  have W3 := Lib.hid hw
  have F3 := Lib.hid (F2.out.trans hf)
  clear hf hw BC W2 F2
  obtain ⟨qa, qu, qv, ma, mu, mv, q⟩ := W3.out
  have QX := Lib.hid q
  obtain ⟨c0, c1, c2, -⟩ := q.k.all
  have SZ2 := Lib.hid q.siz
  clear q
  go_wp2_with fail
  refine (CO.out qa ma _ SZ2.out QX.out.fA).mono ?_
  rintro e w4 ⟨g, rfl, hg, hi, hb⟩
  have W4 := Lib.hid (W3.out.step hb)
  have F4 := Lib.hid (F3.out.trans (FrS.of_below hb))
  have IG := Lib.hid hi
  have GP : g ≠ px := by have := W3.out.lt; omega
  clear hb hi hg CO W3 F3 QX c0 c1 c2
  go_wp2_with fail
  refine (DR.out g _ W4.out IG.out GP).mono ?_
  rintro e w5 ⟨rfl, hf, hw⟩
  have F5 := Lib.hid (F4.out.trans hf)
  have HW := Lib.hid hw
  obtain ⟨ok, hok⟩ : ∃ ok, ok3 s3 = ok := ⟨_, rfl⟩
  rw [hok] at RB DC HW ⊢
  clear hf hw DR W4 F4 IG GP hok
  cases ok with
  | false =>
    have V := Lib.hid (RB.out SZ2.out (by trivial))
    go_wp2_with fail
    go_ret
    exact ⟨by rw [V.out]; rfl, F5.out, fun h => by rw [V.out] at h; cases h⟩
  | true =>
    have W5 := Lib.hid (HW.out (by trivial))
    obtain ⟨qa, qu, qv, ma, mu, mv, q⟩ := W5.out
    obtain ⟨c0, c1, c2, -⟩ := q.k.all
    obtain ⟨g, o, rfl⟩ := HA.out qa _ q.siz q.fA.rdS
    have GP := q.fA.blk_ne (q.fA.ne9 q.k)
    have QX := Lib.hid q
    have RR := Lib.hid (RDR.out g o _ q.siz q.fA.rdS)
    clear q HW HA RDR
    go_wp2_with fail
    refine (RI.out g o ma _ QX.out.fA).mono ?_
    rintro e w6 ⟨m', rfl, hb⟩
    have W6 := Lib.hid (W5.out.step hb)
    have F6 := Lib.hid (F5.out.trans (FrS.of_below hb))
    have R6 := Lib.hid (RR.out.below hb)
    clear hb RI W5 F5 QX c0 c1 c2 RR
    go_wp2_with fail
    refine (DC.out g _ m' _ SZ2.out (by trivial) W6.out R6.out GP).mono ?_
    rintro e w7 ⟨rfl, hf, hw⟩
    have F7 := Lib.hid (F6.out.trans hf)
    have HW := Lib.hid hw
    clear hf hw DC W6 F6 R6 GP
    go_wp2_with fail
    go_ret
    exact ⟨rfl, F7.out, HW.out⟩
end Go.Proofs.Ytpelnfenfeoeeaa
end
