/-
  Texts of this seat, joined: HmZ · RI1 · RI2 · RI3 · RI3a
-/
import Derived.Handy
import Derived.Deep.QuietTactic
import Derived.Test.YtpknondccajinaaPk1
import Derived.Test.YtpknondccajinaaPk3
import Derived.Test.YtpknondccajinaaPk4
import Derived.Test.YtpknondccajinaaPk8
import Derived.Test.YtpknondccajinaaPk10

section
/-
  Chapter 12, in the model: BasisOf.
-/
namespace Go.Proofs.Ytpknondccajinaa
set_option maxRecDepth 100000
open Go.RowKit

/-- As appendCopy, with what the room is. -/
theorem appendCopy2 (w : World) {B g : Nat} {ab : Option Addr} {bs : List Int} (hs : Spot ab) (mb : Nat) (h : Rd w ab bs) (hn : bs.length ≤ 16777216) (hB : B ≤ w.heap.size) (hg : IntsC w g 0 []) (hgB : B ≤ g) :
    ∃ g' cap w', (Builtin.append_ #[24, 24] 24 #[.slice (some ⟨g, 0, none⟩) 0 0, .slice ab bs.length mb]).run Try.prog w = .ok (.slice (some ⟨g', 0, none⟩) bs.length cap) w' ∧ Ints w' g' bs ∧ B ≤ g' ∧ bs.length ≤ cap ∧ w.grownBy w' (some g) := by
  rcases hs with rfl | ⟨b, o, rfl⟩
  · have hb : bs = [] := by
      cases bs with
      | nil => rfl
      | cons z zs => obtain ⟨_, _, e, _⟩ := h 0 (by simp); cases e
    subst hb
    obtain ⟨-, rest, -, hgg⟩ := hg
    exact ⟨g, 0, w, append_nil w _ 0 mb, ⟨rest, hgg⟩, hgB, Nat.le_refl _, ⟨rfl, rfl, rfl, Nat.le_refl _, fun _ _ _ => rfl⟩⟩
  · have own : w.ownsRow B 3 1 (.slice (some ⟨g, 0, none⟩) 0 0) 0 (([] : List Int).map (Value.int .i64)) := OwnQ.none_ hgB hg
    obtain ⟨v', w', hr, ho, hgr, hne⟩ := appendInts2 w B 0 bs.length mb (.slice (some ⟨g, 0, none⟩) 0 0) [] bs b o own h rfl (by omega) hB
    rw [Nat.zero_add, List.nil_append] at ho
    obtain ⟨-, ⟨rfl, -⟩ | ⟨g', cap, cur, rfl, hB2, hc, hcap, -, -, ht⟩⟩ := ho
    · exact absurd (hne.mp rfl).1 (by simp)
    · refine ⟨g', cap, w', hr, ⟨cur.toList.drop bs.length, ?_⟩, hB2, hcap, hgr⟩
      rw [hc]
      congr 1
      congr 1
      rw [Nat.mul_one] at ht
      rw [← ht, List.take_append_drop]
/-- What BasisOf hands back. -/
def basR (r c : Int) (xs : List Int) : MR := if (herR r c xs).ok = true then ⟨true, (rowsN c.toNat (herR r c xs).zs r.toNat : Nat), c, (herR r c xs).zs.take (rowsN c.toNat (herR r c xs).zs r.toNat * c.toNat)⟩ else ⟨false, 0, 0, []⟩
theorem herR_ok {r c : Int} {xs : List Int} (h : (herR r c xs).ok = true) : ∃ (R C : Nat) (s : HSt), r = R ∧ c = C ∧ R ≤ 24 ∧ C ≤ 24 ∧ herX R C xs = some s ∧ herR r c xs = ⟨true, R, C, s.1, R, R, s.2⟩ ∧ Siz R C s := by
  cases hm : isMat r c xs with
  | false =>
    unfold herR at h
    rw [if_neg (by rw [hm]; decide)] at h
    cases h
  | true =>
    obtain ⟨⟨r0, r1⟩, ⟨c0, c1⟩, hl, nx⟩ := isMat_says hm
    obtain ⟨R, rfl⟩ := Int.eq_ofNat_of_zero_le r0
    obtain ⟨C, rfl⟩ := Int.eq_ofNat_of_zero_le c0
    have hl : xs.length = R * C := by rw [← Int.natCast_mul] at hl; omega
    have e : herR R C xs = HR.of R C (herX R C xs) := by unfold herR; rw [if_pos hm]; rfl
    rw [e] at h ⊢
    cases hx : herX R C xs with
    | none => rw [hx] at h; cases h
    | some s => exact ⟨R, C, s, rfl, rfl, by omega, by omega, hx, rfl, (herX_says hl nx hx).1.siz⟩
theorem herR_zs (r c : Int) (xs : List Int) : (herR r c xs).zs.length ≤ 600 := by
  cases h : (herR r c xs).ok with
  | true =>
    obtain ⟨R, C, s, -, -, hR, hC, -, e, z⟩ := herR_ok h
    have : R * C ≤ 24 * 24 := Nat.mul_le_mul hR hC
    rw [e]
    show s.1.length ≤ 600
    rw [z.l1]; omega
  | false =>
    unfold herR at h ⊢
    split
    · next hm =>
      rw [if_pos hm] at h
      cases hx : herX r.toNat c.toNat xs with
      | none => exact Nat.zero_le _
      | some s => rw [hx] at h; cases h
    · exact Nat.zero_le _
theorem Own.spot {B : Nat} {w : World} {a : Option Addr} {n m : Nat} {zs : List Int} (h : Own B w (.slice a n m) zs) : Spot a ∧ zs.length ≤ m := by
  rcases h with ⟨e, rfl⟩ | ⟨g, cap, e, -, -, h1, -⟩
  · injection e with e1 e2 e3
    exact ⟨.inl e1, Nat.zero_le _⟩
  · injection e with e1 e2 e3
    exact ⟨.inr ⟨g, 0, e1⟩, by omega⟩
/-- The box of the form, in every later world. -/
theorem bzF {W w' : World} {b : Nat} {t : TypeId} {p q r : Value} (h0 : Blk3 W b t p q r) (hb : Below W.heap.size W w') : w'.cell? ⟨b, 1, none⟩ = some q ∧ w'.cell? ⟨b, 2, none⟩ = some r := by
  obtain ⟨-, a2, a3, -, -, -⟩ := (h0.step hb).all
  exact ⟨a2, a3⟩
set_option maxHeartbeats 4000000 in
theorem sBasis (r c : Int) (a : Option Addr) (m : Nat) (xs : List Int) (w : World) (h : Rd w a xs) (hn : xs.length ≤ 16777216) (ha : Spot a) :
    Calls Try.prog 32 #[.agg #[.int .i64 r, .int .i64 c, .slice a xs.length m]] w (MatRes (basR r c xs) w) := by
  have HF : Hid (∀ w', Below w.heap.size w w' → Calls Try.prog 23 #[.agg #[.int .i64 r, .int .i64 c, .slice a xs.length m]] w' (HerG w' (herR r c xs))) := fun w' hb => sHerm r c a m xs w' (h.below hb) hn ha
  cases hok : (herR r c xs).ok with
  | false =>
    have RN : Hid (basR r c xs = ⟨false, 0, 0, []⟩) := by show _ = _; unfold basR; rw [if_neg (by rw [hok]; decide)]
    generalize basR r c xs = RES at RN ⊢
    generalize herR r c xs = HH at HF hok
    generalize xs.length = L at HF ⊢
    clear h hn ha
    go_enter Try.func32, Try.ntmps32
    go_upto_region 1 with fail
    have K0 : Hid (Blk3 ((w.alloc (.cells #[.int .i64 r, .int .i64 c, .slice a L m] 26)).alloc (.cells #[.int .i64 0, .int .i64 0, .slice none 0 0] 26)) w.heap.size 26 (.int .i64 r) (.int .i64 c) (.slice a L m)) := (Blk3.at_ _ _ _ _ rfl).old _
    have R0 : Hid (Blk3 ((w.alloc (.cells #[.int .i64 r, .int .i64 c, .slice a L m] 26)).alloc (.cells #[.int .i64 0, .int .i64 0, .slice none 0 0] 26)) (w.heap.size + 1) 26 (.int .i64 0) (.int .i64 0) (.slice none 0 0)) := Blk3.at_ _ _ _ _ (by simp)
    have B0 : Hid (Below w.heap.size w ((w.alloc (.cells #[.int .i64 r, .int .i64 c, .slice a L m] 26)).alloc (.cells #[.int .i64 0, .int .i64 0, .slice none 0 0] 26))) := ((Below.refl _ _).alloc (Nat.le_refl _) _).alloc (by simp) _
    have S0 : Hid (((w.alloc (.cells #[.int .i64 r, .int .i64 c, .slice a L m] 26)).alloc (.cells #[.int .i64 0, .int .i64 0, .slice none 0 0] 26)).heap.size = w.heap.size + 2) := by show _ = _; simp
    generalize (w.alloc (.cells #[.int .i64 r, .int .i64 c, .slice a L m] 26)).alloc (.cells #[.int .i64 0, .int .i64 0, .slice none 0 0] 26) = W0 at K0 R0 B0 S0 ⊢
    obtain ⟨p0, p1, p2, -, -, -⟩ := K0.out.all
    go_wp2_with fail
    refine (HF.out _ B0.out).mono ?_
    rintro e w1 ⟨va, vb, rfl, oa, ob, -, hb⟩
    obtain ⟨qa, ca, rfl, -, -⟩ := oa.form
    obtain ⟨qb, cb, rfl, -, -⟩ := ob.form
    rw [hok]
    have R1 := Lib.hid (((R0.out.step hb).old (.cells #[.int .i64 HH.r1, .int .i64 HH.c1, .slice qa HH.zs.length ca] 26)).old (.cells #[.int .i64 HH.r2, .int .i64 HH.c2, .slice qb HH.us.length cb] 26))
    have B1 := Lib.hid (((B0.out.trans (hb.mono (by have := S0.out; omega))).alloc (by have := S0.out; have := hb.size; omega) (.cells #[.int .i64 HH.r1, .int .i64 HH.c1, .slice qa HH.zs.length ca] 26)).alloc (by have := S0.out; have := hb.size; simp; omega) (.cells #[.int .i64 HH.r2, .int .i64 HH.c2, .slice qb HH.us.length cb] 26))
    clear hb oa ob p0 p1 p2 K0 R0 B0
    go_upto_region 2 with fail
    generalize (w1.alloc (.cells #[.int .i64 HH.r1, .int .i64 HH.c1, .slice qa HH.zs.length ca] 26)).alloc (.cells #[.int .i64 HH.r2, .int .i64 HH.c2, .slice qb HH.us.length cb] 26) = W1 at R1 B1 ⊢
    obtain ⟨r0, r1, r2, f0, f1, f2⟩ := R1.out.all
    go_wp2_with fail
    obtain ⟨E0, E1, E2, -, -, -⟩ := (((R1.out.set0 (.int .i64 0)).set1 (.int .i64 0)).set2 (.slice none 0 0)).all
    refine bodyPost_ret (v := .tuple #[.agg #[.int .i64 0, .int .i64 0, .slice none 0 0], .bool false]) (by simp [results, Try.results32, go_sem, E0, E1, E2]) rfl ?_
    rw [RN.out]
    exact ⟨_, rfl, .inl ⟨rfl, rfl⟩, ((B1.out.setCell (by show w.heap.size ≤ w.heap.size + 1; omega) _).setCell (by show w.heap.size ≤ w.heap.size + 1; omega) _).setCell (by show w.heap.size ≤ w.heap.size + 1; omega) _⟩
  | true =>
    obtain ⟨R, C, s, rfl, rfl, R24, C24, -, eh, SZ⟩ := herR_ok hok
    have RY : Hid (basR R C xs = ⟨true, (rowsN C s.1 R : Nat), C, s.1.take (rowsN C s.1 R * C)⟩) := by show _ = _; unfold basR; rw [if_pos hok, eh]; rfl
    have hbd : R * C ≤ 24 * 24 := Nat.mul_le_mul R24 C24
    have nR := rowsN_le C s.1 R
    have hP : rowsN C s.1 R * C ≤ R * C := Nat.mul_le_mul_right C nR
    have RW : Hid (∀ (b : Option Addr) (m' : Nat) w', Rd w' b s.1 → Calls Try.prog 71 #[.agg #[.int .i64 R, .int .i64 C, .slice b (R * C) m']] w' (Gives (.int .i64 (rowsN C s.1 R)) w')) := fun b m' w' hr => sRowsH R C (R * C) b m' s.1 w' hr SZ.l1 rfl R24 C24
    have TL : Hid ((s.1.take (rowsN C s.1 R * C)).length = rowsN C s.1 R * C) := by show _ = _; rw [List.length_take, SZ.l1]; omega
    have L1 := Lib.hid SZ.l1
    rw [eh] at HF
    rw [RY.out]
    obtain ⟨n, hn9⟩ : ∃ n, rowsN C s.1 R = n := ⟨_, rfl⟩
    rw [hn9] at RW TL nR hP ⊢
    have v1 : IntKind.i64.wrap ((n : Int) * (C : Int)) = ((n * C : Nat) : Int) := by rw [← Int.natCast_mul]; exact IntWalk.i64_in _ (by omega)
    obtain ⟨P, hP9⟩ : ∃ P, n * C = P := ⟨_, rfl⟩
    rw [hP9] at TL hP v1 ⊢
    obtain ⟨N, hN9⟩ : ∃ N, R * C = N := ⟨_, rfl⟩
    rw [hN9] at RW L1 hP hbd
    generalize xs.length = L at HF ⊢
    clear h hn ha hok eh SZ RY hn9 hP9 hN9
    go_enter Try.func32, Try.ntmps32
    go_upto_region 1 with fail
    have K0 : Hid (Blk3 ((w.alloc (.cells #[.int .i64 R, .int .i64 C, .slice a L m] 26)).alloc (.cells #[.int .i64 0, .int .i64 0, .slice none 0 0] 26)) w.heap.size 26 (.int .i64 R) (.int .i64 C) (.slice a L m)) := (Blk3.at_ _ _ _ _ rfl).old _
    have R0 : Hid (Blk3 ((w.alloc (.cells #[.int .i64 R, .int .i64 C, .slice a L m] 26)).alloc (.cells #[.int .i64 0, .int .i64 0, .slice none 0 0] 26)) (w.heap.size + 1) 26 (.int .i64 0) (.int .i64 0) (.slice none 0 0)) := Blk3.at_ _ _ _ _ (by simp)
    have B0 : Hid (Below w.heap.size w ((w.alloc (.cells #[.int .i64 R, .int .i64 C, .slice a L m] 26)).alloc (.cells #[.int .i64 0, .int .i64 0, .slice none 0 0] 26))) := ((Below.refl _ _).alloc (Nat.le_refl _) _).alloc (by simp) _
    have S0 : Hid (((w.alloc (.cells #[.int .i64 R, .int .i64 C, .slice a L m] 26)).alloc (.cells #[.int .i64 0, .int .i64 0, .slice none 0 0] 26)).heap.size = w.heap.size + 2) := by show _ = _; simp
    generalize (w.alloc (.cells #[.int .i64 R, .int .i64 C, .slice a L m] 26)).alloc (.cells #[.int .i64 0, .int .i64 0, .slice none 0 0] 26) = W0 at K0 R0 B0 S0 ⊢
    obtain ⟨p0, p1, p2, -, -, -⟩ := K0.out.all
    go_wp2_with fail
    refine (HF.out _ B0.out).mono ?_
    rintro e w1 ⟨va, vb, rfl, oa, ob, -, hb⟩
    dsimp only at oa ob ⊢
    obtain ⟨qa, ca, rfl, hqa, -⟩ := oa.form
    obtain ⟨qb, cb, rfl, -, -⟩ := ob.form
    obtain ⟨sp, hca⟩ := oa.spot
    rw [L1.out] at hca ⊢
    have SP := Lib.hid sp
    have R1 := Lib.hid (((R0.out.step hb).old (.cells #[.int .i64 R, .int .i64 C, .slice qa N ca] 26)).old (.cells #[.int .i64 R, .int .i64 R, .slice qb s.2.length cb] 26))
    have A1 : Hid (Blk3 ((w1.alloc (.cells #[.int .i64 R, .int .i64 C, .slice qa N ca] 26)).alloc (.cells #[.int .i64 R, .int .i64 R, .slice qb s.2.length cb] 26)) w1.heap.size 26 (.int .i64 R) (.int .i64 C) (.slice qa N ca)) := (Blk3.at_ _ _ _ _ rfl).old _
    have Q1 := Lib.hid (hqa.below (((Below.refl w1.heap.size w1).alloc (Nat.le_refl _) (.cells #[.int .i64 R, .int .i64 C, .slice qa N ca] 26)).alloc (by simp) (.cells #[.int .i64 R, .int .i64 R, .slice qb s.2.length cb] 26)))
    have B1 := Lib.hid (((B0.out.trans (hb.mono (by have := S0.out; omega))).alloc (by have := S0.out; have := hb.size; omega) (.cells #[.int .i64 R, .int .i64 C, .slice qa N ca] 26)).alloc (by have := S0.out; have := hb.size; simp; omega) (.cells #[.int .i64 R, .int .i64 R, .slice qb s.2.length cb] 26))
    have s1 : w.heap.size + 2 ≤ w1.heap.size := by have := S0.out; have := hb.size; omega
    clear hb oa ob hqa sp p0 p1 p2 K0 R0 B0 S0
    go_upto_region 2 with fail
    obtain ⟨b4, hb4⟩ : ∃ b, w1.heap.size = b := ⟨_, rfl⟩
    rw [hb4] at A1 s1 ⊢
    generalize (w1.alloc (.cells #[.int .i64 R, .int .i64 C, .slice qa N ca] 26)).alloc (.cells #[.int .i64 R, .int .i64 R, .slice qb s.2.length cb] 26) = W1 at R1 A1 Q1 B1 ⊢
    clear hb4
    obtain ⟨p0, p1, p2, -, -, -⟩ := A1.out.all
    have RW1 := Lib.hid (RW.out qa ca W1 Q1.out)
    go_wp2_with fail
    refine RW1.out.mono ?_
    rintro e w5 ⟨rfl, hb⟩
    have R5 := Lib.hid (R1.out.step hb)
    have A5 := Lib.hid (A1.out.step hb)
    have Q5 := Lib.hid (Q1.out.below hb)
    have B5 := Lib.hid (B1.out.trans (hb.mono B1.out.size))
    clear hb R1 A1 Q1 B1 RW RW1 p0 p1 p2
    have p1 : (0 : Int) ≤ (P : Int) := by omega
    have p2 : (P : Int) ≤ (ca : Int) := by omega
    go_wp2_with fail
    refine wp_region_T (S := fun w' => Below w5.heap.size w5 w') (T := fun j => j == 13 || j == 14) (by kernel_rfl) (Below.refl _ _).drew (fun hH => ?_)
    refine wpAnyT_take (i := 0) (v := ?_) (by simp only [List.getElem?_toArray, List.getElem?_cons_zero]; rfl) (by kernel_rfl) (by kernel_rfl) (by kernel_rfl) (by kernel_rfl) (two_only 13 14 (by kernel_rfl) (by kernel_rfl)) (by exact fun _ _ _ h => h) (Or.inl ⟨by rfl, ?_⟩) hH ?_
    rotate_left
    · (intro wS hS; clear hS; go_simp; try rfl)
    try simp only [Act.put, List.setIfInBounds_toArray, List.set_cons_zero, List.set_cons_succ]
    refine wpAnyT_take (i := 1) (v := ?_) (by simp only [List.getElem?_toArray, List.getElem?_cons_succ, List.getElem?_cons_zero]; rfl) (by kernel_rfl) (by kernel_rfl) (by kernel_rfl) (by kernel_rfl) (two_only 13 14 (by kernel_rfl) (by kernel_rfl)) (by exact fun _ _ _ h => h) (Or.inl ⟨by rfl, ?_⟩) hH ?_
    rotate_left
    · (intro wS hS; clear hS; go_simp; try rfl)
    try simp only [Act.put, List.setIfInBounds_toArray, List.set_cons_zero, List.set_cons_succ]
    refine wpAnyT_take (i := 2) (v := ?_) (by simp only [List.getElem?_toArray, List.getElem?_cons_succ, List.getElem?_cons_zero]; rfl) (by kernel_rfl) (by kernel_rfl) (by kernel_rfl) (by kernel_rfl) (two_only 13 14 (by kernel_rfl) (by kernel_rfl)) (by exact fun _ _ _ h => h) (Or.inl ⟨by rfl, ?_⟩) hH ?_
    rotate_left
    · (intro wS hS; (try dsimp only at hS); obtain ⟨k1, k2⟩ := bzF A5.out hS; go_simp; try rfl)
    try simp only [Act.put, List.setIfInBounds_toArray, List.set_cons_zero, List.set_cons_succ]
    refine wpAnyT_take (i := 4) (v := ?_) (by simp only [List.getElem?_toArray, List.getElem?_cons_succ, List.getElem?_cons_zero]; rfl) (by kernel_rfl) (by kernel_rfl) (by kernel_rfl) (by kernel_rfl) (two_only 13 14 (by kernel_rfl) (by kernel_rfl)) (by exact fun _ _ _ h => h) (Or.inl ⟨by rfl, ?_⟩) hH ?_
    rotate_left
    · (intro wS hS; clear hS; go_simp; try rfl)
    try simp only [Act.put, List.setIfInBounds_toArray, List.set_cons_zero, List.set_cons_succ]
    refine wpAnyT_take (i := 5) (v := ?_) (by simp only [List.getElem?_toArray, List.getElem?_cons_succ, List.getElem?_cons_zero]; rfl) (by kernel_rfl) (by kernel_rfl) (by kernel_rfl) (by kernel_rfl) (two_only 13 14 (by kernel_rfl) (by kernel_rfl)) (by exact fun _ _ _ h => h) (Or.inl ⟨by rfl, ?_⟩) hH ?_
    rotate_left
    · (intro wS hS; (try dsimp only at hS); obtain ⟨k1, k2⟩ := bzF A5.out hS; go_simp; try rfl)
    try simp only [Act.put, List.setIfInBounds_toArray, List.set_cons_zero, List.set_cons_succ]
    refine wpAnyT_take (i := 6) (v := ?_) (by simp only [List.getElem?_toArray, List.getElem?_cons_succ, List.getElem?_cons_zero]; rfl) (by kernel_rfl) (by kernel_rfl) (by kernel_rfl) (by kernel_rfl) (two_only 13 14 (by kernel_rfl) (by kernel_rfl)) (by exact fun _ _ _ h => h) (Or.inl ⟨by rfl, ?_⟩) hH ?_
    rotate_left
    · (intro wS hS; clear hS; go_simp; try rfl)
    try simp only [Act.put, List.setIfInBounds_toArray, List.set_cons_zero, List.set_cons_succ]
    refine wpAnyT_take (i := 7) (v := ?_) (by simp only [List.getElem?_toArray, List.getElem?_cons_succ, List.getElem?_cons_zero]; rfl) (by kernel_rfl) (by kernel_rfl) (by kernel_rfl) (by kernel_rfl) (two_only 13 14 (by kernel_rfl) (by kernel_rfl)) (by exact fun _ _ _ h => h) (Or.inl ⟨by rfl, ?_⟩) hH ?_
    rotate_left
    · (intro wS hS; clear hS; go_simp; try rfl)
    try simp only [Act.put, List.setIfInBounds_toArray, List.set_cons_zero, List.set_cons_succ]
    refine wpAnyT_take (i := 8) (v := ?_) (by simp only [List.getElem?_toArray, List.getElem?_cons_succ, List.getElem?_cons_zero]; rfl) (by kernel_rfl) (by kernel_rfl) (by kernel_rfl) (by kernel_rfl) (two_only 13 14 (by kernel_rfl) (by kernel_rfl)) (by exact fun _ _ _ h => h) (Or.inl ⟨by rfl, ?_⟩) hH ?_
    rotate_left
    · (intro wS hS; (try dsimp only at hS); obtain ⟨k1, k2⟩ := bzF A5.out hS; go_simp; try rfl)
    try simp only [Act.put, List.setIfInBounds_toArray, List.set_cons_zero, List.set_cons_succ]
    refine wpAnyT_take (i := 9) (v := ?_) (by simp only [List.getElem?_toArray, List.getElem?_cons_succ, List.getElem?_cons_zero]; rfl) (by kernel_rfl) (by kernel_rfl) (by kernel_rfl) (by kernel_rfl) (two_only 13 14 (by kernel_rfl) (by kernel_rfl)) (by exact fun _ _ _ h => h) (Or.inl ⟨by rfl, ?_⟩) hH ?_
    rotate_left
    · (intro wS hS; clear hS; go_simp; try rfl)
    try simp only [Act.put, List.setIfInBounds_toArray, List.set_cons_zero, List.set_cons_succ]
    refine wpAnyT_take (i := 10) (v := ?_) (by simp only [List.getElem?_toArray, List.getElem?_cons_succ, List.getElem?_cons_zero]; rfl) (by kernel_rfl) (by kernel_rfl) (by kernel_rfl) (by kernel_rfl) (two_only 13 14 (by kernel_rfl) (by kernel_rfl)) (by exact fun _ _ _ h => h) (Or.inl ⟨by rfl, ?_⟩) hH ?_
    rotate_left
    · (intro wS hS; clear hS; go_simp; try rfl)
    try simp only [Act.put, List.setIfInBounds_toArray, List.set_cons_zero, List.set_cons_succ]
    refine wpAnyT_ready (rs := [3]) (by kernel_rfl) (by simp) ?_
    refine AllReadyT.cons (by simp only [List.getElem?_toArray, List.getElem?_cons_succ, List.getElem?_cons_zero]; rfl) (fun K hK => ?_) AllReadyT.nil
    go_simp
    try dsimp only
    have hH2 := hH.alloc hH.size (.cells #[] 3)
    refine hK.out _ _ (fun _ => hH2) ?_
    clear hK K
    try simp only [Act.put, List.setIfInBounds_toArray, List.set_cons_zero, List.set_cons_succ]
    have AC : IntsC (w5.drew.alloc (.cells #[] 3)) w5.heap.size 0 [] := ⟨Nat.zero_le _, [], rfl, heap_alloc_new w5.drew (.cells #[] 3)⟩
    obtain ⟨g9, c9, w9, hr9, hi9, hg9, hc9, hgr9⟩ := appendCopy2 (w5.drew.alloc (.cells #[] 3)) (B := w5.heap.size) SP.out ca ((Q5.out.below hH2).take P) (by rw [TL.out]; omega) hH2.size AC (Nat.le_refl _)
    rw [TL.out] at hr9 hc9
    refine wpAnyT_ready (rs := [11]) (by kernel_rfl) (by simp) ?_
    refine AllReadyT.cons (by simp only [List.getElem?_toArray, List.getElem?_cons_succ, List.getElem?_cons_zero]; rfl) (fun K hK => ?_) AllReadyT.nil
    refine step_append rfl _ _ 24 rfl _ _ rfl rfl _ _ hr9 ?_
    try dsimp only
    have hH3 := hH2.grown hgr9 hH2.size (fun k hk => by injection hk with hk; omega)
    refine hK.out _ _ (fun _ => hH3) ?_
    clear hK K
    try simp only [Act.put, List.setIfInBounds_toArray, List.set_cons_zero, List.set_cons_succ]
    refine wpAnyT_take (i := 12) (v := ?_) (by simp only [List.getElem?_toArray, List.getElem?_cons_succ, List.getElem?_cons_zero]; rfl) (by kernel_rfl) (by kernel_rfl) (by kernel_rfl) (by kernel_rfl) (two_only 13 14 (by kernel_rfl) (by kernel_rfl)) (by exact fun _ _ _ h => h) (Or.inl ⟨by rfl, ?_⟩) hH3 ?_
    rotate_left
    · (intro wS hS; clear hS; go_simp; try rfl)
    try simp only [Act.put, List.setIfInBounds_toArray, List.set_cons_zero, List.set_cons_succ]
    have R9 := Lib.hid (R5.out.step hH3)
    have B9 := Lib.hid (B5.out.trans (hH3.mono B5.out.size))
    obtain ⟨r0, r1, r2, f0, f1, f2⟩ := R9.out.all
    refine wpAnyT_ready (rs := [13]) (by kernel_rfl) (by simp) ?_
    refine AllReadyT.cons (by simp only [List.getElem?_toArray, List.getElem?_cons_succ, List.getElem?_cons_zero]; rfl) (fun K hK => ?_) AllReadyT.nil
    go_simp
    try dsimp only
    refine hK.out _ _ (fun h => by cases h) ?_
    clear hK K
    try simp only [Act.put, List.setIfInBounds_toArray, List.set_cons_zero, List.set_cons_succ]
    refine wpAnyT_ready (rs := [14]) (by kernel_rfl) (by simp) ?_
    refine AllReadyT.cons (by simp only [List.getElem?_toArray, List.getElem?_cons_succ, List.getElem?_cons_zero]; rfl) (fun K hK => ?_) AllReadyT.nil
    go_simp
    try dsimp only
    refine hK.out _ _ (fun h => by cases h) ?_
    clear hK K
    try simp only [Act.put, List.setIfInBounds_toArray, List.set_cons_zero, List.set_cons_succ]
    refine wpAnyT_done (by kernel_rfl) ?_ _
    go_wp2_with fail
    obtain ⟨E0, E1, E2, -, -, -⟩ := (((R9.out.set0 (.int .i64 n)).set1 (.int .i64 C)).set2 (.slice (some ⟨g9, 0, none⟩) P c9)).all
    have s5 := B5.out.size
    have gne : w.heap.size + 1 ≠ g9 := by have := R5.out.lt; omega
    refine bodyPost_ret (v := .tuple #[.agg #[.int .i64 n, .int .i64 C, .slice (some ⟨g9, 0, none⟩) P c9], .bool true]) (by simp [results, Try.results32, go_sem, E0, E1, E2]) rfl ?_
    refine ⟨.slice (some ⟨g9, 0, none⟩) P c9, rfl, .inr ⟨g9, c9, by show Value.slice _ P c9 = .slice _ (s.1.take P).length c9; rw [TL.out], by omega, ((hi9.far (a := ⟨w.heap.size + 1, 0, none⟩) (Ne.symm gne) _).far (a := ⟨w.heap.size + 1, 1, none⟩) (Ne.symm gne) _).far (a := ⟨w.heap.size + 1, 2, none⟩) (Ne.symm gne) _, by rw [TL.out]; exact hc9, by rw [TL.out]; omega⟩, ?_⟩
    exact ((B9.out.setCell (by show w.heap.size ≤ w.heap.size + 1; omega) _).setCell (by show w.heap.size ≤ w.heap.size + 1; omega) _).setCell (by show w.heap.size ≤ w.heap.size + 1; omega) _
end Go.Proofs.Ytpknondccajinaa
end

section
/-
  Chapter 5, in the program: the kinds of operations.
-/
namespace Go.Proofs.Ytpknondccajinaa
open Go.RowKit

abbrev aggO (k i j t : Int) : Value := .agg #[.int .i64 k, .int .i64 i, .int .i64 j, .int .i64 t]
theorem below1 (w : World) (o : Obj) : Below w.heap.size w (w.alloc o) := (Below.refl _ _).alloc (Nat.le_refl _) o
theorem iOpOf0 (i j t : Int) (w : World) : Calls Try.prog 117 #[aggO 0 i j t] w (Gives (.iface 111 (aggO 0 i j t)) w) := by
  go_enter Try.func117, Try.ntmps117
  go_wp2_with fail
  go_ret
  exact ⟨rfl, below1 _ _⟩
theorem iOpOf1 (i j t : Int) (w : World) : Calls Try.prog 117 #[aggO 1 i j t] w (Gives (.iface 112 (aggO 1 i j t)) w) := by
  go_enter Try.func117, Try.ntmps117
  go_wp2_with fail
  go_ret
  exact ⟨rfl, below1 _ _⟩
theorem iOpOf2 (i j t : Int) (w : World) : Calls Try.prog 117 #[aggO 2 i j t] w (Gives (.iface 113 (aggO 2 i j t)) w) := by
  go_enter Try.func117, Try.ntmps117
  go_wp2_with fail
  go_ret
  exact ⟨rfl, below1 _ _⟩
theorem iOpOfN (k i j t : Int) (w : World) (h : k < 0 ∨ 2 < k) : Calls Try.prog 117 #[aggO k i j t] w (Gives .nilIface w) := by
  have f0 : (k == 0) = false := by simp; omega
  have f1 : (k == 1) = false := by simp; omega
  have f2 : (k == 2) = false := by simp; omega
  clear h
  go_enter Try.func117, Try.ntmps117
  go_wp2_with fail
  go_ret
  exact ⟨rfl, below1 _ _⟩
theorem iFit0 (i j t : Int) (w : World) : Calls Try.prog 142 #[aggO 0 i j t] w (Gives (.bool (decide (j ≠ i ∧ t = 0))) w) := by
  by_cases e1 : j = i
  · subst e1
    rw [show decide (j ≠ j ∧ t = 0) = false by simp]
    go_enter Try.func142, Try.ntmps142
    go_wp2_with fail
    go_ret
    exact ⟨rfl, below1 _ _⟩
  · have g1 : (i != j) = true := by simp; omega
    have g2 : (i == j) = false := by simp; omega
    by_cases e2 : t = 0
    · subst e2
      rw [show decide (j ≠ i ∧ (0 : Int) = 0) = true by simp [e1]]
      clear e1
      go_enter Try.func142, Try.ntmps142
      go_wp2_with fail
      go_ret
      exact ⟨rfl, below1 _ _⟩
    · have g3 : (t == 0) = false := by simp; omega
      rw [show decide (j ≠ i ∧ t = 0) = false by simp [e2]]
      clear e1 e2
      go_enter Try.func142, Try.ntmps142
      go_wp2_with fail
      go_ret
      exact ⟨rfl, below1 _ _⟩
theorem iFit1 (i j t : Int) (w : World) : Calls Try.prog 144 #[aggO 1 i j t] w (Gives (.bool (decide (j = i ∧ t = 0))) w) := by
  by_cases e1 : j = i
  · subst e1
    by_cases e2 : t = 0
    · subst e2
      rw [show decide (j = j ∧ (0 : Int) = 0) = true by simp]
      go_enter Try.func144, Try.ntmps144
      go_wp2_with fail
      go_ret
      exact ⟨rfl, below1 _ _⟩
    · have g3 : (t == 0) = false := by simp; omega
      rw [show decide (j = j ∧ t = 0) = false by simp [e2]]
      clear e2
      go_enter Try.func144, Try.ntmps144
      go_wp2_with fail
      go_ret
      exact ⟨rfl, below1 _ _⟩
  · have g1 : (i != j) = true := by simp; omega
    have g2 : (i == j) = false := by simp; omega
    rw [show decide (j = i ∧ t = 0) = false by simp [e1]]
    clear e1
    go_enter Try.func144, Try.ntmps144
    go_wp2_with fail
    go_ret
    exact ⟨rfl, below1 _ _⟩
theorem iFit2 (i j t : Int) (w : World) : Calls Try.prog 146 #[aggO 2 i j t] w (Gives (.bool (decide (j ≠ i))) w) := by
  by_cases e1 : j = i
  · subst e1
    rw [show decide (j ≠ j) = false by simp]
    go_enter Try.func146, Try.ntmps146
    go_wp2_with fail
    go_ret
    exact ⟨rfl, below1 _ _⟩
  · have g1 : (i != j) = true := by simp; omega
    have g2 : (i == j) = false := by simp; omega
    rw [show decide (j ≠ i) = true by simp [e1]]
    clear e1
    go_enter Try.func146, Try.ntmps146
    go_wp2_with fail
    go_ret
    exact ⟨rfl, below1 _ _⟩
theorem iDo0 (x y i j t : Int) (w : World) : Calls Try.prog 141 #[aggO 0 i j t, .int .i64 x, .int .i64 y] w (Gives (.tuple #[.int .i64 y, .int .i64 x, .bool true]) w) := by
  go_enter Try.func141, Try.ntmps141
  go_wp2_with fail
  exact bodyPost_ret (v := .tuple #[.int .i64 y, .int .i64 x, .bool true]) (by simp [results, Try.results141, go_sem]) rfl ⟨rfl, below1 _ _⟩
theorem iDo1 (x y i j t : Int) (w : World) (hx : NumP x) : Calls Try.prog 143 #[aggO 1 i j t, .int .i64 x, .int .i64 y] w (Gives (.tuple #[.int .i64 (-x), .int .i64 (-x), .bool true]) w) := by
  obtain ⟨x1, x2⟩ := hx
  have v : IntKind.i64.wrap (-x) = -x := IntWalk.i64_in _ (by omega)
  clear x1 x2
  go_enter Try.func143, Try.ntmps143
  go_wp2_with fail
  exact bodyPost_ret (v := .tuple #[.int .i64 (-x), .int .i64 (-x), .bool true]) (by simp [results, Try.results143, go_sem]) rfl ⟨rfl, below1 _ _⟩
theorem iDo2 (x y i j t : Int) (w : World) (hx : NumP x) (hy : NumP y) (ht : NumP t) : Calls Try.prog 145 #[aggO 2 i j t, .int .i64 x, .int .i64 y] w (Gives (.tuple #[.int .i64 (x + y * t), .int .i64 y, .bool (decide (NumP (y * t)))]) w) := by
  obtain ⟨m1, m2⟩ := mul_num y t hy ht
  obtain ⟨x1, x2⟩ := hx
  have v1 : IntKind.i64.wrap (y * t) = y * t := IntWalk.i64_in _ (by omega)
  have v2 : IntKind.i64.wrap (x + y * t) = x + y * t := IntWalk.i64_in _ (by omega)
  clear m1 m2 x1 x2 hy ht
  go_enter Try.func145, Try.ntmps145
  go_wp2_with fail
  go_quiet ((refine (iIsNum _ _).mono ?_; rintro e w' ⟨rfl, rfl⟩; exact ⟨rfl, _, rfl⟩))
  go_wp2_with fail
  exact bodyPost_ret (v := .tuple #[.int .i64 (x + y * t), .int .i64 y, .bool (decide (NumP (y * t)))]) (by simp [results, Try.results145, go_sem]) rfl ⟨rfl, below_drewN (below1 _ _) nq⟩
theorem iRow (n rows : Int) (pb : Nat) (w : World) (hc : w.cell? ⟨pb, 0, none⟩ = some (.int .i64 rows)) : Calls Try.prog 120 #[.int .i64 n, .pointer (some ⟨pb, 0, none⟩)] w fun e w' => e = .returned (.bool (decide (0 ≤ n ∧ n < rows))) ∧ w = w' := by
  by_cases h0 : 0 ≤ n
  · by_cases h1 : n < rows
    · rw [show decide (0 ≤ n ∧ n < rows) = true by simp [h0, h1]]
      go_enter Try.func120, Try.ntmps120
      go_wp2_with fail
      go_ret
      exact ⟨rfl, rfl⟩
    · rw [show decide (0 ≤ n ∧ n < rows) = false by simp [h1]]
      have h2 : decide (n < rows) = false := by simpa using h1
      go_enter Try.func120, Try.ntmps120
      go_wp2_with fail
      go_ret
      exact ⟨rfl, rfl⟩
  · rw [show decide (0 ≤ n ∧ n < rows) = false by simp [h0]]
    have h2 : decide (0 ≤ n) = false := by simpa using h0
    go_enter Try.func120, Try.ntmps120
    go_wp2_with fail
    go_ret
    exact ⟨rfl, rfl⟩
end Go.Proofs.Ytpknondccajinaa
end

section
/-
  Chapter 5, in the program: IsRowOp.
-/
namespace Go.Proofs.Ytpknondccajinaa
open Go.RowKit

theorem cell_new (w : World) (v : Value) (t : TypeId) (pb : Nat) (h : pb = w.heap.size) : (w.alloc (.cells #[v] t)).cell? ⟨pb, 0, none⟩ = some v := by
  subst h
  have e : (w.alloc (.cells #[v] t)).heap[w.heap.size]? = some (.cells #[v] t (0, 0)) := by show (w.heap.push _)[w.heap.size]? = _; rw [Array.getElem?_push, if_pos rfl]
  generalize w.alloc (.cells #[v] t) = w' at e
  simp [World.cell?, e]
theorem iRow_t (n rows : Int) (pb : Nat) (w : World) (hc : w.cell? ⟨pb, 0, none⟩ = some (.int .i64 rows)) (h : 0 ≤ n ∧ n < rows) : Calls Try.prog 120 #[.int .i64 n, .pointer (some ⟨pb, 0, none⟩)] w fun e w' => e = .returned (.bool true) ∧ w = w' := by
  have := iRow n rows pb w hc; rwa [decide_eq_true h] at this
theorem iRow_f (n rows : Int) (pb : Nat) (w : World) (hc : w.cell? ⟨pb, 0, none⟩ = some (.int .i64 rows)) (h : n < 0 ∨ rows ≤ n) : Calls Try.prog 120 #[.int .i64 n, .pointer (some ⟨pb, 0, none⟩)] w fun e w' => e = .returned (.bool false) ∧ w = w' := by
  have := iRow n rows pb w hc; rwa [decide_eq_false (by omega)] at this
theorem step2 {w a c : World} (h : Below w.heap.size w a) (hb : Below a.heap.size a c) : Below w.heap.size w c := h.trans (hb.mono h.size)
set_option maxHeartbeats 1000000 in
theorem iIsOp (k i j t rows : Int) (w : World) : Calls Try.prog 116 #[.agg #[.int .i64 k, .int .i64 i, .int .i64 j, .int .i64 t], .int .i64 rows] w (Gives (.bool (isOp k i j t rows)) w) := by
  have BH : Hid (∀ o o2, Below w.heap.size w ((w.alloc o).alloc o2)) := fun o o2 => ((Below.refl _ _).alloc (Nat.le_refl _) o).alloc (by simp) o2
  have CN : Hid (∀ o, ((w.alloc o).alloc (.cells #[.int .i64 rows] 3)).cell? ⟨w.heap.size + 1, 0, none⟩ = some (.int .i64 rows)) := fun o => cell_new _ _ _ _ (by simp)
  by_cases h2 : 0 ≤ rows ∧ rows ≤ 24
  · by_cases h3 : 0 ≤ i ∧ i < rows
    · by_cases h4 : 0 ≤ j ∧ j < rows
      · by_cases h5 : NumP t
        · have RG : Hid (rangeOp k i j t rows = (decide (0 ≤ k ∧ k ≤ 2))) := by show rangeOp k i j t rows = _; unfold rangeOp; rw [decide_eq_true h2, decide_eq_true (show 0 ≤ i ∧ i ≤ rows - 1 by omega), decide_eq_true (show 0 ≤ j ∧ j ≤ rows - 1 by omega), decide_eq_true h5]; simp only [Bool.and_true]
          by_cases k0 : k = 0
          · subst k0
            have V : Hid (isOp 0 i j t rows = decide (j ≠ i ∧ t = 0)) := by show isOp 0 i j t rows = _; unfold isOp; rw [RG.out]; rfl
            obtain ⟨b, hbb⟩ : ∃ b, decide (j ≠ i ∧ t = 0) = b := ⟨_, rfl⟩
            have FT := Lib.hid (iFit0 i j t)
            rw [hbb] at V
            have FT : Hid (∀ w, Calls Try.prog 142 #[aggO 0 i j t] w (Gives (.bool b) w)) := fun w => by rw [← hbb]; exact FT.out w
            clear hbb
            go_enter Try.func116, Try.ntmps116
            go_wp2_with fail
            refine (iSize_t rows _ h2.1 h2.2).mono ?_
            rintro e w' ⟨rfl, rfl⟩
            go_wp2_with fail
            refine (iRow_t i rows _ _ (CN.out _) h3).mono ?_
            rintro e w' ⟨rfl, rfl⟩
            go_wp2_with fail
            refine (iRow_t j rows _ _ (CN.out _) h4).mono ?_
            rintro e w' ⟨rfl, rfl⟩
            go_wp2_with fail
            refine (iIsNum_t t _ h5.1 h5.2).mono ?_
            rintro e w' ⟨rfl, rfl⟩
            go_wp2_with fail
            refine (iOpOf0 i j t _).mono ?_
            rintro e w1 ⟨rfl, hb⟩
            have B : Hid (Below w.heap.size w w1) := step2 (BH.out _ _) hb
            clear hb
            go_wp2_with fail
            refine (FT.out _).mono ?_
            rintro e w2 ⟨rfl, hb⟩
            have B2 : Hid (Below w.heap.size w w2) := step2 B.out hb
            clear hb
            go_wp2_with fail
            go_ret
            exact ⟨by rw [V.out]; rfl, B2.out⟩
          by_cases k1 : k = 1
          · subst k1
            have V : Hid (isOp 1 i j t rows = decide (j = i ∧ t = 0)) := by show isOp 1 i j t rows = _; unfold isOp; rw [RG.out]; rfl
            obtain ⟨b, hbb⟩ : ∃ b, decide (j = i ∧ t = 0) = b := ⟨_, rfl⟩
            have FT := Lib.hid (iFit1 i j t)
            rw [hbb] at V
            have FT : Hid (∀ w, Calls Try.prog 144 #[aggO 1 i j t] w (Gives (.bool b) w)) := fun w => by rw [← hbb]; exact FT.out w
            clear hbb
            go_enter Try.func116, Try.ntmps116
            go_wp2_with fail
            refine (iSize_t rows _ h2.1 h2.2).mono ?_
            rintro e w' ⟨rfl, rfl⟩
            go_wp2_with fail
            refine (iRow_t i rows _ _ (CN.out _) h3).mono ?_
            rintro e w' ⟨rfl, rfl⟩
            go_wp2_with fail
            refine (iRow_t j rows _ _ (CN.out _) h4).mono ?_
            rintro e w' ⟨rfl, rfl⟩
            go_wp2_with fail
            refine (iIsNum_t t _ h5.1 h5.2).mono ?_
            rintro e w' ⟨rfl, rfl⟩
            go_wp2_with fail
            refine (iOpOf1 i j t _).mono ?_
            rintro e w1 ⟨rfl, hb⟩
            have B : Hid (Below w.heap.size w w1) := step2 (BH.out _ _) hb
            clear hb
            go_wp2_with fail
            refine (FT.out _).mono ?_
            rintro e w2 ⟨rfl, hb⟩
            have B2 : Hid (Below w.heap.size w w2) := step2 B.out hb
            clear hb
            go_wp2_with fail
            go_ret
            exact ⟨by rw [V.out]; rfl, B2.out⟩
          by_cases k2 : k = 2
          · subst k2
            have V : Hid (isOp 2 i j t rows = decide (j ≠ i)) := by show isOp 2 i j t rows = _; unfold isOp; rw [RG.out]; rfl
            obtain ⟨b, hbb⟩ : ∃ b, decide (j ≠ i) = b := ⟨_, rfl⟩
            have FT := Lib.hid (iFit2 i j t)
            rw [hbb] at V
            have FT : Hid (∀ w, Calls Try.prog 146 #[aggO 2 i j t] w (Gives (.bool b) w)) := fun w => by rw [← hbb]; exact FT.out w
            clear hbb
            go_enter Try.func116, Try.ntmps116
            go_wp2_with fail
            refine (iSize_t rows _ h2.1 h2.2).mono ?_
            rintro e w' ⟨rfl, rfl⟩
            go_wp2_with fail
            refine (iRow_t i rows _ _ (CN.out _) h3).mono ?_
            rintro e w' ⟨rfl, rfl⟩
            go_wp2_with fail
            refine (iRow_t j rows _ _ (CN.out _) h4).mono ?_
            rintro e w' ⟨rfl, rfl⟩
            go_wp2_with fail
            refine (iIsNum_t t _ h5.1 h5.2).mono ?_
            rintro e w' ⟨rfl, rfl⟩
            go_wp2_with fail
            refine (iOpOf2 i j t _).mono ?_
            rintro e w1 ⟨rfl, hb⟩
            have B : Hid (Below w.heap.size w w1) := step2 (BH.out _ _) hb
            clear hb
            go_wp2_with fail
            refine (FT.out _).mono ?_
            rintro e w2 ⟨rfl, hb⟩
            have B2 : Hid (Below w.heap.size w w2) := step2 B.out hb
            clear hb
            go_wp2_with fail
            go_ret
            exact ⟨by rw [V.out]; rfl, B2.out⟩
          have V : Hid (isOp k i j t rows = false) := by show isOp k i j t rows = false; unfold isOp; rw [RG.out, decide_eq_false (by omega)]; rfl
          have hk : k < 0 ∨ 2 < k := by omega
          clear k0 k1 k2
          go_enter Try.func116, Try.ntmps116
          go_wp2_with fail
          refine (iSize_t rows _ h2.1 h2.2).mono ?_
          rintro e w' ⟨rfl, rfl⟩
          go_wp2_with fail
          refine (iRow_t i rows _ _ (CN.out _) h3).mono ?_
          rintro e w' ⟨rfl, rfl⟩
          go_wp2_with fail
          refine (iRow_t j rows _ _ (CN.out _) h4).mono ?_
          rintro e w' ⟨rfl, rfl⟩
          go_wp2_with fail
          refine (iIsNum_t t _ h5.1 h5.2).mono ?_
          rintro e w' ⟨rfl, rfl⟩
          go_wp2_with fail
          refine (iOpOfN k i j t _ hk).mono ?_
          rintro e w1 ⟨rfl, hb⟩
          have B : Hid (Below w.heap.size w w1) := step2 (BH.out _ _) hb
          clear hb
          go_wp2_with fail
          go_ret
          exact ⟨by rw [V.out]; rfl, B.out⟩
        · have V : Hid (isOp k i j t rows = false) := by show isOp k i j t rows = false; unfold isOp rangeOp; rw [decide_eq_false h5]; simp
          have hx : t < -400000000 ∨ 400000000 < t := by unfold NumP at h5; omega
          clear h5
          go_enter Try.func116, Try.ntmps116
          go_wp2_with fail
          refine (iSize_t rows _ h2.1 h2.2).mono ?_
          rintro e w' ⟨rfl, rfl⟩
          go_wp2_with fail
          refine (iRow_t i rows _ _ (CN.out _) h3).mono ?_
          rintro e w' ⟨rfl, rfl⟩
          go_wp2_with fail
          refine (iRow_t j rows _ _ (CN.out _) h4).mono ?_
          rintro e w' ⟨rfl, rfl⟩
          go_wp2_with fail
          refine (iIsNum_f t _ hx).mono ?_
          rintro e w' ⟨rfl, rfl⟩
          go_wp2_with fail
          go_ret
          exact ⟨by rw [V.out]; rfl, BH.out _ _⟩
      · have V : Hid (isOp k i j t rows = false) := by show isOp k i j t rows = false; unfold isOp rangeOp; rw [decide_eq_false (show ¬ (0 ≤ j ∧ j ≤ rows - 1) by omega)]; simp
        have hx : j < 0 ∨ rows ≤ j := by omega
        clear h4
        go_enter Try.func116, Try.ntmps116
        go_wp2_with fail
        refine (iSize_t rows _ h2.1 h2.2).mono ?_
        rintro e w' ⟨rfl, rfl⟩
        go_wp2_with fail
        refine (iRow_t i rows _ _ (CN.out _) h3).mono ?_
        rintro e w' ⟨rfl, rfl⟩
        go_wp2_with fail
        refine (iRow_f j rows _ _ (CN.out _) hx).mono ?_
        rintro e w' ⟨rfl, rfl⟩
        go_wp2_with fail
        go_ret
        exact ⟨by rw [V.out]; rfl, BH.out _ _⟩
    · have V : Hid (isOp k i j t rows = false) := by show isOp k i j t rows = false; unfold isOp rangeOp; rw [decide_eq_false (show ¬ (0 ≤ i ∧ i ≤ rows - 1) by omega)]; simp
      have hx : i < 0 ∨ rows ≤ i := by omega
      clear h3
      go_enter Try.func116, Try.ntmps116
      go_wp2_with fail
      refine (iSize_t rows _ h2.1 h2.2).mono ?_
      rintro e w' ⟨rfl, rfl⟩
      go_wp2_with fail
      refine (iRow_f i rows _ _ (CN.out _) hx).mono ?_
      rintro e w' ⟨rfl, rfl⟩
      go_wp2_with fail
      go_ret
      exact ⟨by rw [V.out]; rfl, BH.out _ _⟩
  · have V : Hid (isOp k i j t rows = false) := by show isOp k i j t rows = false; unfold isOp rangeOp; rw [decide_eq_false h2]; simp
    have hx : rows < 0 ∨ 24 < rows := by omega
    clear h2
    go_enter Try.func116, Try.ntmps116
    go_wp2_with fail
    refine (iSize_f rows _ hx).mono ?_
    rintro e w' ⟨rfl, rfl⟩
    go_wp2_with fail
    go_ret
    exact ⟨by rw [V.out]; rfl, BH.out _ _⟩
end Go.Proofs.Ytpknondccajinaa
end

section
/-
  Chapter 5, in the program: DoRowOp.
-/
namespace Go.Proofs.Ytpknondccajinaa
set_option maxRecDepth 100000
open Go.RowKit

theorem sevB {W w' : World} {b b' : Nat} {t t' : TypeId} {p q r x y z u : Value} (h0 : Blk3 W b t p q r) (h1 : Blk4 W b' t' x y z u) (hb : Below W.heap.size W w') :
    w'.cell? ⟨b, 0, none⟩ = some p ∧ w'.cell? ⟨b, 1, none⟩ = some q ∧ w'.cell? ⟨b, 2, none⟩ = some r ∧ w'.cell? ⟨b', 0, none⟩ = some x ∧ w'.cell? ⟨b', 1, none⟩ = some y ∧ w'.cell? ⟨b', 2, none⟩ = some z ∧ w'.cell? ⟨b', 3, none⟩ = some u := by
  obtain ⟨a1, a2, a3, -, -, -⟩ := (h0.step hb).all
  obtain ⟨c1, c2, c3, c4⟩ := (h1.step hb).all
  exact ⟨a1, a2, a3, c1, c2, c3, c4⟩
theorem colCells {W w' : World} {b ba oa i j n : Nat} {t : TypeId} {p q r : Value} {xs : List Int} (h0 : Blk3 W b t p q r) (h : Rd W (some ⟨ba, oa, none⟩) xs) (hn : xs.length = n) (hi : i < n) (hj : j < n) (hb : Below W.heap.size W w') :
    w'.cell? ⟨b, 0, none⟩ = some p ∧ w'.cell? ⟨b, 1, none⟩ = some q ∧ w'.cell? ⟨b, 2, none⟩ = some r ∧ w'.cell? ⟨ba, oa + i, none⟩ = some (.int .i64 (xs.getD i 0)) ∧ w'.cell? ⟨ba, oa + j, none⟩ = some (.int .i64 (xs.getD j 0)) := by
  obtain ⟨a1, a2, a3, -, -, -⟩ := (h0.step hb).all
  exact ⟨a1, a2, a3, (h.below hb).cells i (by omega), (h.below hb).cells j (by omega)⟩
end Go.Proofs.Ytpknondccajinaa
end

section
/-
  Chapter 5, in the program: DoRowOp, kind 0.
-/
namespace Go.Proofs.Ytpknondccajinaa
set_option maxRecDepth 100000
open Go.RowKit

set_option maxRecDepth 100000 in
set_option maxHeartbeats 1000000 in
theorem iOp_0 (R C I J : Nat) (a : Option Addr) (m : Nat) (t : Int) (xs : List Int) (w : World) (h : Rd w a xs) (hn : xs.length ≤ 16777216) (hm : isMat R C xs = true) (ho : isOp 0 I J t R = true) :
    Calls Try.prog 108 #[.agg #[.int .i64 R, .int .i64 C, .slice a xs.length m], .agg #[.int .i64 0, .int .i64 I, .int .i64 J, .int .i64 t]] w (MatRes (MR.done R C (opL 0 I J t C xs)) w) := by
  obtain ⟨⟨r1, r2⟩, ⟨c1, c2⟩, l1, nx⟩ := isMat_says hm
  obtain ⟨hk, -, ⟨i1, i2⟩, ⟨j1, j2⟩, ht, -⟩ := isOp_says ho
  have hIJ := isOp_rows0 ho
  rw [← Int.natCast_mul] at l1
  have hle : R * C ≤ 24 * 24 := Nat.mul_le_mul (by omega) (by omega)
  have hR : R ≤ 24 := by omega
  have hC : C ≤ 24 := by omega
  have hI : I < R := by omega
  have hJ : J < R := by omega
  have IJ := Lib.hid hIJ
  have NX := Lib.hid nx
  have HT := Lib.hid ht
  have M := Lib.hid hm
  have OP := Lib.hid ho
  have hn2 : xs.length ≤ 576 := by omega
  have hN0 : xs.length = R * C := by omega
  have B0 : ∀ o1 o2 o3, Below w.heap.size w (((w.alloc o1).alloc o2).alloc o3) := fun o1 o2 o3 => (((Below.refl _ _).alloc (Nat.le_refl _) _).alloc (by simp) _).alloc (by simp <;> omega) _
  have BH := Lib.hid B0
  have H := Lib.hid h
  obtain ⟨n, hx⟩ : ∃ n, xs.length = n := ⟨_, rfl⟩
  have HX := Lib.hid hx
  rw [hx] at hn hn2 hN0 ⊢
  have HN := Lib.hid hN0
  clear B0 h hx hm ho r1 r2 c1 c2 l1 i1 i2 j1 j2 hle hIJ hN0 nx ht
  go_enter Try.func108, Try.ntmps108
  go_wp2_with fail
  have ST := iIsMat R C a m xs _ (H.out.below (BH.out (.cells #[.int .i64 R, .int .i64 C, .slice a n m] 26) (.cells #[.int .i64 0, .int .i64 I, .int .i64 J, .int .i64 t] 61) (.cells #[.int .i64 0, .int .i64 0, .slice none 0 0] 26))) (by rw [HX.out]; omega)
  rw [HX.out] at ST
  refine ST.mono ?_
  clear ST
  rintro e w1 ⟨rfl, hb⟩
  have K0 : Hid (Blk3 w1 w.heap.size 26 (.int .i64 R) (.int .i64 C) (.slice a n m)) := (((Blk3.at_ _ _ _ _ rfl).old _).old _).keep hb (by simp <;> omega)
  have K1 : Hid (Blk4 w1 (w.heap.size + 1) 61 (.int .i64 0) (.int .i64 I) (.int .i64 J) (.int .i64 t)) := ((Blk4.at_ _ _ _ _ _ (by simp)).old _).keep hb (by simp <;> omega)
  have K2 : Hid (Blk3 w1 (w.heap.size + 1 + 1) 26 (.int .i64 0) (.int .i64 0) (.slice none 0 0)) := (Blk3.at_ _ _ _ _ (by simp)).keep hb (by simp)
  have B : Hid (Below w.heap.size w w1) := (BH.out _ _ _).trans (hb.mono (by simp <;> omega))
  clear hb
  obtain ⟨ca0, ca1, ca2, -, -, -⟩ := K0.out.all
  obtain ⟨cb0, cb1, cb2, cb3⟩ := K1.out.all
  obtain ⟨cc0, cc1, cc2, ff0, ff1, ff2⟩ := K2.out.all
  rw [M.out]
  go_wp2_with fail
  refine (iIsOp 0 I J t R _).mono ?_
  rintro e w2 ⟨rfl, hb⟩
  have K0 := Lib.hid (K0.out.step hb)
  have K1 := Lib.hid (K1.out.step hb)
  have K2 := Lib.hid (K2.out.step hb)
  have B := Lib.hid (stepB B.out hb)
  clear hb ca0 ca1 ca2 cb0 cb1 cb2 cb3 cc0 cc1 cc2 ff0 ff1 ff2
  obtain ⟨da0, da1, da2, -, -, -⟩ := K0.out.all
  obtain ⟨db0, db1, db2, db3⟩ := K1.out.all
  obtain ⟨dc0, dc1, dc2, gf0, gf1, gf2⟩ := K2.out.all
  rw [OP.out]
  go_upto_region 3 with fail
  go_cut [6, 7] (fun s6 s7 wx => ∃ (p6 : Nat) (v0 : Value), s6 = .pointer (some ⟨p6, 0, none⟩) ∧ s7 = .iface 111 (aggO 0 I J t) ∧ Blk3 wx p6 26 (.int .i64 R) (.int .i64 C) v0 ∧ In w2.heap.size wx.heap.size wx v0 xs ∧ Below w2.heap.size w2 wx)
  case first =>
    refine wp_region_held_drew (S := fun w' => Below w2.heap.size w2 w') (by kernel_rfl) (Below.refl _ _).drew (fun hH => ?_)
    refine wpAnyH_take (i := 0) (v := ?_) (by simp only [List.getElem?_toArray, List.getElem?_cons_zero]; rfl) (by kernel_rfl) (by kernel_rfl) (by kernel_rfl) (by exact fun _ _ _ h => h) (Or.inl ⟨by rfl, ?_⟩) hH ?_
    rotate_left
    · (intro wS hS; (try dsimp only at hS); obtain ⟨k1, k2, k3, k4, k5, k6, k7⟩ := sevB K0.out K1.out hS; go_simp; try rfl)
    try simp only [Act.put, List.setIfInBounds_toArray, List.set_cons_zero, List.set_cons_succ]
    refine wpAnyH_take (i := 2) (v := ?_) (by simp only [List.getElem?_toArray, List.getElem?_cons_succ, List.getElem?_cons_zero]; rfl) (by kernel_rfl) (by kernel_rfl) (by kernel_rfl) (by exact fun _ _ _ h => h) (Or.inl ⟨by rfl, ?_⟩) hH ?_
    rotate_left
    · (intro wS hS; (try dsimp only at hS); obtain ⟨k1, k2, k3, k4, k5, k6, k7⟩ := sevB K0.out K1.out hS; go_simp; try rfl)
    try simp only [Act.put, List.setIfInBounds_toArray, List.set_cons_zero, List.set_cons_succ]
    refine wpAnyH_ready (rs := [1, 4]) (by kernel_rfl) (by simp) ?_
    refine AllReadyH.cons (by simp only [List.getElem?_toArray, List.getElem?_cons_succ, List.getElem?_cons_zero]; rfl) (fun K hK => ?_) (AllReadyH.cons (by simp only [List.getElem?_toArray, List.getElem?_cons_succ, List.getElem?_cons_zero]; rfl) (fun K hK => ?_) AllReadyH.nil)
    · go_simp
      have hs1 := hH.size
      (with_reducible refine (iCopyOf R C a m n xs HX.out _ (H.out.below (B.out.trans (hH.mono B.out.size))) (by omega)).mono ?_)
      rintro e v1 ⟨q0, qc, rfl, own, hb1⟩
      have O := Lib.hid own.inn
      clear own
      try dsimp only
      refine hK.out _ _ ?_ (fun hH2 => ?_)
      · exact hH.trans (hb1.mono hH.size)
      clear hK K
      have hO := hH
      clear hH
      have hH := hH2
      clear hH2
      try simp only [Act.put, List.setIfInBounds_toArray, List.set_cons_zero, List.set_cons_succ]
      have z1 := hb1.size
      refine wpAnyH_ready (rs := [3, 4]) (by kernel_rfl) (by simp) ?_
      refine AllReadyH.cons (by simp only [List.getElem?_toArray, List.getElem?_cons_succ, List.getElem?_cons_zero]; rfl) (fun K hK => ?_) (AllReadyH.cons (by simp only [List.getElem?_toArray, List.getElem?_cons_succ, List.getElem?_cons_zero]; rfl) (fun K hK => ?_) AllReadyH.nil)
      · go_simp
        have hs3 := hH.size
        (with_reducible refine (iOpOf0 I J t _).mono ?_)
        rintro e v3 ⟨rfl, hb3⟩
        have O := Lib.hid (O.out.keep hb3)
        try dsimp only
        refine hK.out _ _ ?_ (fun hH2 => ?_)
        · exact hH.trans (hb3.mono hH.size)
        clear hK K
        have hO := hH
        clear hH
        have hH := hH2
        clear hH2
        try simp only [Act.put, List.setIfInBounds_toArray, List.set_cons_zero, List.set_cons_succ]
        have z3 := hb3.size
        refine wpAnyH_ready (rs := [4]) (by kernel_rfl) (by simp) ?_
        refine AllReadyH.cons (by simp only [List.getElem?_toArray, List.getElem?_cons_succ, List.getElem?_cons_zero]; rfl) (fun K hK => ?_) AllReadyH.nil
        go_simp
        have VB : Hid (Blk3 (v3.alloc (.cells #[.int .i64 0, .int .i64 0, .slice none 0 0] 26)) v3.heap.size 26 (.int .i64 0) (.int .i64 0) (.slice none 0 0)) := Blk3.at_ _ _ _ _ rfl
        have PL : w2.heap.size ≤ v3.heap.size := hH.size
        try dsimp only
        refine hK.out _ _ ?_ (fun hH2 => ?_)
        · exact hH.alloc hH.size _
        clear hK K
        have hO := hH
        clear hH
        have hH := hH2
        clear hH2
        try simp only [Act.put, List.setIfInBounds_toArray, List.set_cons_zero, List.set_cons_succ]
        refine wpAnyH_ready (rs := [5]) (by kernel_rfl) (by simp) ?_
        refine AllReadyH.cons (by simp only [List.getElem?_toArray, List.getElem?_cons_succ, List.getElem?_cons_zero]; rfl) (fun K hK => ?_) AllReadyH.nil
        go_simp
        have VB : Hid (Blk3 (v3.alloc (.cells #[.int .i64 R, .int .i64 C, .slice q0 n qc] 26)) v3.heap.size 26 (.int .i64 R) (.int .i64 C) (.slice q0 n qc)) := Blk3.at_ _ _ _ _ rfl
        try dsimp only
        refine hK.out _ _ ?_ (fun hH2 => ?_)
        · exact hO.alloc hO.size _
        clear hK K
        have hO := hH
        clear hH
        have hH := hH2
        clear hH2
        try simp only [Act.put, List.setIfInBounds_toArray, List.set_cons_zero, List.set_cons_succ]
        refine wpAnyH_take (i := 6) (v := ?_) (by simp only [List.getElem?_toArray, List.getElem?_cons_succ, List.getElem?_cons_zero]; rfl) (by kernel_rfl) (by kernel_rfl) (by kernel_rfl) (by exact fun _ _ _ h => h) (Or.inl ⟨by rfl, ?_⟩) hH ?_
        rotate_left
        · (intro wS hS; clear hS; go_simp; try rfl)
        try simp only [Act.put, List.setIfInBounds_toArray, List.set_cons_zero, List.set_cons_succ]
        refine wpAnyH_done (by kernel_rfl) ?_ _
        go_wp2_with fail
        go_meet
        exact ⟨v3.heap.size, _, rfl, rfl, VB.out, (O.out.old _).wide hs1 (by have := hb3.size; first | (simp; done) | (simp; omega) | omega), hH⟩
      · go_simp
        have VB : Hid (Blk3 (v1.alloc (.cells #[.int .i64 0, .int .i64 0, .slice none 0 0] 26)) v1.heap.size 26 (.int .i64 0) (.int .i64 0) (.slice none 0 0)) := Blk3.at_ _ _ _ _ rfl
        have O := Lib.hid (O.out.old (.cells #[.int .i64 0, .int .i64 0, .slice none 0 0] 26))
        have PL : w2.heap.size ≤ v1.heap.size := hH.size
        try dsimp only
        refine hK.out _ _ ?_ (fun hH2 => ?_)
        · exact hH.alloc hH.size _
        clear hK K
        have hO := hH
        clear hH
        have hH := hH2
        clear hH2
        try simp only [Act.put, List.setIfInBounds_toArray, List.set_cons_zero, List.set_cons_succ]
        refine wpAnyH_ready (rs := [3]) (by kernel_rfl) (by simp) ?_
        refine AllReadyH.cons (by simp only [List.getElem?_toArray, List.getElem?_cons_succ, List.getElem?_cons_zero]; rfl) (fun K hK => ?_) AllReadyH.nil
        go_simp
        have hs3 := hH.size
        have lb3 := VB.out.lt
        (with_reducible refine (iOpOf0 I J t _).mono ?_)
        rintro e v3 ⟨rfl, hb3⟩
        have O := Lib.hid (O.out.keep hb3)
        have VB := Lib.hid (VB.out.keep hb3 VB.out.lt)
        try dsimp only
        refine hK.out _ _ ?_ (fun hH2 => ?_)
        · exact hH.trans (hb3.mono hH.size)
        clear hK K
        have hO := hH
        clear hH
        have hH := hH2
        clear hH2
        try simp only [Act.put, List.setIfInBounds_toArray, List.set_cons_zero, List.set_cons_succ]
        have z3 := hb3.size
        refine wpAnyH_ready (rs := [5]) (by kernel_rfl) (by simp) ?_
        refine AllReadyH.cons (by simp only [List.getElem?_toArray, List.getElem?_cons_succ, List.getElem?_cons_zero]; rfl) (fun K hK => ?_) AllReadyH.nil
        obtain ⟨y0, y1, y2, y3, y4, y5⟩ := VB.out.all
        go_simp
        have VB := Lib.hid (((VB.out.set0 (.int .i64 R)).set1 (.int .i64 C)).set2 (.slice q0 n qc))
        try dsimp only
        refine hK.out _ _ ?_ (fun hH2 => ?_)
        · exact (((hH.setCell PL _).setCell PL _).setCell PL _)
        clear hK K
        have hO := hH
        clear hH
        have hH := hH2
        clear hH2
        try simp only [Act.put, List.setIfInBounds_toArray, List.set_cons_zero, List.set_cons_succ]
        refine wpAnyH_take (i := 6) (v := ?_) (by simp only [List.getElem?_toArray, List.getElem?_cons_succ, List.getElem?_cons_zero]; rfl) (by kernel_rfl) (by kernel_rfl) (by kernel_rfl) (by exact fun _ _ _ h => h) (Or.inl ⟨by rfl, ?_⟩) hH ?_
        rotate_left
        · (intro wS hS; clear hS; go_simp; try rfl)
        try simp only [Act.put, List.setIfInBounds_toArray, List.set_cons_zero, List.set_cons_succ]
        refine wpAnyH_done (by kernel_rfl) ?_ _
        go_wp2_with fail
        go_meet
        exact ⟨v1.heap.size, _, rfl, rfl, VB.out, (((O.out.far (by first | exact .inl lb1 | exact .inr (Nat.le_refl _) | omega) _).far (by first | exact .inl lb1 | exact .inr (Nat.le_refl _) | omega) _).far (by first | exact .inl lb1 | exact .inr (Nat.le_refl _) | omega) _).wide hs1 (by have := hb3.size; first | (simp; done) | (simp; omega) | omega), hH⟩
    · go_simp
      have VB : Hid (Blk3 (w2.drew.alloc (.cells #[.int .i64 0, .int .i64 0, .slice none 0 0] 26)) w2.heap.size 26 (.int .i64 0) (.int .i64 0) (.slice none 0 0)) := Blk3.at_ _ _ _ _ rfl
      have PL : w2.heap.size ≤ w2.drew.heap.size := hH.size
      try dsimp only
      refine hK.out _ _ ?_ (fun hH2 => ?_)
      · exact hH.alloc hH.size _
      clear hK K
      have hO := hH
      clear hH
      have hH := hH2
      clear hH2
      try simp only [Act.put, List.setIfInBounds_toArray, List.set_cons_zero, List.set_cons_succ]
      refine wpAnyH_ready (rs := [1]) (by kernel_rfl) (by simp) ?_
      refine AllReadyH.cons (by simp only [List.getElem?_toArray, List.getElem?_cons_succ, List.getElem?_cons_zero]; rfl) (fun K hK => ?_) AllReadyH.nil
      go_simp
      have hs1 := hH.size
      have lb1 := VB.out.lt
      (with_reducible refine (iCopyOf R C a m n xs HX.out _ (H.out.below (B.out.trans (hH.mono B.out.size))) (by omega)).mono ?_)
      rintro e v1 ⟨q0, qc, rfl, own, hb1⟩
      have O := Lib.hid own.inn
      clear own
      have VB := Lib.hid (VB.out.keep hb1 VB.out.lt)
      try dsimp only
      refine hK.out _ _ ?_ (fun hH2 => ?_)
      · exact hH.trans (hb1.mono hH.size)
      clear hK K
      have hO := hH
      clear hH
      have hH := hH2
      clear hH2
      try simp only [Act.put, List.setIfInBounds_toArray, List.set_cons_zero, List.set_cons_succ]
      have z1 := hb1.size
      refine wpAnyH_ready (rs := [3]) (by kernel_rfl) (by simp) ?_
      refine AllReadyH.cons (by simp only [List.getElem?_toArray, List.getElem?_cons_succ, List.getElem?_cons_zero]; rfl) (fun K hK => ?_) AllReadyH.nil
      go_simp
      have hs3 := hH.size
      have lb3 := VB.out.lt
      (with_reducible refine (iOpOf0 I J t _).mono ?_)
      rintro e v3 ⟨rfl, hb3⟩
      have O := Lib.hid (O.out.keep hb3)
      have VB := Lib.hid (VB.out.keep hb3 VB.out.lt)
      try dsimp only
      refine hK.out _ _ ?_ (fun hH2 => ?_)
      · exact hH.trans (hb3.mono hH.size)
      clear hK K
      have hO := hH
      clear hH
      have hH := hH2
      clear hH2
      try simp only [Act.put, List.setIfInBounds_toArray, List.set_cons_zero, List.set_cons_succ]
      have z3 := hb3.size
      refine wpAnyH_ready (rs := [5]) (by kernel_rfl) (by simp) ?_
      refine AllReadyH.cons (by simp only [List.getElem?_toArray, List.getElem?_cons_succ, List.getElem?_cons_zero]; rfl) (fun K hK => ?_) AllReadyH.nil
      obtain ⟨y0, y1, y2, y3, y4, y5⟩ := VB.out.all
      go_simp
      have VB := Lib.hid (((VB.out.set0 (.int .i64 R)).set1 (.int .i64 C)).set2 (.slice q0 n qc))
      try dsimp only
      refine hK.out _ _ ?_ (fun hH2 => ?_)
      · exact (((hH.setCell PL _).setCell PL _).setCell PL _)
      clear hK K
      have hO := hH
      clear hH
      have hH := hH2
      clear hH2
      try simp only [Act.put, List.setIfInBounds_toArray, List.set_cons_zero, List.set_cons_succ]
      refine wpAnyH_take (i := 6) (v := ?_) (by simp only [List.getElem?_toArray, List.getElem?_cons_succ, List.getElem?_cons_zero]; rfl) (by kernel_rfl) (by kernel_rfl) (by kernel_rfl) (by exact fun _ _ _ h => h) (Or.inl ⟨by rfl, ?_⟩) hH ?_
      rotate_left
      · (intro wS hS; clear hS; go_simp; try rfl)
      try simp only [Act.put, List.setIfInBounds_toArray, List.set_cons_zero, List.set_cons_succ]
      refine wpAnyH_done (by kernel_rfl) ?_ _
      go_wp2_with fail
      go_meet
      exact ⟨w2.heap.size, _, rfl, rfl, VB.out, (((O.out.far (by first | exact .inl lb1 | exact .inr (Nat.le_refl _) | omega) _).far (by first | exact .inl lb1 | exact .inr (Nat.le_refl _) | omega) _).far (by first | exact .inl lb1 | exact .inr (Nat.le_refl _) | omega) _).wide hs1 (by have := hb3.size; first | (simp; done) | (simp; omega) | omega), hH⟩
  case rest =>
    obtain ⟨p6, v0, rfl, rfl, k6, in0, hb⟩ := hcut
    have lK0 := K0.out.lt
    have lK1 := K1.out.lt
    have lK2 := K2.out.lt
    have K0 := Lib.hid (K0.out.step hb)
    have K1 := Lib.hid (K1.out.step hb)
    have K2 := Lib.hid (K2.out.step hb)
    have B := Lib.hid (stepB B.out hb)
    have K6 := Lib.hid k6
    have LP := hb.size
    clear hb k6 da0 da1 da2 db0 db1 db2 db3 dc0 dc1 dc2 gf0 gf1 gf2
    obtain ⟨cc0, cc1, cc2, -, -, -⟩ := K0.out.all
    have lw : w.heap.size ≤ w2.heap.size := by have := B.out.size; omega
    rcases in0.cases with ⟨rfl, rfl⟩ | ⟨g, qc, hv, gB, -, gi, gc⟩
    · obtain rfl : n = 0 := HX.out.symm
      have hC0 : C ≤ 0 := by
        rcases Nat.eq_zero_or_pos C with h | h
        · omega
        · have := Nat.mul_pos (show 0 < R by omega) h
          have := HN.out
          omega
      have EQ : Hid (MR.done R C (opL 0 I J t C []) = MR.done R C []) := rfl
      clear in0
      go_wp2_with fail
      go_loopw [31] (fun i wr => i = .int .i64 0 ∧ wr = wc) (fun _ _ => 0)
      case atStart => exact ⟨rfl, rfl⟩
      case round =>
        obtain ⟨rfl, rfl⟩ := hrel
        obtain ⟨dd0, dd1, dd2, -, -, -⟩ := K6.out.all
        go_wp2_with fail
        refine (iDone R C none 0 [] wr (Rd.nil _ _) (by simp)).mono ?_
        rintro e w4 ⟨rfl, hb⟩
        have R2 := Lib.hid (K2.out.step hb)
        have B := Lib.hid (stepB B.out hb)
        clear hb
        obtain ⟨s0, s1, s2, t0, t1, t2⟩ := R2.out.all
        have be : ∀ x y z, Below w.heap.size w (((w4.setCell ⟨w.heap.size + 1 + 1, 0, none⟩ x).setCell ⟨w.heap.size + 1 + 1, 1, none⟩ y).setCell ⟨w.heap.size + 1 + 1, 2, none⟩ z) := fun x y z =>
          (((B.out.setCell (by show w.heap.size ≤ w.heap.size + 1 + 1; omega) _).setCell (by show w.heap.size ≤ w.heap.size + 1 + 1; omega) _).setCell (by show w.heap.size ≤ w.heap.size + 1 + 1; omega) _)
        have BE := Lib.hid be
        clear be
        rcases Bool.eq_false_or_eq_true (isMat R C []) with hd | hd
        · have E : Hid (MR.done R C [] = ⟨true, R, C, []⟩) := by show MR.done R C [] = _; unfold MR.done; rw [hd]; rfl
          rw [hd]
          clear hd
          unfold DoneRes
          go_wp2_with fail
          obtain ⟨E0, E1, E2, -, -, -⟩ := (((R2.out.set0 (.int .i64 R)).set1 (.int .i64 C)).set2 (.slice none 0 0)).all
          rw [EQ.out, E.out]
          exact bodyPost_ret (v := .tuple #[.agg #[.int .i64 R, .int .i64 C, .slice none 0 0], .bool true]) (by simp [results, Try.results108, go_sem, E0, E1, E2]) rfl ⟨_, rfl, .inl ⟨rfl, rfl⟩, BE.out _ _ _⟩
        · have E : Hid (MR.done R C [] = MR.no) := by show MR.done R C [] = _; unfold MR.done; rw [hd]; rfl
          rw [hd]
          clear hd
          unfold DoneRes
          go_wp2_with fail
          obtain ⟨E0, E1, E2, -, -, -⟩ := (((R2.out.set0 (.int .i64 0)).set1 (.int .i64 0)).set2 (.slice none 0 0)).all
          rw [EQ.out, E.out]
          exact bodyPost_ret (v := .tuple #[.agg #[.int .i64 0, .int .i64 0, .slice none 0 0], .bool false]) (by simp [results, Try.results108, go_sem, E0, E1, E2]) rfl ⟨_, rfl, .inl ⟨rfl, rfl⟩, BE.out _ _ _⟩
    rw [HX.out] at hv gc
    subst hv
    have NE := gi.ne_blk K6.out
    have GI := Lib.hid gi
    clear in0 gi
    go_wp2_with fail
    go_loopw [31] (fun i wr => ∃ q : Nat, i = .int .i64 q ∧ q ≤ C ∧ Ints wr g (colTo (rwAt 0 I J t C xs) C xs q) ∧ wc.grownBy wr (some g) ∧ prodTo 0 J t C xs q) (fun i _ => C - (intOf i).toNat)
    case atStart => exact ⟨0, rfl, by omega, by rw [colTo_zero]; exact GI.out, World.grownBy.refl _ _, prodTo_zero _ _ _ _ _⟩
    case round =>
      obtain ⟨q, rfl, hq, hi, hgr, hp⟩ := hrel
      have IT := Lib.hid hi
      have G := Lib.hid hgr
      have P := Lib.hid hp
      clear hi hgr hp
      have R0 := Lib.hid (K0.out.keepOne G.out (by omega))
      have R1 := Lib.hid (K1.out.keepOne G.out (by omega))
      have R2 := Lib.hid (K2.out.keepOne G.out (by omega))
      have R6 := Lib.hid (K6.out.keepOne G.out NE.symm)
      have BW := Lib.hid (B.out.trans (below_of_one G.out (by omega) B.out.size))
      have HR := Lib.hid (H.out.below BW.out)
      obtain ⟨r0, r1, r2, -, -, -⟩ := R0.out.all
      obtain ⟨o0, o1, o2, o3⟩ := R1.out.all
      obtain ⟨s0, s1, s2, -, -, -⟩ := R6.out.all
      by_cases hlt : q < C
      · have a1 : I * C + q < n := by rw [HN.out]; exact idx_lt hI hlt
        have a2 : J * C + q < n := by rw [HN.out]; exact idx_lt hJ hlt
        have c1 : (I : Int) * (C : Int) = ((I * C : Nat) : Int) := (Int.natCast_mul _ _).symm
        have c2 : (J : Int) * (C : Int) = ((J * C : Nat) : Int) := (Int.natCast_mul _ _).symm
        have d1 : 0 ≤ (I : Int) * (C : Int) ∧ (I : Int) * (C : Int) ≤ 600 := by rw [c1]; omega
        have d2 : 0 ≤ (J : Int) * (C : Int) ∧ (J : Int) * (C : Int) ≤ 600 := by rw [c2]; omega
        have e1 : 0 ≤ (I : Int) * (C : Int) + (q : Int) := by omega
        have e2 : (I : Int) * (C : Int) + (q : Int) < (n : Int) := by rw [c1]; omega
        have e3 : ((I : Int) * (C : Int) + (q : Int)).toNat = I * C + q := by rw [c1]; omega
        have f1 : 0 ≤ (J : Int) * (C : Int) + (q : Int) := by omega
        have f2 : (J : Int) * (C : Int) + (q : Int) < (n : Int) := by rw [c2]; omega
        have f3 : ((J : Int) * (C : Int) + (q : Int)).toNat = J * C + q := by rw [c2]; omega
        obtain ⟨d11, d12⟩ := d1
        obtain ⟨d21, d22⟩ := d2
        have v1 : IntKind.i64.wrap ((I : Int) * (C : Int)) = (I : Int) * (C : Int) := IntWalk.i64_in _ (by omega)
        have v2 : IntKind.i64.wrap ((I : Int) * (C : Int) + (q : Int)) = (I : Int) * (C : Int) + (q : Int) := IntWalk.i64_in _ (by omega)
        have v3 : IntKind.i64.wrap ((J : Int) * (C : Int)) = (J : Int) * (C : Int) := IntWalk.i64_in _ (by omega)
        have v4 : IntKind.i64.wrap ((J : Int) * (C : Int) + (q : Int)) = (J : Int) * (C : Int) + (q : Int) := IntWalk.i64_in _ (by omega)
        obtain ⟨ba, oa, rfl, x1⟩ := HR.out (I * C + q) (by rw [HX.out]; exact a1)
        have x2 := HR.out.cells (J * C + q) (by rw [HX.out]; exact a2)
        clear c1 c2
        go_wp2_with fail
        go_quiet (fail)
        have R0 := Lib.hid (R0.out.drewN nq)
        have R1 := Lib.hid (R1.out.keepOne (grown_of_below (below_drewN (Below.refl _ _) nq) (some w.heap.size)) (by omega))
        have R2 := Lib.hid (R2.out.drewN nq)
        have R6 := Lib.hid (R6.out.drewN nq)
        have IT := Lib.hid (IT.out.drewN nq)
        have G := Lib.hid (grown_drewN_one G.out nq)
        have BW := Lib.hid (below_drewN BW.out nq)
        have HR := Lib.hid (H.out.below BW.out)
        clear r0 r1 r2 o0 o1 o2 o3 s0 s1 s2 x1 x2
        generalize wr.drewN nq = w3 at R0 R1 R2 R6 IT G BW HR ⊢
        obtain ⟨za, hza⟩ : ∃ z, xs.getD (I * C + q) 0 = z := ⟨_, rfl⟩
        obtain ⟨zb, hzb⟩ : ∃ z, xs.getD (J * C + q) 0 = z := ⟨_, rfl⟩
        have ZA := Lib.hid hza
        have ZB := Lib.hid hzb
        have CC : Hid (∀ wS, Below w3.heap.size w3 wS → _) := fun wS hS => colCells R0.out HR.out HX.out a1 a2 hS
        rw [hza, hzb] at CC
        clear hza hzb
        have NA : Hid (NumP za) := by rw [← ZA.out]; exact nums_at NX.out (by rw [HX.out]; exact a1)
        have NB : Hid (NumP zb) := by rw [← ZB.out]; exact nums_at NX.out (by rw [HX.out]; exact a2)
        go_upto_region 8 with fail
        refine wp_region_held_drew (S := fun w' => Below w3.heap.size w3 w') (by kernel_rfl) (Below.refl _ _).drew (fun hH => ?_)
        refine wpAnyH_take (i := 0) (v := ?_) (by simp only [List.getElem?_toArray, List.getElem?_cons_zero]; rfl) (by kernel_rfl) (by kernel_rfl) (by kernel_rfl) (by exact fun _ _ _ h => h) (Or.inl ⟨by rfl, ?_⟩) hH ?_
        rotate_left
        · (intro wS hS; clear hS; go_simp; try rfl)
        try simp only [Act.put, List.setIfInBounds_toArray, List.set_cons_zero, List.set_cons_succ]
        refine wpAnyH_take (i := 1) (v := ?_) (by simp only [List.getElem?_toArray, List.getElem?_cons_succ, List.getElem?_cons_zero]; rfl) (by kernel_rfl) (by kernel_rfl) (by kernel_rfl) (by exact fun _ _ _ h => h) (Or.inl ⟨by rfl, ?_⟩) hH ?_
        rotate_left
        · (intro wS hS; clear hS; go_simp; try rfl)
        try simp only [Act.put, List.setIfInBounds_toArray, List.set_cons_zero, List.set_cons_succ]
        refine wpAnyH_take (i := 2) (v := ?_) (by simp only [List.getElem?_toArray, List.getElem?_cons_succ, List.getElem?_cons_zero]; rfl) (by kernel_rfl) (by kernel_rfl) (by kernel_rfl) (by exact fun _ _ _ h => h) (Or.inl ⟨by rfl, ?_⟩) hH ?_
        rotate_left
        · (intro wS hS; (try dsimp only at hS); obtain ⟨k1, k2, k3, k4, k5⟩ := CC.out _ hS; go_simp; try rfl)
        try simp only [Act.put, List.setIfInBounds_toArray, List.set_cons_zero, List.set_cons_succ]
        refine wpAnyH_take (i := 3) (v := ?_) (by simp only [List.getElem?_toArray, List.getElem?_cons_succ, List.getElem?_cons_zero]; rfl) (by kernel_rfl) (by kernel_rfl) (by kernel_rfl) (by exact fun _ _ _ h => h) (Or.inl ⟨by rfl, ?_⟩) hH ?_
        rotate_left
        · (intro wS hS; clear hS; go_simp; try rfl)
        try simp only [Act.put, List.setIfInBounds_toArray, List.set_cons_zero, List.set_cons_succ]
        refine wpAnyH_take (i := 4) (v := ?_) (by simp only [List.getElem?_toArray, List.getElem?_cons_succ, List.getElem?_cons_zero]; rfl) (by kernel_rfl) (by kernel_rfl) (by kernel_rfl) (by exact fun _ _ _ h => h) (Or.inl ⟨by rfl, ?_⟩) hH ?_
        rotate_left
        · (intro wS hS; clear hS; go_simp; try rfl)
        try simp only [Act.put, List.setIfInBounds_toArray, List.set_cons_zero, List.set_cons_succ]
        refine wpAnyH_take (i := 5) (v := ?_) (by simp only [List.getElem?_toArray, List.getElem?_cons_succ, List.getElem?_cons_zero]; rfl) (by kernel_rfl) (by kernel_rfl) (by kernel_rfl) (by exact fun _ _ _ h => h) (Or.inl ⟨by rfl, ?_⟩) hH ?_
        rotate_left
        · (intro wS hS; (try dsimp only at hS); obtain ⟨k1, k2, k3, k4, k5⟩ := CC.out _ hS; go_simp; try rfl)
        try simp only [Act.put, List.setIfInBounds_toArray, List.set_cons_zero, List.set_cons_succ]
        refine wpAnyH_take (i := 6) (v := ?_) (by simp only [List.getElem?_toArray, List.getElem?_cons_succ, List.getElem?_cons_zero]; rfl) (by kernel_rfl) (by kernel_rfl) (by kernel_rfl) (by exact fun _ _ _ h => h) (Or.inl ⟨by rfl, ?_⟩) hH ?_
        rotate_left
        · (intro wS hS; clear hS; go_simp; try rfl)
        try simp only [Act.put, List.setIfInBounds_toArray, List.set_cons_zero, List.set_cons_succ]
        refine wpAnyH_take (i := 7) (v := ?_) (by simp only [List.getElem?_toArray, List.getElem?_cons_succ, List.getElem?_cons_zero]; rfl) (by kernel_rfl) (by kernel_rfl) (by kernel_rfl) (by exact fun _ _ _ h => h) (Or.inl ⟨by rfl, ?_⟩) hH ?_
        rotate_left
        · (intro wS hS; (try dsimp only at hS); obtain ⟨k1, k2, k3, k4, k5⟩ := CC.out _ hS; go_simp; try rfl)
        try simp only [Act.put, List.setIfInBounds_toArray, List.set_cons_zero, List.set_cons_succ]
        refine wpAnyH_take (i := 8) (v := ?_) (by simp only [List.getElem?_toArray, List.getElem?_cons_succ, List.getElem?_cons_zero]; rfl) (by kernel_rfl) (by kernel_rfl) (by kernel_rfl) (by exact fun _ _ _ h => h) (Or.inl ⟨by rfl, ?_⟩) hH ?_
        rotate_left
        · (intro wS hS; clear hS; go_simp; try rfl)
        try simp only [Act.put, List.setIfInBounds_toArray, List.set_cons_zero, List.set_cons_succ]
        refine wpAnyH_take (i := 9) (v := ?_) (by simp only [List.getElem?_toArray, List.getElem?_cons_succ, List.getElem?_cons_zero]; rfl) (by kernel_rfl) (by kernel_rfl) (by kernel_rfl) (by exact fun _ _ _ h => h) (Or.inl ⟨by rfl, ?_⟩) hH ?_
        rotate_left
        · (intro wS hS; clear hS; go_simp; try rfl)
        try simp only [Act.put, List.setIfInBounds_toArray, List.set_cons_zero, List.set_cons_succ]
        refine wpAnyH_take (i := 10) (v := ?_) (by simp only [List.getElem?_toArray, List.getElem?_cons_succ, List.getElem?_cons_zero]; rfl) (by kernel_rfl) (by kernel_rfl) (by kernel_rfl) (by exact fun _ _ _ h => h) (Or.inl ⟨by rfl, ?_⟩) hH ?_
        rotate_left
        · (intro wS hS; (try dsimp only at hS); obtain ⟨k1, k2, k3, k4, k5⟩ := CC.out _ hS; go_simp; try rfl)
        try simp only [Act.put, List.setIfInBounds_toArray, List.set_cons_zero, List.set_cons_succ]
        refine wpAnyH_take (i := 11) (v := ?_) (by simp only [List.getElem?_toArray, List.getElem?_cons_succ, List.getElem?_cons_zero]; rfl) (by kernel_rfl) (by kernel_rfl) (by kernel_rfl) (by exact fun _ _ _ h => h) (Or.inl ⟨by rfl, ?_⟩) hH ?_
        rotate_left
        · (intro wS hS; clear hS; go_simp; try rfl)
        try simp only [Act.put, List.setIfInBounds_toArray, List.set_cons_zero, List.set_cons_succ]
        refine wpAnyH_take (i := 12) (v := ?_) (by simp only [List.getElem?_toArray, List.getElem?_cons_succ, List.getElem?_cons_zero]; rfl) (by kernel_rfl) (by kernel_rfl) (by kernel_rfl) (by exact fun _ _ _ h => h) (Or.inl ⟨by rfl, ?_⟩) hH ?_
        rotate_left
        · (intro wS hS; clear hS; go_simp; try rfl)
        try simp only [Act.put, List.setIfInBounds_toArray, List.set_cons_zero, List.set_cons_succ]
        refine wpAnyH_take (i := 13) (v := ?_) (by simp only [List.getElem?_toArray, List.getElem?_cons_succ, List.getElem?_cons_zero]; rfl) (by kernel_rfl) (by kernel_rfl) (by kernel_rfl) (by exact fun _ _ _ h => h) (Or.inl ⟨by rfl, ?_⟩) hH ?_
        rotate_left
        · (intro wS hS; clear hS; go_simp; try rfl)
        try simp only [Act.put, List.setIfInBounds_toArray, List.set_cons_zero, List.set_cons_succ]
        refine wpAnyH_ready (rs := [14]) (by kernel_rfl) (by simp) ?_
        refine AllReadyH.cons (by simp only [List.getElem?_toArray, List.getElem?_cons_succ, List.getElem?_cons_zero]; rfl) (fun K hK => ?_) AllReadyH.nil
        go_simp
        go_upon
        (with_reducible refine (iDo0 za zb I J t _).mono ?_)
        rintro e v14 ⟨rfl, hb14⟩
        try dsimp only
        refine hK.out _ _ ?_ (fun hH2 => ?_)
        · exact hH.trans (hb14.mono hH.size)
        clear hK K hH
        have hH := hH2
        clear hH2
        try simp only [Act.put, List.setIfInBounds_toArray, List.set_cons_zero, List.set_cons_succ]
        refine wpAnyH_take (i := 15) (v := ?_) (by simp only [List.getElem?_toArray, List.getElem?_cons_succ, List.getElem?_cons_zero]; rfl) (by kernel_rfl) (by kernel_rfl) (by kernel_rfl) (by exact fun _ _ _ h => h) (Or.inl ⟨by rfl, ?_⟩) hH ?_
        rotate_left
        · (intro wS hS; clear hS; go_simp; try rfl)
        try simp only [Act.put, List.setIfInBounds_toArray, List.set_cons_zero, List.set_cons_succ]
        refine wpAnyH_take (i := 16) (v := ?_) (by simp only [List.getElem?_toArray, List.getElem?_cons_succ, List.getElem?_cons_zero]; rfl) (by kernel_rfl) (by kernel_rfl) (by kernel_rfl) (by exact fun _ _ _ h => h) (Or.inl ⟨by rfl, ?_⟩) hH ?_
        rotate_left
        · (intro wS hS; clear hS; go_simp; try rfl)
        try simp only [Act.put, List.setIfInBounds_toArray, List.set_cons_zero, List.set_cons_succ]
        refine wpAnyH_take (i := 17) (v := ?_) (by simp only [List.getElem?_toArray, List.getElem?_cons_succ, List.getElem?_cons_zero]; rfl) (by kernel_rfl) (by kernel_rfl) (by kernel_rfl) (by exact fun _ _ _ h => h) (Or.inl ⟨by rfl, ?_⟩) hH ?_
        rotate_left
        · (intro wS hS; clear hS; go_simp; try rfl)
        try simp only [Act.put, List.setIfInBounds_toArray, List.set_cons_zero, List.set_cons_succ]
        refine wpAnyH_take (i := 18) (v := ?_) (by simp only [List.getElem?_toArray, List.getElem?_cons_succ, List.getElem?_cons_zero]; rfl) (by kernel_rfl) (by kernel_rfl) (by kernel_rfl) (by exact fun _ _ _ h => h) (Or.inl ⟨by rfl, ?_⟩) hH ?_
        rotate_left
        · (intro wS hS; clear hS; go_simp; try rfl)
        try simp only [Act.put, List.setIfInBounds_toArray, List.set_cons_zero, List.set_cons_succ]
        refine wpAnyH_take (i := 19) (v := ?_) (by simp only [List.getElem?_toArray, List.getElem?_cons_succ, List.getElem?_cons_zero]; rfl) (by kernel_rfl) (by kernel_rfl) (by kernel_rfl) (by exact fun _ _ _ h => h) (Or.inl ⟨by rfl, ?_⟩) hH ?_
        rotate_left
        · (intro wS hS; clear hS; go_simp; try rfl)
        try simp only [Act.put, List.setIfInBounds_toArray, List.set_cons_zero, List.set_cons_succ]
        refine wpAnyH_take (i := 20) (v := ?_) (by simp only [List.getElem?_toArray, List.getElem?_cons_succ, List.getElem?_cons_zero]; rfl) (by kernel_rfl) (by kernel_rfl) (by kernel_rfl) (by exact fun _ _ _ h => h) (Or.inl ⟨by rfl, ?_⟩) hH ?_
        rotate_left
        · (intro wS hS; clear hS; go_simp; try rfl)
        try simp only [Act.put, List.setIfInBounds_toArray, List.set_cons_zero, List.set_cons_succ]
        refine wpAnyH_take (i := 21) (v := ?_) (by simp only [List.getElem?_toArray, List.getElem?_cons_succ, List.getElem?_cons_zero]; rfl) (by kernel_rfl) (by kernel_rfl) (by kernel_rfl) (by exact fun _ _ _ h => h) (Or.inl ⟨by rfl, ?_⟩) hH ?_
        rotate_left
        · (intro wS hS; clear hS; go_simp; try rfl)
        try simp only [Act.put, List.setIfInBounds_toArray, List.set_cons_zero, List.set_cons_succ]
        refine wpAnyH_done (by kernel_rfl) ?_ _
        have hb : Below w3.heap.size w3 v14 := hH
        have R0 := Lib.hid (R0.out.step hb)
        have R1 := Lib.hid (R1.out.step hb)
        have R2 := Lib.hid (R2.out.step hb)
        have R6 := Lib.hid (R6.out.step hb)
        have IT := Lib.hid (IT.out.keep hb IT.out.lt)
        have G := Lib.hid (G.out.trans (grown_of_below hb (some g)))
        have BW := Lib.hid (stepB BW.out hb)
        clear CC hH hb14 hb HR
        obtain ⟨s0, s1, s2, -, -, -⟩ := R6.out.all
        obtain ⟨y0, y1, y2, y3, y4, y5⟩ := R2.out.all
        go_upto_region 11 with fail
        have hold1 := IT.out.cell (i := I * C + q) (by rw [colTo_length, HX.out]; exact a1)
        have hfr1 := IT.out.free (I * C + q)
        refine wp_region_held_drew (S := fun w' => v14.grownBy w' (some g)) (by kernel_rfl) (grown_drew_one (World.grownBy.refl _ _)) (fun hH => ?_)
        refine wpAnyH_take (i := 0) (v := ?_) (by simp only [List.getElem?_toArray, List.getElem?_cons_zero]; rfl) (by kernel_rfl) (by kernel_rfl) (by kernel_rfl) (by exact fun _ _ _ h => h) (Or.inl ⟨by rfl, ?_⟩) hH ?_
        rotate_left
        · (intro wS hS; clear hS; go_simp; try rfl)
        try simp only [Act.put, List.setIfInBounds_toArray, List.set_cons_zero, List.set_cons_succ]
        refine wpAnyH_take (i := 1) (v := ?_) (by simp only [List.getElem?_toArray, List.getElem?_cons_succ, List.getElem?_cons_zero]; rfl) (by kernel_rfl) (by kernel_rfl) (by kernel_rfl) (by exact fun _ _ _ h => h) (Or.inl ⟨by rfl, ?_⟩) hH ?_
        rotate_left
        · (intro wS hS; (try dsimp only at hS); obtain ⟨k1, k2, k3, -, -, -⟩ := (R6.out.keepOne hS NE.symm).all; go_simp; try rfl)
        try simp only [Act.put, List.setIfInBounds_toArray, List.set_cons_zero, List.set_cons_succ]
        refine wpAnyH_take (i := 2) (v := ?_) (by simp only [List.getElem?_toArray, List.getElem?_cons_succ, List.getElem?_cons_zero]; rfl) (by kernel_rfl) (by kernel_rfl) (by kernel_rfl) (by exact fun _ _ _ h => h) (Or.inl ⟨by rfl, ?_⟩) hH ?_
        rotate_left
        · (intro wS hS; clear hS; go_simp; try rfl)
        try simp only [Act.put, List.setIfInBounds_toArray, List.set_cons_zero, List.set_cons_succ]
        refine wpAnyH_take (i := 3) (v := ?_) (by simp only [List.getElem?_toArray, List.getElem?_cons_succ, List.getElem?_cons_zero]; rfl) (by kernel_rfl) (by kernel_rfl) (by kernel_rfl) (by exact fun _ _ _ h => h) (Or.inl ⟨by rfl, ?_⟩) hH ?_
        rotate_left
        · (intro wS hS; clear hS; go_simp; try rfl)
        try simp only [Act.put, List.setIfInBounds_toArray, List.set_cons_zero, List.set_cons_succ]
        refine wpAnyH_take (i := 4) (v := ?_) (by simp only [List.getElem?_toArray, List.getElem?_cons_succ, List.getElem?_cons_zero]; rfl) (by kernel_rfl) (by kernel_rfl) (by kernel_rfl) (by exact fun _ _ _ h => h) (Or.inl ⟨by rfl, ?_⟩) hH ?_
        rotate_left
        · (intro wS hS; (try dsimp only at hS); obtain ⟨k1, k2, k3, -, -, -⟩ := (R6.out.keepOne hS NE.symm).all; go_simp; try rfl)
        try simp only [Act.put, List.setIfInBounds_toArray, List.set_cons_zero, List.set_cons_succ]
        refine wpAnyH_take (i := 5) (v := ?_) (by simp only [List.getElem?_toArray, List.getElem?_cons_succ, List.getElem?_cons_zero]; rfl) (by kernel_rfl) (by kernel_rfl) (by kernel_rfl) (by exact fun _ _ _ h => h) (Or.inl ⟨by rfl, ?_⟩) hH ?_
        rotate_left
        · (intro wS hS; clear hS; go_simp; try rfl)
        try simp only [Act.put, List.setIfInBounds_toArray, List.set_cons_zero, List.set_cons_succ]
        refine wpAnyH_take (i := 6) (v := ?_) (by simp only [List.getElem?_toArray, List.getElem?_cons_succ, List.getElem?_cons_zero]; rfl) (by kernel_rfl) (by kernel_rfl) (by kernel_rfl) (by exact fun _ _ _ h => h) (Or.inl ⟨by rfl, ?_⟩) hH ?_
        rotate_left
        · (intro wS hS; clear hS; go_simp; try rfl)
        try simp only [Act.put, List.setIfInBounds_toArray, List.set_cons_zero, List.set_cons_succ]
        refine wpAnyH_take (i := 7) (v := ?_) (by simp only [List.getElem?_toArray, List.getElem?_cons_succ, List.getElem?_cons_zero]; rfl) (by kernel_rfl) (by kernel_rfl) (by kernel_rfl) (by exact fun _ _ _ h => h) (Or.inl ⟨by rfl, ?_⟩) hH ?_
        rotate_left
        · (intro wS hS; clear hS; go_simp; try rfl)
        try simp only [Act.put, List.setIfInBounds_toArray, List.set_cons_zero, List.set_cons_succ]
        refine wpAnyH_take (i := 8) (v := ?_) (by simp only [List.getElem?_toArray, List.getElem?_cons_succ, List.getElem?_cons_zero]; rfl) (by kernel_rfl) (by kernel_rfl) (by kernel_rfl) (by exact fun _ _ _ h => h) (Or.inl ⟨by rfl, ?_⟩) hH ?_
        rotate_left
        · (intro wS hS; clear hS; go_simp; try rfl)
        try simp only [Act.put, List.setIfInBounds_toArray, List.set_cons_zero, List.set_cons_succ]
        refine wpAnyH_ready (rs := [9]) (by kernel_rfl) (by simp) ?_
        refine AllReadyH.cons (by simp only [List.getElem?_toArray, List.getElem?_cons_succ, List.getElem?_cons_zero]; rfl) (fun K hK => ?_) AllReadyH.nil
        clear hH
        go_simp
        have IT2 := Lib.hid (IT.out.set (I * C + q) (zb))
        refine hK.out _ _ (grown_drew_one (grown_set_one (World.grownBy.refl _ _) rfl _)) (fun hH => ?_)
        clear hK K
        try simp only [Act.put, List.setIfInBounds_toArray, List.set_cons_zero, List.set_cons_succ]
        refine wpAnyH_take (i := 10) (v := ?_) (by simp only [List.getElem?_toArray, List.getElem?_cons_succ, List.getElem?_cons_zero]; rfl) (by kernel_rfl) (by kernel_rfl) (by kernel_rfl) (by exact fun _ _ _ h => h) (Or.inl ⟨by rfl, ?_⟩) hH ?_
        rotate_left
        · (intro wS hS; clear hS; go_simp; try rfl)
        try simp only [Act.put, List.setIfInBounds_toArray, List.set_cons_zero, List.set_cons_succ]
        refine wpAnyH_ready (rs := [11]) (by kernel_rfl) (by simp) ?_
        refine AllReadyH.cons (by simp only [List.getElem?_toArray, List.getElem?_cons_succ, List.getElem?_cons_zero]; rfl) (fun K hK => ?_) AllReadyH.nil
        clear hH hold1 hfr1
        have hold2 := IT2.out.cell (i := J * C + q) (by rw [List.length_set, colTo_length, HX.out]; exact a2)
        have hfr2 := IT2.out.free (J * C + q)
        go_simp
        refine hK.out _ _ (grown_drew_one (grown_set_one (b := g) (grown_set_one (b := g) (World.grownBy.refl v14 (some g)) rfl _) rfl _)) (fun hH => ?_)
        clear hK K hH hold2 hfr2
        refine wpAnyH_done (by kernel_rfl) ?_ _
        go_wp2_with fail
        go_roundw
        case rel =>
          have E := rw_swap I J t C R xs q (HX.out.trans HN.out) hI hJ hlt (by have := IJ.out; omega)
          rw [ZA.out, ZB.out] at E
          refine ⟨q + 1, by go_num, by omega, ?_, grown_drew_one (grown_set_one (b := g) (grown_set_one (b := g) G.out rfl _) rfl _), fun h => absurd h (by decide)⟩
          rw [← E]
          exact (IT2.out.set (J * C + q) (za)).drew
        case measure => simp [intOf]; omega
      · have hqC : q = C := by omega
        rw [hqC] at IT P
        have HL : Hid ((colTo (rwAt 0 I J t C xs) C xs C).length = n) := by show _ = n; rw [colTo_length, HX.out]
        have EQ : Hid (MR.done R C (opL 0 I J t C xs) = MR.done R C (colTo (rwAt 0 I J t C xs) C xs C)) := rw_done 0 I J t R C xs (by decide) (HX.out.trans HN.out) NX.out HT.out P.out
        generalize colTo (rwAt 0 I J t C xs) C xs C = L at IT HL EQ
        clear o0 o1 o2 o3
        go_wp2_with fail
        have ST := iDone R C (some ⟨g, 0, none⟩) qc L wr IT.out.rd (by rw [HL.out]; omega)
        rw [HL.out] at ST
        refine ST.mono ?_
        clear ST
        rintro e w4 ⟨rfl, hb⟩
        have R2 := Lib.hid (R2.out.step hb)
        have IT := Lib.hid (IT.out.keep hb IT.out.lt)
        have B := Lib.hid (stepB BW.out hb)
        clear hb
        obtain ⟨s0, s1, s2, t0, t1, t2⟩ := R2.out.all
        have be : ∀ x y z, Below w.heap.size w (((w4.setCell ⟨w.heap.size + 1 + 1, 0, none⟩ x).setCell ⟨w.heap.size + 1 + 1, 1, none⟩ y).setCell ⟨w.heap.size + 1 + 1, 2, none⟩ z) := fun x y z =>
          (((B.out.setCell (by show w.heap.size ≤ w.heap.size + 1 + 1; omega) _).setCell (by show w.heap.size ≤ w.heap.size + 1 + 1; omega) _).setCell (by show w.heap.size ≤ w.heap.size + 1 + 1; omega) _)
        have BE := Lib.hid be
        clear be
        rcases Bool.eq_false_or_eq_true (isMat R C L) with hd | hd
        · have E : Hid (MR.done R C L = ⟨true, R, C, L⟩) := by show MR.done R C L = _; unfold MR.done; rw [hd]; rfl
          rw [hd]
          clear hd
          unfold DoneRes
          go_wp2_with fail
          obtain ⟨E0, E1, E2, -, -, -⟩ := (((R2.out.set0 (.int .i64 R)).set1 (.int .i64 C)).set2 (.slice (some ⟨g, 0, none⟩) n qc)).all
          rw [EQ.out, E.out]
          refine bodyPost_ret (v := .tuple #[.agg #[.int .i64 R, .int .i64 C, .slice (some ⟨g, 0, none⟩) n qc], .bool true]) (by simp [results, Try.results108, go_sem, E0, E1, E2]) rfl ⟨_, rfl, ?_, ?_⟩
          · refine .inr ⟨g, qc, by rw [HL.out], by omega, ?_, by rw [HL.out]; omega, by rw [HL.out]; omega⟩
            exact ((IT.out.far (by show g ≠ w.heap.size + 1 + 1; omega) _).far (by show g ≠ w.heap.size + 1 + 1; omega) _).far (by show g ≠ w.heap.size + 1 + 1; omega) _
          · exact BE.out _ _ _
        · have E : Hid (MR.done R C L = MR.no) := by show MR.done R C L = _; unfold MR.done; rw [hd]; rfl
          rw [hd]
          clear hd
          unfold DoneRes
          go_wp2_with fail
          obtain ⟨E0, E1, E2, -, -, -⟩ := (((R2.out.set0 (.int .i64 0)).set1 (.int .i64 0)).set2 (.slice none 0 0)).all
          rw [EQ.out, E.out]
          exact bodyPost_ret (v := .tuple #[.agg #[.int .i64 0, .int .i64 0, .slice none 0 0], .bool false]) (by simp [results, Try.results108, go_sem, E0, E1, E2]) rfl ⟨_, rfl, .inl ⟨rfl, rfl⟩, BE.out _ _ _⟩
end Go.Proofs.Ytpknondccajinaa
end
