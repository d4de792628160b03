/-
  Texts of this seat, joined: MixD · EchLw · AcM · DoG · AcD · NumIDiv · AcX · LsI · SgMath · NumGD · LdI · AlI
-/
import Derived.Deep.RegionHeld3
import Derived.Deep.DeepCutAuto
import Derived.Test.YtpelnfenfeoeeaaRows
import Derived.WalkKit
import Derived.BigQuiet
import Derived.Deep.QuietTactic
import Derived.Lib.Hide
import Derived.IntWalk
import Derived.Test.YtpelnfenfeoeeaaPk1
import Derived.Test.YtpelnfenfeoeeaaPk2
import Derived.Test.YtpelnfenfeoeeaaPk3
import Derived.Test.YtpelnfenfeoeeaaPk4
import Derived.Test.YtpelnfenfeoeeaaPk5
import Derived.Test.YtpelnfenfeoeeaaPk6
import Derived.Test.YtpelnfenfeoeeaaPk8
import Derived.Test.YtpelnfenfeoeeaaPk9

section
/-
  The laws' unit and mix: mix is a matrix whose determinant is 1, or it is empty.
-/
namespace Go.Proofs.Ytpelnfenfeoeeaa
open Go.RowKit

/-- What mix makes: its determinant is 1, or it is empty. -/
def MixP (n r c : Int) (zs : List Int) : Prop := (r = n ∧ c = n ∧ 0 ≤ n ∧ zs.length = n.toNat * n.toNat ∧ nums zs = true ∧ det n.toNat (mxL n.toNat zs) = 1) ∨ (r = 0 ∧ c = 0 ∧ zs = [] ∧ 1 < n)
def UniOf (n : Int) (w : World) (e : Ending) (w' : World) : Prop := ∃ (r c : Int) (q : Option Addr) (qc : Nat) (zs : List Int), e = .returned (.agg #[.int .i64 r, .int .i64 c, .slice q zs.length qc]) ∧ Own w.heap.size w' (.slice q zs.length qc) zs ∧ MixP n r c zs ∧ zs.length ≤ 600 ∧ Below w.heap.size w w'
theorem idM_D (n : Int) (h0 : 0 ≤ n) (h6 : n ≤ 24) : MixP n (idM n).r (idM n).c (idM n).zs ∧ (idM n).zs.length ≤ 600 := by
  unfold idM
  rw [if_pos ⟨h0, by omega⟩]
  refine ⟨.inl ⟨rfl, rfl, h0, idL_length _ _, idL_nums _, idL_det _⟩, ?_⟩
  show (idL n.toNat n.toNat).length ≤ 600
  rw [idL_length]
  have : n.toNat * n.toNat ≤ 24 * 24 := Nat.mul_le_mul (by omega) (by omega)
  omega
theorem opM_len (k i j t r c : Int) (xs : List Int) (hl : xs.length ≤ 600) : (opM k i j t r c xs).zs.length ≤ 600 := by
  unfold opM MR.done
  split
  · split
    · show (opL k i.toNat j.toNat t c.toNat xs).length ≤ 600
      rw [opL_length]; exact hl
    · simp [MR.no]
  · simp [MR.no]
theorem opM_D (n i j t r c : Int) (xs : List Int) (h : MixP n r c xs) (hn : 1 < n) (hl : xs.length ≤ 600) : MixP n (opM 2 i j t r c xs).r (opM 2 i j t r c xs).c (opM 2 i j t r c xs).zs ∧ (opM 2 i j t r c xs).zs.length ≤ 600 := by
  refine ⟨?_, (opM_len 2 i j t r c xs hl)⟩
  rcases Bool.eq_false_or_eq_true (opM 2 i j t r c xs).ok with ho | ho
  · rcases h with ⟨rfl, rfl, h0, hz, hx, hd⟩ | ⟨rfl, rfl, rfl, -⟩
    · obtain ⟨N, rfl⟩ := Int.eq_ofNat_of_zero_le h0
      obtain ⟨ys, e, -, -, hy, ny, dy⟩ := opM_det ho
      rw [e]
      refine .inl ⟨rfl, rfl, h0, hy, ny, ?_⟩
      show det N (mxL N ys) = 1
      rw [dy]
      have hd : det N (mxL N xs) = 1 := hd
      rw [hd]; rfl
    · exfalso
      unfold opM at ho
      by_cases h1 : (isMat 0 0 [] && isOp 2 i j t 0) = true
      · simp only [Bool.and_eq_true] at h1
        have := isOp_says h1.2
        omega
      · rw [if_neg h1] at ho; exact absurd ho (by simp [MR.no])
  · have e : opM 2 i j t r c xs = MR.no := by
      unfold opM at ho ⊢
      split
      · rename_i h1
        rw [if_pos h1] at ho
        unfold MR.done at ho ⊢
        split
        · rename_i h2; rw [if_pos h2] at ho; exact absurd ho (by simp)
        · rfl
      · rfl
    rw [e]
    exact .inr ⟨rfl, rfl, rfl, hn⟩
theorem sOpD (n : Int) (h1 : 1 < n) (i j t r c : Int) (a : Option Addr) (m : Nat) (xs : List Int) (w : World) (h : Rd w a xs) (hn : xs.length ≤ 600) (hz : MixP n r c xs) (ha : Spot a) :
    Calls Try.prog 94 #[.agg #[.int .i64 r, .int .i64 c, .slice a xs.length m], .agg #[.int .i64 2, .int .i64 i, .int .i64 j, .int .i64 t]] w (fun e w' => ∃ (r' c' : Int) (q' : Option Addr) (qc' : Nat) (zs' : List Int) (ok : Bool), e = .returned (.tuple #[.agg #[.int .i64 r', .int .i64 c', .slice q' zs'.length qc'], .bool ok]) ∧ Own w.heap.size w' (.slice q' zs'.length qc') zs' ∧ (MixP n r' c' zs' ∧ zs'.length ≤ 600) ∧ Below w.heap.size w w') := by
  refine (sOp 2 i j t r c a m xs w h (by omega) ha).mono ?_
  rintro e w' ⟨v, rfl, own, hb⟩
  have hs := opM_D n i j t r c xs hz h1 hn
  obtain ⟨q, qc, rfl, -, -⟩ := own.form
  exact ⟨_, _, q, qc, _, _, rfl, own, hs, hb⟩
theorem lUnitX (n : Int) (w : World) : Calls Try.prog 93 #[.int .i64 n] w (fun e w' => ∃ (q : Option Addr) (qc : Nat), e = .returned (.agg #[.int .i64 (idM n).r, .int .i64 (idM n).c, .slice q (idM n).zs.length qc]) ∧ Own w.heap.size w' (.slice q (idM n).zs.length qc) (idM n).zs ∧ Below w.heap.size w w') := by
  obtain ⟨mr, hmr⟩ : ∃ mr, idM n = mr := ⟨_, rfl⟩
  rw [hmr]
  have MRH := Lib.hid hmr
  clear hmr
  go_enter Try.func93, Try.ntmps93
  go_wp2_with fail
  refine (sIdent n _).mono ?_
  rintro e w1 ⟨v, rfl, own, hb⟩
  rw [MRH.out] at own ⊢
  obtain ⟨q, qc, rfl, -, -⟩ := own.form
  have K2 : Hid (Blk3 w1 w.heap.size 26 (.int .i64 0) (.int .i64 0) (.slice none 0 0)) := (Blk3.at_ _ _ _ _ rfl).keep hb (by simp)
  have B : Hid (Below w.heap.size w w1) := ((Below.refl _ _).alloc (Nat.le_refl _) _).trans (hb.mono (by simp))
  have O := Lib.hid (own.le (show w.heap.size ≤ _ by simp))
  have OI : Hid (∀ x y z, Own w.heap.size ((((w1.alloc (.cells #[.int .i64 mr.r, .int .i64 mr.c, .slice q mr.zs.length qc] 26)).setCell ⟨w.heap.size, 0, none⟩ x).setCell ⟨w.heap.size, 1, none⟩ y).setCell ⟨w.heap.size, 2, none⟩ z) (.slice q mr.zs.length qc) mr.zs) := fun x y z => by
    rcases (own.old2 (.cells #[.int .i64 mr.r, .int .i64 mr.c, .slice q mr.zs.length qc] 26)) with h | ⟨g, cap, hv, hB, hi, hl, hc⟩
    · exact .inl h
    · have hB : w.heap.size + 1 ≤ g := by simpa using hB
      exact .inr ⟨g, cap, hv, by omega, ((hi.far (by show g ≠ w.heap.size; omega) _).far (by show g ≠ w.heap.size; omega) _).far (by show g ≠ w.heap.size; omega) _, hl, hc⟩
  clear own hb
  have K2 := Lib.hid (K2.out.old (.cells #[.int .i64 mr.r, .int .i64 mr.c, .slice q mr.zs.length qc] 26))
  obtain ⟨s0, s1, s2, f0, f1, f2⟩ := K2.out.all
  go_wp2_with fail
  obtain ⟨E0, E1, E2, -, -, -⟩ := (K2.out.set3 (.int .i64 mr.r) (.int .i64 mr.c) (.slice q mr.zs.length qc)).all
  refine bodyPost_ret (v := .agg #[.int .i64 mr.r, .int .i64 mr.c, .slice q mr.zs.length qc]) (by simp [results, Try.results93, go_sem, E0, E1, E2]) rfl ⟨q, qc, rfl, OI.out _ _ _, ?_⟩
  exact ((((B.out.alloc B.out.size _).setCell (Nat.le_refl _) _).setCell (Nat.le_refl _) _).setCell (Nat.le_refl _) _)

set_option maxRecDepth 100000 in
set_option maxHeartbeats 4000000 in
theorem lMixW (n : Int) (a : Option Addr) (len cap : Nat) (w : World) (hc : CodeIn w a len) (hn0 : 0 ≤ n) (hn6 : n ≤ 24) : Calls Try.prog 40 #[.slice a len cap, .int .i64 n] w (UniOf n w) := by
  have HC := Lib.hid hc
  have hl := hc.1
  clear hc
  unfold maxLen at hl
  go_enter Try.func40, Try.ntmps40
  go_wp2_with fail
  refine (lUnitX n _).mono ?_
  obtain ⟨hz, hlz⟩ := idM_D n hn0 hn6
  generalize (idM n).r = rA at hz ⊢
  generalize (idM n).c = cA at hz ⊢
  generalize (idM n).zs = zA at hz hlz ⊢
  rintro e w1 ⟨qA, qcA, rfl, own, hb⟩
  have K2 : Hid (Blk3 (w1.alloc (.cells #[.int .i64 rA, .int .i64 cA, .slice qA zA.length qcA] 26)) w.heap.size 26 (.int .i64 0) (.int .i64 0) (.slice none 0 0)) := ((Blk3.at_ _ _ _ _ rfl).keep hb (by simp)).old _
  have B : Hid (Below w.heap.size w (w1.alloc (.cells #[.int .i64 rA, .int .i64 cA, .slice qA zA.length qcA] 26))) := (((Below.refl _ _).alloc (Nat.le_refl _) _).trans (hb.mono (by simp))).alloc (by have := hb.size; simp at this; omega) _
  have K5 : Hid (Blk3 (w1.alloc (.cells #[.int .i64 rA, .int .i64 cA, .slice qA zA.length qcA] 26)) w1.heap.size 26 (.int .i64 rA) (.int .i64 cA) (.slice qA zA.length qcA)) := Blk3.at_ _ _ _ _ rfl
  have O := Lib.hid ((own.le (show w.heap.size + 1 ≤ _ by simp)).old2 (.cells #[.int .i64 rA, .int .i64 cA, .slice qA zA.length qcA] 26))
  have lw : w.heap.size < w1.heap.size := by have := hb.size; simp at this; omega
  have HZ := Lib.hid hz
  have HLZ := Lib.hid hlz
  clear own hb hz hlz
  go_wp2_with fail
  go_loopw [6, 7, 8, 9] (fun i _ _ _ wr => ∃ (j : Nat) (r c : Int) (q : Option Addr) (qc : Nat) (zs : List Int), i = .int .i64 j ∧ j ≤ 6 ∧ Blk3 wr w.heap.size 26 (.int .i64 0) (.int .i64 0) (.slice none 0 0) ∧ Blk3 wr w1.heap.size 26 (.int .i64 r) (.int .i64 c) (.slice q zs.length qc) ∧ Own (w.heap.size + 1) wr (.slice q zs.length qc) zs ∧ MixP n r c zs ∧ zs.length ≤ 600 ∧ Below w.heap.size w wr) (fun i _ _ _ _ => 6 - (intOf i).toNat)
  case atStart => exact ⟨0, rA, cA, qA, qcA, zA, rfl, by omega, K2.out, K5.out, O.out, HZ.out, HLZ.out, B.out⟩
  case round =>
    clear K2 K5 O HZ HLZ B
    obtain ⟨j, r, c, q, qc, zs, rfl, hj, hk2, hk5, ho, hz, hlz, hb⟩ := hrel
    have K2 := Lib.hid hk2
    have K5 := Lib.hid hk5
    have O := Lib.hid ho
    have HZ := Lib.hid hz
    have HLZ := Lib.hid hlz
    have B := Lib.hid hb
    have l2 := hk2.lt
    have l5 := hk5.lt
    clear hk2 hk5 ho hz hlz hb
    obtain ⟨x0, x1, x2, x3, x4, x5⟩ := K5.out.all
    obtain ⟨s0, s1, s2, f0, f1, f2⟩ := K2.out.all
    have ending : ∀ y0 y1 y2, y0 = Value.int .i64 r → y1 = Value.int .i64 c → y2 = Value.slice q zs.length qc → UniOf n w (.returned (.agg #[y0, y1, y2])) (((wr.setCell ⟨w.heap.size, 0, none⟩ (.int .i64 r)).setCell ⟨w.heap.size, 1, none⟩ (.int .i64 c)).setCell ⟨w.heap.size, 2, none⟩ (.slice q zs.length qc)) := by
      rintro _ _ _ rfl rfl rfl
      refine ⟨r, c, q, qc, zs, rfl, ?_, HZ.out, HLZ.out, ((B.out.setCell (Nat.le_refl _) _).setCell (Nat.le_refl _) _).setCell (Nat.le_refl _) _⟩
      rcases O.out with h | ⟨g, cap, hv, hB, hi, hl, hc⟩
      · exact .inl h
      · exact .inr ⟨g, cap, hv, by omega, ((hi.far (by show g ≠ w.heap.size; omega) _).far (by show g ≠ w.heap.size; omega) _).far (by show g ≠ w.heap.size; omega) _, hl, hc⟩
    have EN := Lib.hid ending
    clear ending
    obtain ⟨E0, E1, E2, -, -, -⟩ := (K2.out.set3 (.int .i64 r) (.int .i64 c) (.slice q zs.length qc)).all
    have EE0 := Lib.hid E0
    have EE1 := Lib.hid E1
    have EE2 := Lib.hid E2
    clear E0 E1 E2
    by_cases h1 : j < len
    · by_cases h2 : j < 6
      · by_cases h3 : 1 < n
        · obtain ⟨b, o, z, ha, hx, z0, z1⟩ := (HC.out.below B.out).2 j h1
          subst ha
          have g1 : (j : Int) < 6 := by omega
          have g2 : ¬ n = 0 := by omega
          have g3 : (n == 0) = false := by simpa using g2
          have g4 : IntKind.i64.wrap (n - 1) = n - 1 := IntWalk.i64_in _ (by omega)
          have g5 : ¬ n - 1 = 0 := by omega
          have g6 : (n - 1 == 0) = false := by simpa using g5
          go_wp2_with fail
          refine wp_region_held_drew (S := fun w' => Below wr.heap.size wr w') (by kernel_rfl) (Below.refl _ _).drew (fun hH => ?_)
          refine wpAnyH_take (i := 0) (v := ?_) (by simp only [List.getElem?_toArray, List.getElem?_cons_zero]; rfl) (by kernel_rfl) (by kernel_rfl) (by kernel_rfl) (by exact fun _ _ _ h => h) (Or.inl ⟨by rfl, ?_⟩) hH ?_
          rotate_left
          · (intro wS hS; (try dsimp only at hS); obtain ⟨k1, k2, k3, k4⟩ := fourF K5.out hx hS; go_simp; try rfl)
          try simp only [Act.put, List.setIfInBounds_toArray, List.set_cons_zero, List.set_cons_succ]
          refine wpAnyH_take (i := 1) (v := ?_) (by simp only [List.getElem?_toArray, List.getElem?_cons_succ, List.getElem?_cons_zero]; rfl) (by kernel_rfl) (by kernel_rfl) (by kernel_rfl) (by exact fun _ _ _ h => h) (Or.inl ⟨by rfl, ?_⟩) hH ?_
          rotate_left
          · (intro wS hS; (try dsimp only at hS); obtain ⟨k1, k2, k3, k4⟩ := fourF K5.out hx hS; go_simp; try rfl)
          try simp only [Act.put, List.setIfInBounds_toArray, List.set_cons_zero, List.set_cons_succ]
          refine wpAnyH_take (i := 2) (v := ?_) (by simp only [List.getElem?_toArray, List.getElem?_cons_succ, List.getElem?_cons_zero]; rfl) (by kernel_rfl) (by kernel_rfl) (by kernel_rfl) (by exact fun _ _ _ h => h) (Or.inl ⟨by rfl, ?_⟩) hH ?_
          rotate_left
          · (intro wS hS; (try dsimp only at hS); obtain ⟨k1, k2, k3, k4⟩ := fourF K5.out hx hS; go_simp; try rfl)
          try simp only [Act.put, List.setIfInBounds_toArray, List.set_cons_zero, List.set_cons_succ]
          refine wpAnyH_take (i := 3) (v := ?_) (by simp only [List.getElem?_toArray, List.getElem?_cons_succ, List.getElem?_cons_zero]; rfl) (by kernel_rfl) (by kernel_rfl) (by kernel_rfl) (by exact fun _ _ _ h => h) (Or.inl ⟨by rfl, ?_⟩) hH ?_
          rotate_left
          · (intro wS hS; (try dsimp only at hS); obtain ⟨k1, k2, k3, k4⟩ := fourF K5.out hx hS; go_simp; try rfl)
          try simp only [Act.put, List.setIfInBounds_toArray, List.set_cons_zero, List.set_cons_succ]
          refine wpAnyH_take (i := 4) (v := ?_) (by simp only [List.getElem?_toArray, List.getElem?_cons_succ, List.getElem?_cons_zero]; rfl) (by kernel_rfl) (by kernel_rfl) (by kernel_rfl) (by exact fun _ _ _ h => h) (Or.inl ⟨by rfl, ?_⟩) hH ?_
          rotate_left
          · (intro wS hS; (try dsimp only at hS); obtain ⟨k1, k2, k3, k4⟩ := fourF K5.out hx hS; go_simp; try rfl)
          try simp only [Act.put, List.setIfInBounds_toArray, List.set_cons_zero, List.set_cons_succ]
          refine wpAnyH_take (i := 5) (v := ?_) (by simp only [List.getElem?_toArray, List.getElem?_cons_succ, List.getElem?_cons_zero]; rfl) (by kernel_rfl) (by kernel_rfl) (by kernel_rfl) (by exact fun _ _ _ h => h) (Or.inl ⟨by rfl, ?_⟩) hH ?_
          rotate_left
          · (intro wS hS; (try dsimp only at hS); obtain ⟨k1, k2, k3, k4⟩ := fourF K5.out hx hS; go_simp; try rfl)
          try simp only [Act.put, List.setIfInBounds_toArray, List.set_cons_zero, List.set_cons_succ]
          refine wpAnyH_take (i := 6) (v := ?_) (by simp only [List.getElem?_toArray, List.getElem?_cons_succ, List.getElem?_cons_zero]; rfl) (by kernel_rfl) (by kernel_rfl) (by kernel_rfl) (by exact fun _ _ _ h => h) (Or.inl ⟨by rfl, ?_⟩) hH ?_
          rotate_left
          · (intro wS hS; (try dsimp only at hS); obtain ⟨k1, k2, k3, k4⟩ := fourF K5.out hx hS; go_simp; try rfl)
          try simp only [Act.put, List.setIfInBounds_toArray, List.set_cons_zero, List.set_cons_succ]
          refine wpAnyH_take (i := 7) (v := ?_) (by simp only [List.getElem?_toArray, List.getElem?_cons_succ, List.getElem?_cons_zero]; rfl) (by kernel_rfl) (by kernel_rfl) (by kernel_rfl) (by exact fun _ _ _ h => h) (Or.inl ⟨by rfl, ?_⟩) hH ?_
          rotate_left
          · (intro wS hS; (try dsimp only at hS); obtain ⟨k1, k2, k3, k4⟩ := fourF K5.out hx hS; go_simp; try rfl)
          try simp only [Act.put, List.setIfInBounds_toArray, List.set_cons_zero, List.set_cons_succ]
          refine wpAnyH_take (i := 8) (v := ?_) (by simp only [List.getElem?_toArray, List.getElem?_cons_succ, List.getElem?_cons_zero]; rfl) (by kernel_rfl) (by kernel_rfl) (by kernel_rfl) (by exact fun _ _ _ h => h) (Or.inl ⟨by rfl, ?_⟩) hH ?_
          rotate_left
          · (intro wS hS; (try dsimp only at hS); obtain ⟨k1, k2, k3, k4⟩ := fourF K5.out hx hS; go_simp; try rfl)
          try simp only [Act.put, List.setIfInBounds_toArray, List.set_cons_zero, List.set_cons_succ]
          refine wpAnyH_take (i := 9) (v := ?_) (by simp only [List.getElem?_toArray, List.getElem?_cons_succ, List.getElem?_cons_zero]; rfl) (by kernel_rfl) (by kernel_rfl) (by kernel_rfl) (by exact fun _ _ _ h => h) (Or.inl ⟨by rfl, ?_⟩) hH ?_
          rotate_left
          · (intro wS hS; (try dsimp only at hS); obtain ⟨k1, k2, k3, k4⟩ := fourF K5.out hx hS; go_simp; try rfl)
          try simp only [Act.put, List.setIfInBounds_toArray, List.set_cons_zero, List.set_cons_succ]
          refine wpAnyH_take (i := 10) (v := ?_) (by simp only [List.getElem?_toArray, List.getElem?_cons_succ, List.getElem?_cons_zero]; rfl) (by kernel_rfl) (by kernel_rfl) (by kernel_rfl) (by exact fun _ _ _ h => h) (Or.inl ⟨by rfl, ?_⟩) hH ?_
          rotate_left
          · (intro wS hS; (try dsimp only at hS); obtain ⟨k1, k2, k3, k4⟩ := fourF K5.out hx hS; go_simp; try rfl)
          try simp only [Act.put, List.setIfInBounds_toArray, List.set_cons_zero, List.set_cons_succ]
          refine wpAnyH_take (i := 11) (v := ?_) (by simp only [List.getElem?_toArray, List.getElem?_cons_succ, List.getElem?_cons_zero]; rfl) (by kernel_rfl) (by kernel_rfl) (by kernel_rfl) (by exact fun _ _ _ h => h) (Or.inl ⟨by rfl, ?_⟩) hH ?_
          rotate_left
          · (intro wS hS; (try dsimp only at hS); obtain ⟨k1, k2, k3, k4⟩ := fourF K5.out hx hS; go_simp; try rfl)
          try simp only [Act.put, List.setIfInBounds_toArray, List.set_cons_zero, List.set_cons_succ]
          refine wpAnyH_take (i := 12) (v := ?_) (by simp only [List.getElem?_toArray, List.getElem?_cons_succ, List.getElem?_cons_zero]; rfl) (by kernel_rfl) (by kernel_rfl) (by kernel_rfl) (by exact fun _ _ _ h => h) (Or.inl ⟨by rfl, ?_⟩) hH ?_
          rotate_left
          · (intro wS hS; (try dsimp only at hS); obtain ⟨k1, k2, k3, k4⟩ := fourF K5.out hx hS; go_simp; try rfl)
          try simp only [Act.put, List.setIfInBounds_toArray, List.set_cons_zero, List.set_cons_succ]
          refine wpAnyH_take (i := 13) (v := ?_) (by simp only [List.getElem?_toArray, List.getElem?_cons_succ, List.getElem?_cons_zero]; rfl) (by kernel_rfl) (by kernel_rfl) (by kernel_rfl) (by exact fun _ _ _ h => h) (Or.inl ⟨by rfl, ?_⟩) hH ?_
          rotate_left
          · (intro wS hS; (try dsimp only at hS); obtain ⟨k1, k2, k3, k4⟩ := fourF K5.out hx hS; go_simp; try rfl)
          try simp only [Act.put, List.setIfInBounds_toArray, List.set_cons_zero, List.set_cons_succ]
          refine wpAnyH_take (i := 14) (v := ?_) (by simp only [List.getElem?_toArray, List.getElem?_cons_succ, List.getElem?_cons_zero]; rfl) (by kernel_rfl) (by kernel_rfl) (by kernel_rfl) (by exact fun _ _ _ h => h) (Or.inl ⟨by rfl, ?_⟩) hH ?_
          rotate_left
          · (intro wS hS; (try dsimp only at hS); obtain ⟨k1, k2, k3, k4⟩ := fourF K5.out hx hS; go_simp; try rfl)
          try simp only [Act.put, List.setIfInBounds_toArray, List.set_cons_zero, List.set_cons_succ]
          refine wpAnyH_take (i := 15) (v := ?_) (by simp only [List.getElem?_toArray, List.getElem?_cons_succ, List.getElem?_cons_zero]; rfl) (by kernel_rfl) (by kernel_rfl) (by kernel_rfl) (by exact fun _ _ _ h => h) (Or.inl ⟨by rfl, ?_⟩) hH ?_
          rotate_left
          · (intro wS hS; (try dsimp only at hS); obtain ⟨k1, k2, k3, k4⟩ := fourF K5.out hx hS; go_simp; try rfl)
          try simp only [Act.put, List.setIfInBounds_toArray, List.set_cons_zero, List.set_cons_succ]
          refine wpAnyH_take (i := 16) (v := ?_) (by simp only [List.getElem?_toArray, List.getElem?_cons_succ, List.getElem?_cons_zero]; rfl) (by kernel_rfl) (by kernel_rfl) (by kernel_rfl) (by exact fun _ _ _ h => h) (Or.inl ⟨by rfl, ?_⟩) hH ?_
          rotate_left
          · (intro wS hS; (try dsimp only at hS); obtain ⟨k1, k2, k3, k4⟩ := fourF K5.out hx hS; go_simp; try rfl)
          try simp only [Act.put, List.setIfInBounds_toArray, List.set_cons_zero, List.set_cons_succ]
          refine wpAnyH_take (i := 17) (v := ?_) (by simp only [List.getElem?_toArray, List.getElem?_cons_succ, List.getElem?_cons_zero]; rfl) (by kernel_rfl) (by kernel_rfl) (by kernel_rfl) (by exact fun _ _ _ h => h) (Or.inl ⟨by rfl, ?_⟩) hH ?_
          rotate_left
          · (intro wS hS; (try dsimp only at hS); obtain ⟨k1, k2, k3, k4⟩ := fourF K5.out hx hS; go_simp; try rfl)
          try simp only [Act.put, List.setIfInBounds_toArray, List.set_cons_zero, List.set_cons_succ]
          refine wpAnyH_take (i := 18) (v := ?_) (by simp only [List.getElem?_toArray, List.getElem?_cons_succ, List.getElem?_cons_zero]; rfl) (by kernel_rfl) (by kernel_rfl) (by kernel_rfl) (by exact fun _ _ _ h => h) (Or.inl ⟨by rfl, ?_⟩) hH ?_
          rotate_left
          · (intro wS hS; (try dsimp only at hS); obtain ⟨k1, k2, k3, k4⟩ := fourF K5.out hx hS; go_simp; try rfl)
          try simp only [Act.put, List.setIfInBounds_toArray, List.set_cons_zero, List.set_cons_succ]
          refine wpAnyH_take (i := 19) (v := ?_) (by simp only [List.getElem?_toArray, List.getElem?_cons_succ, List.getElem?_cons_zero]; rfl) (by kernel_rfl) (by kernel_rfl) (by kernel_rfl) (by exact fun _ _ _ h => h) (Or.inl ⟨by rfl, ?_⟩) hH ?_
          rotate_left
          · (intro wS hS; (try dsimp only at hS); obtain ⟨k1, k2, k3, k4⟩ := fourF K5.out hx hS; go_simp; try rfl)
          try simp only [Act.put, List.setIfInBounds_toArray, List.set_cons_zero, List.set_cons_succ]
          refine wpAnyH_take (i := 20) (v := ?_) (by simp only [List.getElem?_toArray, List.getElem?_cons_succ, List.getElem?_cons_zero]; rfl) (by kernel_rfl) (by kernel_rfl) (by kernel_rfl) (by exact fun _ _ _ h => h) (Or.inl ⟨by rfl, ?_⟩) hH ?_
          rotate_left
          · (intro wS hS; (try dsimp only at hS); obtain ⟨k1, k2, k3, k4⟩ := fourF K5.out hx hS; go_simp; try rfl)
          try simp only [Act.put, List.setIfInBounds_toArray, List.set_cons_zero, List.set_cons_succ]
          refine wpAnyH_take (i := 21) (v := ?_) (by simp only [List.getElem?_toArray, List.getElem?_cons_succ, List.getElem?_cons_zero]; rfl) (by kernel_rfl) (by kernel_rfl) (by kernel_rfl) (by exact fun _ _ _ h => h) (Or.inl ⟨by rfl, ?_⟩) hH ?_
          rotate_left
          · (intro wS hS; (try dsimp only at hS); obtain ⟨k1, k2, k3, k4⟩ := fourF K5.out hx hS; go_simp; try rfl)
          try simp only [Act.put, List.setIfInBounds_toArray, List.set_cons_zero, List.set_cons_succ]
          refine wpAnyH_take (i := 22) (v := ?_) (by simp only [List.getElem?_toArray, List.getElem?_cons_succ, List.getElem?_cons_zero]; rfl) (by kernel_rfl) (by kernel_rfl) (by kernel_rfl) (by exact fun _ _ _ h => h) (Or.inl ⟨by rfl, ?_⟩) hH ?_
          rotate_left
          · (intro wS hS; (try dsimp only at hS); obtain ⟨k1, k2, k3, k4⟩ := fourF K5.out hx hS; go_simp; try rfl)
          try simp only [Act.put, List.setIfInBounds_toArray, List.set_cons_zero, List.set_cons_succ]
          refine wpAnyH_take (i := 23) (v := ?_) (by simp only [List.getElem?_toArray, List.getElem?_cons_succ, List.getElem?_cons_zero]; rfl) (by kernel_rfl) (by kernel_rfl) (by kernel_rfl) (by exact fun _ _ _ h => h) (Or.inl ⟨by rfl, ?_⟩) hH ?_
          rotate_left
          · (intro wS hS; (try dsimp only at hS); obtain ⟨k1, k2, k3, k4⟩ := fourF K5.out hx hS; go_simp; try rfl)
          try simp only [Act.put, List.setIfInBounds_toArray, List.set_cons_zero, List.set_cons_succ]
          refine wpAnyH_take (i := 24) (v := ?_) (by simp only [List.getElem?_toArray, List.getElem?_cons_succ, List.getElem?_cons_zero]; rfl) (by kernel_rfl) (by kernel_rfl) (by kernel_rfl) (by exact fun _ _ _ h => h) (Or.inl ⟨by rfl, ?_⟩) hH ?_
          rotate_left
          · (intro wS hS; (try dsimp only at hS); obtain ⟨k1, k2, k3, k4⟩ := fourF K5.out hx hS; go_simp; try rfl)
          try simp only [Act.put, List.setIfInBounds_toArray, List.set_cons_zero, List.set_cons_succ]
          refine wpAnyH_ready (rs := [25, 29]) (by kernel_rfl) (by simp) ?_
          refine AllReadyH.cons (by simp only [List.getElem?_toArray, List.getElem?_cons_succ, List.getElem?_cons_zero]; rfl) (fun K hK => ?_) (AllReadyH.cons (by simp only [List.getElem?_toArray, List.getElem?_cons_succ, List.getElem?_cons_zero]; rfl) (fun K hK => ?_) AllReadyH.nil)
          · go_simp
            have hs1 := hH.size
            (with_reducible refine (sOpD n h3 _ _ _ r c q qc zs _ (O.out.rd2.below hH) HLZ.out HZ.out O.out.spot2).mono ?_)
            rintro e v1 ⟨r', c', q', qc', zs', ok, rfl, own, hs, hb1⟩
            have OW := Lib.hid own.inn
            have HS := Lib.hid hs
            clear own hs
            try dsimp only
            refine hK.out _ _ ?_ (fun hH2 => ?_)
            · exact hH.trans (hb1.mono hH.size)
            clear hK K
            have hO := hH
            clear hH
            have hH := hH2
            clear hH2
            try simp only [Act.put, List.setIfInBounds_toArray, List.set_cons_zero, List.set_cons_succ]
            have z1 := hb1.size
            refine wpAnyH_take (i := 26) (v := ?_) (by simp only [List.getElem?_toArray, List.getElem?_cons_succ, List.getElem?_cons_zero]; rfl) (by kernel_rfl) (by kernel_rfl) (by kernel_rfl) (by exact fun _ _ _ h => h) (Or.inl ⟨by rfl, ?_⟩) hH ?_
            rotate_left
            · (intro wS hS; clear hS; go_simp; try rfl)
            try simp only [Act.put, List.setIfInBounds_toArray, List.set_cons_zero, List.set_cons_succ]
            refine wpAnyH_take (i := 27) (v := ?_) (by simp only [List.getElem?_toArray, List.getElem?_cons_succ, List.getElem?_cons_zero]; rfl) (by kernel_rfl) (by kernel_rfl) (by kernel_rfl) (by exact fun _ _ _ h => h) (Or.inl ⟨by rfl, ?_⟩) hH ?_
            rotate_left
            · (intro wS hS; clear hS; go_simp; try rfl)
            try simp only [Act.put, List.setIfInBounds_toArray, List.set_cons_zero, List.set_cons_succ]
            refine wpAnyH_take (i := 28) (v := ?_) (by simp only [List.getElem?_toArray, List.getElem?_cons_succ, List.getElem?_cons_zero]; rfl) (by kernel_rfl) (by kernel_rfl) (by kernel_rfl) (by exact fun _ _ _ h => h) (Or.inl ⟨by rfl, ?_⟩) hH ?_
            rotate_left
            · (intro wS hS; clear hS; go_simp; try rfl)
            try simp only [Act.put, List.setIfInBounds_toArray, List.set_cons_zero, List.set_cons_succ]
            refine wpAnyH_ready (rs := [29]) (by kernel_rfl) (by simp) ?_
            refine AllReadyH.cons (by simp only [List.getElem?_toArray, List.getElem?_cons_succ, List.getElem?_cons_zero]; rfl) (fun K hK => ?_) AllReadyH.nil
            go_simp
            have VB : Hid (Blk3 (v1.alloc (.cells #[.int .i64 0, .int .i64 0, .slice none 0 0] 26)) v1.heap.size 26 (.int .i64 0) (.int .i64 0) (.slice none 0 0)) := Blk3.at_ _ _ _ _ rfl
            have PL : wr.heap.size ≤ v1.heap.size := hH.size
            try dsimp only
            refine hK.out _ _ ?_ (fun hH2 => ?_)
            · exact hH.alloc hH.size _
            clear hK K
            have hO := hH
            clear hH
            have hH := hH2
            clear hH2
            try simp only [Act.put, List.setIfInBounds_toArray, List.set_cons_zero, List.set_cons_succ]
            refine wpAnyH_ready (rs := [30]) (by kernel_rfl) (by simp) ?_
            refine AllReadyH.cons (by simp only [List.getElem?_toArray, List.getElem?_cons_succ, List.getElem?_cons_zero]; rfl) (fun K hK => ?_) AllReadyH.nil
            go_simp
            have VB : Hid (Blk3 (v1.alloc (.cells #[(.int .i64 r'), (.int .i64 c'), (.slice q' zs'.length qc')] 26)) v1.heap.size 26 ((.int .i64 r')) ((.int .i64 c')) ((.slice q' zs'.length qc'))) := Blk3.at_ _ _ _ _ rfl
            try dsimp only
            refine hK.out _ _ ?_ (fun hH2 => ?_)
            · exact hO.alloc hO.size _
            clear hK K
            have hO := hH
            clear hH
            have hH := hH2
            clear hH2
            try simp only [Act.put, List.setIfInBounds_toArray, List.set_cons_zero, List.set_cons_succ]
            refine wpAnyH_take (i := 31) (v := ?_) (by simp only [List.getElem?_toArray, List.getElem?_cons_succ, List.getElem?_cons_zero]; rfl) (by kernel_rfl) (by kernel_rfl) (by kernel_rfl) (by exact fun _ _ _ h => h) (Or.inl ⟨by rfl, ?_⟩) hH ?_
            rotate_left
            · (intro wS hS; clear hS; go_simp; try rfl)
            try simp only [Act.put, List.setIfInBounds_toArray, List.set_cons_zero, List.set_cons_succ]
            refine wpAnyH_done (by kernel_rfl) ?_ _
            have K5n := Lib.hid (K5.out.keep hH l5)
            have K2n := Lib.hid (K2.out.keep hH l2)
            have IW := Lib.hid ((OW.out.old (.cells #[.int .i64 r', .int .i64 c', .slice q' zs'.length qc'] 26)).wide hs1 (Nat.le_refl _)).own
            have B9 := Lib.hid (B.out.trans (hH.mono B.out.size))
            have BS := B.out.size
            obtain ⟨vb0, vb1, vb2, -, -, -⟩ := VB.out.all
            obtain ⟨kb0, kb1, kb2, kb3, kb4, kb5⟩ := K5n.out.all
            have lvb := VB.out.lt
            have lkb := K5n.out.lt
            clear hH hO
            go_wp2_with fail
            go_roundw
            case rel =>
              refine ⟨j + 1, r', c', q', qc', zs', by go_num, by omega, K2n.out.far3 (by omega) _ _ _, K5n.out.set3 _ _ _, ?_, HS.out.1, HS.out.2, ?_⟩
              · exact (((IW.out.far2 (by exact l5) _).far2 (by exact l5) _).far2 (by exact l5) _).le (by omega)
              · exact ((B9.out.setCell (by show w.heap.size ≤ w1.heap.size; omega) _).setCell (by show w.heap.size ≤ w1.heap.size; omega) _).setCell (by show w.heap.size ≤ w1.heap.size; omega) _
            case measure => simp [intOf]; omega
          · go_simp
            have VB : Hid (Blk3 (wr.drew.alloc (.cells #[.int .i64 0, .int .i64 0, .slice none 0 0] 26)) wr.heap.size 26 (.int .i64 0) (.int .i64 0) (.slice none 0 0)) := Blk3.at_ _ _ _ _ rfl
            have PL : wr.heap.size ≤ wr.drew.heap.size := hH.size
            try dsimp only
            refine hK.out _ _ ?_ (fun hH2 => ?_)
            · exact hH.alloc hH.size _
            clear hK K
            have hO := hH
            clear hH
            have hH := hH2
            clear hH2
            try simp only [Act.put, List.setIfInBounds_toArray, List.set_cons_zero, List.set_cons_succ]
            refine wpAnyH_ready (rs := [25]) (by kernel_rfl) (by simp) ?_
            refine AllReadyH.cons (by simp only [List.getElem?_toArray, List.getElem?_cons_succ, List.getElem?_cons_zero]; rfl) (fun K hK => ?_) AllReadyH.nil
            go_simp
            have hs1 := hH.size
            have lb1 := VB.out.lt
            (with_reducible refine (sOpD n h3 _ _ _ r c q qc zs _ (O.out.rd2.below hH) HLZ.out HZ.out O.out.spot2).mono ?_)
            rintro e v1 ⟨r', c', q', qc', zs', ok, rfl, own, hs, hb1⟩
            have OW := Lib.hid own.inn
            have HS := Lib.hid hs
            clear own hs
            have VB := Lib.hid (VB.out.keep hb1 VB.out.lt)
            try dsimp only
            refine hK.out _ _ ?_ (fun hH2 => ?_)
            · exact hH.trans (hb1.mono hH.size)
            clear hK K
            have hO := hH
            clear hH
            have hH := hH2
            clear hH2
            try simp only [Act.put, List.setIfInBounds_toArray, List.set_cons_zero, List.set_cons_succ]
            have z1 := hb1.size
            refine wpAnyH_take (i := 26) (v := ?_) (by simp only [List.getElem?_toArray, List.getElem?_cons_succ, List.getElem?_cons_zero]; rfl) (by kernel_rfl) (by kernel_rfl) (by kernel_rfl) (by exact fun _ _ _ h => h) (Or.inl ⟨by rfl, ?_⟩) hH ?_
            rotate_left
            · (intro wS hS; clear hS; go_simp; try rfl)
            try simp only [Act.put, List.setIfInBounds_toArray, List.set_cons_zero, List.set_cons_succ]
            refine wpAnyH_take (i := 27) (v := ?_) (by simp only [List.getElem?_toArray, List.getElem?_cons_succ, List.getElem?_cons_zero]; rfl) (by kernel_rfl) (by kernel_rfl) (by kernel_rfl) (by exact fun _ _ _ h => h) (Or.inl ⟨by rfl, ?_⟩) hH ?_
            rotate_left
            · (intro wS hS; clear hS; go_simp; try rfl)
            try simp only [Act.put, List.setIfInBounds_toArray, List.set_cons_zero, List.set_cons_succ]
            refine wpAnyH_take (i := 28) (v := ?_) (by simp only [List.getElem?_toArray, List.getElem?_cons_succ, List.getElem?_cons_zero]; rfl) (by kernel_rfl) (by kernel_rfl) (by kernel_rfl) (by exact fun _ _ _ h => h) (Or.inl ⟨by rfl, ?_⟩) hH ?_
            rotate_left
            · (intro wS hS; clear hS; go_simp; try rfl)
            try simp only [Act.put, List.setIfInBounds_toArray, List.set_cons_zero, List.set_cons_succ]
            refine wpAnyH_ready (rs := [30]) (by kernel_rfl) (by simp) ?_
            refine AllReadyH.cons (by simp only [List.getElem?_toArray, List.getElem?_cons_succ, List.getElem?_cons_zero]; rfl) (fun K hK => ?_) AllReadyH.nil
            have VC := VB
            obtain ⟨y0, y1, y2, y3, y4, y5⟩ := VB.out.all
            go_simp
            have VB := Lib.hid (((VB.out.set0 ((.int .i64 r'))).set1 ((.int .i64 c'))).set2 ((.slice q' zs'.length qc')))
            try dsimp only
            refine hK.out _ _ ?_ (fun hH2 => ?_)
            · exact (((hH.setCell PL _).setCell PL _).setCell PL _)
            clear hK K
            have hO := hH
            clear hH
            have hH := hH2
            clear hH2
            try simp only [Act.put, List.setIfInBounds_toArray, List.set_cons_zero, List.set_cons_succ]
            refine wpAnyH_take (i := 31) (v := ?_) (by simp only [List.getElem?_toArray, List.getElem?_cons_succ, List.getElem?_cons_zero]; rfl) (by kernel_rfl) (by kernel_rfl) (by kernel_rfl) (by exact fun _ _ _ h => h) (Or.inl ⟨by rfl, ?_⟩) hH ?_
            rotate_left
            · (intro wS hS; clear hS; go_simp; try rfl)
            try simp only [Act.put, List.setIfInBounds_toArray, List.set_cons_zero, List.set_cons_succ]
            refine wpAnyH_done (by kernel_rfl) ?_ _
            have K5n := Lib.hid (K5.out.keep hH l5)
            have K2n := Lib.hid (K2.out.keep hH l2)
            have IW := Lib.hid ((((OW.out.far (a := ⟨wr.heap.size, 0, none⟩) (.inl (by simp)) (.int .i64 r')).far (a := ⟨wr.heap.size, 1, none⟩) (.inl (by simp)) (.int .i64 c')).far (a := ⟨wr.heap.size, 2, none⟩) (.inl (by simp)) (.slice q' zs'.length qc')).wide hs1 (Nat.le_refl _)).own
            have B9 := Lib.hid (B.out.trans (hH.mono B.out.size))
            have BS := B.out.size
            obtain ⟨vb0, vb1, vb2, -, -, -⟩ := VB.out.all
            obtain ⟨kb0, kb1, kb2, kb3, kb4, kb5⟩ := K5n.out.all
            have lvb := VB.out.lt
            have lkb := K5n.out.lt
            clear hH hO
            go_wp2_with fail
            go_roundw
            case rel =>
              refine ⟨j + 1, r', c', q', qc', zs', by go_num, by omega, K2n.out.far3 (by omega) _ _ _, K5n.out.set3 _ _ _, ?_, HS.out.1, HS.out.2, ?_⟩
              · exact (((IW.out.far2 (by exact l5) _).far2 (by exact l5) _).far2 (by exact l5) _).le (by omega)
              · exact ((B9.out.setCell (by show w.heap.size ≤ w1.heap.size; omega) _).setCell (by show w.heap.size ≤ w1.heap.size; omega) _).setCell (by show w.heap.size ≤ w1.heap.size; omega) _
            case measure => simp [intOf]; omega
        · have g1 : (j : Int) < 6 := by omega
          have g2 : decide (1 < n) = false := by simpa using h3
          have g3 : decide (n > 1) = false := by simpa using h3
          go_wp2_with fail
          exact bodyPost_ret (v := .agg #[.int .i64 r, .int .i64 c, .slice q zs.length qc]) (by simp [results, Try.results40, go_sem, EE0.out, EE1.out, EE2.out]) rfl (EN.out _ _ _ rfl rfl rfl)
      · have g1 : decide ((j : Int) < 6) = false := by simp; omega
        clear h2
        go_wp2_with fail
        exact bodyPost_ret (v := .agg #[.int .i64 r, .int .i64 c, .slice q zs.length qc]) (by simp [results, Try.results40, go_sem, EE0.out, EE1.out, EE2.out]) rfl (EN.out _ _ _ rfl rfl rfl)
    · have g1 : decide (j < len) = false := by simpa using h1
      go_wp2_with fail
      exact bodyPost_ret (v := .agg #[.int .i64 r, .int .i64 c, .slice q zs.length qc]) (by simp [results, Try.results40, go_sem, EE0.out, EE1.out, EE2.out]) rfl (EN.out _ _ _ rfl rfl rfl)
theorem lMixD (n : Int) (a : Option Addr) (len cap : Nat) (w : World) (hc : CodeIn w a len) (hn0 : 0 ≤ n) (hn6 : n ≤ 6) : Calls Try.prog 40 #[.slice a len cap, .int .i64 n] w (UniOf n w) := lMixW n a len cap w hc hn0 (by omega)
end Go.Proofs.Ytpelnfenfeoeeaa
end

section
/-
  Plain mathematics of chapter 7: what FnEchelon asks. Nothing of a program is used.
-/
namespace Go.Proofs.Ytpelnfenfeoeeaa
open Go.RowKit

theorem echR_none {r c : Int} {xs : List Int} (h : (echR r c xs).ok = false) : echR r c xs = ER.no := by
  unfold echR at h ⊢
  by_cases hm : isMat r c xs = true
  · rw [if_pos hm] at h ⊢
    cases he : echM r.toNat c.toNat xs with
    | none => rfl
    | some o =>
      rw [he] at h
      exact absurd h (by simp [ER.of])
  · rw [if_neg hm]
theorem isMat_mk {r c : Nat} {zs : List Int} (hr : r ≤ 24) (hc : c ≤ 24) (hl : zs.length = r * c) (hn : nums zs = true) : isMat r c zs = true := by
  have h1 : (zs.length : Int) = (r : Int) * (c : Int) := by rw [← Int.natCast_mul]; omega
  unfold isMat
  simp only [Bool.and_eq_true, decide_eq_true_eq]
  exact ⟨⟨⟨⟨by omega, by omega⟩, ⟨by omega, by omega⟩⟩, h1⟩, hn⟩
theorem echR_of {r c : Nat} {zs us : List Int} {pv : List Nat} (hr : r ≤ 24) (hc : c ≤ 24) (hl : zs.length = r * c) (hn : nums zs = true) (he : echM r c zs = some (us, pv)) : echR r c zs = ⟨r, c, us, pvI pv, true⟩ := by
  unfold echR
  rw [if_pos (isMat_mk hr hc hl hn)]
  show ER.of r c (echM r c zs) = _
  rw [he]
  rfl
/-- The form of a form is the form itself, and it is one. -/
theorem fix_law {r c : Int} {xs : List Int} {A : ER} (h : echR r c xs = A) (ho : A.ok = true) : echR A.r A.c A.zs = A ∧ echIs A.r A.c A.zs = true ∧ 0 ≤ r ∧ r ≤ 24 := by
  subst h
  obtain ⟨-, R, C, ys, pv, rfl, rfl, hR, hC, hx, nx, he, e, hy, -⟩ := echR_ok ho
  obtain ⟨-, -, -, -, ny, -⟩ := echM_says hx nx he
  have hf := echM_fix hx nx he
  rw [e]
  refine ⟨echR_of hR hC hy ny hf, ?_, by omega, by omega⟩
  show echIs R C ys = true
  unfold echIs
  rw [isMat_mk hR hC hy ny, Bool.true_and]
  show (match echM R C ys with | some (us, _) => decide (us = ys) | none => false) = true
  rw [hf]
  exact decide_eq_true rfl
/-- A unimodular product has the same form. -/
theorem mix_law {r c rM cM : Int} {xs zM : List Int} {A : ER} {m : MR} (h : echR r c xs = A) (ho : A.ok = true) (hp : MixP r rM cM zM) (hm : mulM rM cM zM r c xs = m) (hk : m.ok = true) (h2 : (echR m.r m.c m.zs).ok = true) : echR m.r m.c m.zs = A := by
  subst h
  obtain ⟨-, R, C, ys, pv, rfl, rfl, hR, hC, hx, nx, he, e, hy, -⟩ := echR_ok ho
  obtain ⟨R', K, C', e1, e2, e3, e4, m1, -, e5⟩ := mulM_says (by rw [hm]; exact hk)
  obtain rfl : R = K := by omega
  obtain rfl : C = C' := by omega
  rcases hp with ⟨p1, p2, -, p4, -, pd⟩ | ⟨p1, p2, -, p3⟩
  · obtain rfl : R = R' := by omega
    rw [hm] at e5
    subst e5
    obtain ⟨-, R2, C2, us, qv, q1, q2, -, -, hx2, nx2, he2, e6, -, -⟩ := echR_ok h2
    have q1 : rM = (R2 : Int) := q1
    have q2 : (C : Int) = (C2 : Int) := q2
    obtain rfl : R = R2 := by omega
    obtain rfl : C = C2 := by omega
    have hx2 : (mulL R R C zM xs).length = R * C := hx2
    have nx2 : nums (mulL R R C zM xs) = true := nx2
    have he2 : echM R C (mulL R R C zM xs) = some (us, qv) := he2
    have pd : det R (mxL R zM) = 1 := pd
    have at_ : ∀ i j, i < R → j < C → mxC C (mulL R R C zM xs) i j = mulX R (mxL R zM) (mxC C xs) i j := fun i j hi hj => by
      show (mulL R R C zM xs).getD (i * C + j) 0 = _
      unfold mulL
      rw [tab_at R C _ hi hj, dot_sum]
      rfl
    have s1 : SubSp R R C (mulX R (mxL R zM) (mxC C xs)) (mxC C (mulL R R C zM xs)) := fun i hi => (InSp.row (A := mxC C (mulL R R C zM xs)) hi).congr fun j hj => (at_ i j hi hj).symm
    have s2 : SubSp R R C (mxC C (mulL R R C zM xs)) (mulX R (mxL R zM) (mxC C xs)) := fun i hi => (InSp.row (A := mulX R (mxL R zM) (mxC C xs)) hi).congr fun j hj => at_ i j hi hj
    obtain ⟨u1, u2⟩ := ech_same hx nx hx2 nx2 he he2 ((span_mul (by rw [pd]; decide)).trans s1) (s2.trans (sub_mul _ _))
    show echR rM C (mulL R R C zM xs) = _
    rw [e, u1, u2, p1]
    exact echR_of hR hC hx2 nx2 he2
  · omega
/-- The rank of what is turned over. -/
theorem turn_law {r c : Int} {xs : List Int} {A : ER} {m : MR} (h : echR r c xs = A) (ho : A.ok = true) (hm : turnM r c xs = m) (h2 : (echR m.r m.c m.zs).ok = true) : (echR m.r m.c m.zs).pv.length = A.pv.length := by
  subst h
  obtain ⟨hmx, R, C, ys, pv, rfl, rfl, hR, hC, hx, nx, he, e, hy, -⟩ := echR_ok ho
  rw [turnM_ok hmx] at hm
  subst hm
  obtain ⟨-, R2, C2, us, qv, q1, q2, -, -, hx2, nx2, he2, e6, -, -⟩ := echR_ok h2
  have q1 : (C : Int) = (R2 : Int) := q1
  have q2 : (R : Int) = (C2 : Int) := q2
  obtain rfl : C = R2 := by omega
  obtain rfl : R = C2 := by omega
  have hx2 : (turnL R C xs).length = C * R := hx2
  have nx2 : nums (turnL R C xs) = true := nx2
  have he2 : echM C R (turnL R C xs) = some (us, qv) := he2
  have e6 : echR C R (turnL R C xs) = ⟨C, R, us, pvI qv, true⟩ := e6
  show (echR C R (turnL R C xs)).pv.length = _
  rw [e, e6]
  show (pvI qv).length = (pvI pv).length
  rw [pvI_length, pvI_length]
  refine ech_turn hx nx hx2 nx2 (fun i j hi hj => ?_) he he2
  show (turnL R C xs).getD (i * R + j) 0 = _
  unfold turnL
  exact tab_at C R _ hi hj
end Go.Proofs.Ytpelnfenfeoeeaa
end

section
/-
  Chapter 12, in the program: a matrix on its way and its account, each behind a pointer: what lies in memory.
-/
namespace Go.Proofs.Ytpelnfenfeoeeaa
open Go.RowKit

theorem Own.moveA {B : Nat} {w w' : World} {v : Value} {zs : List Int} (h : Own B w v zs) (e : ∀ k, v.ownBlock = some k → w'.heap[k]? = w.heap[k]?) : Own B w' v zs := by
  rcases h with h | ⟨g, cap, hv, hB, hi, hl, hc⟩
  · exact .inl h
  · exact .inr ⟨g, cap, hv, hB, hi.move (e g (by rw [hv]; rfl)), hl, hc⟩
theorem Own.ne_box {B b : Nat} {w : World} {v : Value} {zs : List Int} {x y z : Value} (h : Own B w v zs) (k : Blk3 w b 26 x y z) : v.ownBlock ≠ some b := fun e => by
  rcases h with ⟨h2, -⟩ | ⟨g, cap, rfl, hB, ⟨rest, hg⟩, -⟩
  · rw [h2] at e; cases e
  · simp only [Value.ownBlock, Option.some.injEq] at e
    subst e
    unfold Blk3 at k
    rw [hg] at k
    injection k with k
    injection k with _ k2 _
    exact absurd k2 (by decide)
theorem Own.lt_of {B k : Nat} {w : World} {v : Value} {zs : List Int} (h : Own B w v zs) (e : v.ownBlock = some k) : B ≤ k ∧ k < w.heap.size := by
  rcases h with ⟨h2, -⟩ | ⟨g, cap, rfl, hB, hi, -⟩
  · rw [h2] at e; cases e
  · simp only [Value.ownBlock, Option.some.injEq] at e
    subst e
    exact ⟨hB, hi.lt⟩
theorem Own.setA {B b : Nat} {w : World} {v : Value} {zs : List Int} (h : Own B w v zs) (hb : v.ownBlock ≠ some b) (x y z : Value) : Own B (((w.setCell ⟨b, 0, none⟩ x).setCell ⟨b, 1, none⟩ y).setCell ⟨b, 2, none⟩ z) v zs :=
  h.moveA fun k hk => by
    have hne : k ≠ b := fun e => hb (by rw [hk, e])
    exact ((Below.heap_setCell _ _ z k hne).trans (Below.heap_setCell _ _ y k hne)).trans (Below.heap_setCell _ _ x k hne)
/-- The boxes bf and ba hold a matrix and its account; the cells of both are the call's own, from block B on. -/
structure AcV (R C na nu bf ba B : Nat) (s : HSt) (qa qu : Option Addr) (ma mu : Nat) (w : World) : Prop where
  kf : Blk3 w bf 26 (.int .i64 R) (.int .i64 C) (.slice qa na ma)
  ka : Blk3 w ba 26 (.int .i64 R) (.int .i64 R) (.slice qu nu mu)
  fA : Own B w (.slice qa na ma) s.1
  fU : Own B w (.slice qu nu mu) s.2
  df : ∀ k, (Value.slice qa na ma).ownBlock = some k → (Value.slice qu nu mu).ownBlock ≠ some k
  lf : s.1.length = na
  lu : s.2.length = nu
  bb : bf ≠ ba
def AcW (R C na nu bf ba B : Nat) (s : HSt) (w : World) : Prop := ∃ qa qu ma mu, AcV R C na nu bf ba B s qa qu ma mu w
theorem AcV.step {R C na nu bf ba B : Nat} {s : HSt} {qa qu : Option Addr} {ma mu : Nat} {w w' : World} (h : AcV R C na nu bf ba B s qa qu ma mu w) (hb : Below w.heap.size w w') : AcV R C na nu bf ba B s qa qu ma mu w' :=
  ⟨h.kf.keep hb h.kf.lt, h.ka.keep hb h.ka.lt, h.fA.keep hb, h.fU.keep hb, h.df, h.lf, h.lu, h.bb⟩
theorem AcV.drewN {R C na nu bf ba B : Nat} {s : HSt} {qa qu : Option Addr} {ma mu : Nat} {w : World} (h : AcV R C na nu bf ba B s qa qu ma mu w) (n : Nat) : AcV R C na nu bf ba B s qa qu ma mu (w.drewN n) :=
  ⟨h.kf.drewN n, h.ka.drewN n, h.fA.moveA fun _ _ => rfl, h.fU.moveA fun _ _ => rfl, h.df, h.lf, h.lu, h.bb⟩
theorem AcW.step {R C na nu bf ba B : Nat} {s : HSt} {w w' : World} (h : AcW R C na nu bf ba B s w) (hb : Below w.heap.size w w') : AcW R C na nu bf ba B s w' := by
  obtain ⟨qa, qu, ma, mu, h⟩ := h
  exact ⟨qa, qu, ma, mu, h.step hb⟩
theorem AcW.lt {R C na nu bf ba B : Nat} {s : HSt} {w : World} (h : AcW R C na nu bf ba B s w) : bf < w.heap.size ∧ ba < w.heap.size := by
  obtain ⟨qa, qu, ma, mu, h⟩ := h
  exact ⟨h.kf.lt, h.ka.lt⟩
theorem AcV.rd {R C na nu bf ba B : Nat} {s : HSt} {qa qu : Option Addr} {ma mu : Nat} {w : World} (h : AcV R C na nu bf ba B s qa qu ma mu w) : Rd w qa s.1 := by
  rcases h.fA with ⟨e, h0⟩ | ⟨g, c, e, -, hi, -⟩
  · rw [h0]; exact Rd.nil _ _
  · injection e with e1 _ _
    rw [e1]; exact hi.rd
theorem AcV.rdu {R C na nu bf ba B : Nat} {s : HSt} {qa qu : Option Addr} {ma mu : Nat} {w : World} (h : AcV R C na nu bf ba B s qa qu ma mu w) : Rd w qu s.2 := by
  rcases h.fU with ⟨e, h0⟩ | ⟨g, c, e, -, hi, -⟩
  · rw [h0]; exact Rd.nil _ _
  · injection e with e1 _ _
    rw [e1]; exact hi.rd
/-- A new matrix in the place of the one. -/
theorem AcV.putF {R C na nu bf ba B : Nat} {s : HSt} {qa qu : Option Addr} {ma mu : Nat} {w w1 : World} (h : AcV R C na nu bf ba B s qa qu ma mu w) (hb : Below w.heap.size w w1) (hB : B ≤ w.heap.size) {q : Option Addr} {m : Nat} {zs : List Int} (ho : Own w.heap.size w1 (.slice q na m) zs) (hz : zs.length = na) :
    AcW R C na nu bf ba B (zs, s.2) (((w1.setCell ⟨bf, 0, none⟩ (.int .i64 R)).setCell ⟨bf, 1, none⟩ (.int .i64 C)).setCell ⟨bf, 2, none⟩ (.slice q na m)) := by
  have h1 := h.step hb
  have l1 := h.kf.lt
  have ob : (Value.slice q na m).ownBlock ≠ some bf := fun e => by have := ho.lt_of e; omega
  refine ⟨q, qu, m, mu, ((h1.kf.set0 _).set1 _).set2 _, ((h1.ka.far (a := ⟨bf, 0, none⟩) (by show ba ≠ bf; exact h.bb.symm) _).far (a := ⟨bf, 1, none⟩) (by show ba ≠ bf; exact h.bb.symm) _).far (a := ⟨bf, 2, none⟩) (by show ba ≠ bf; exact h.bb.symm) _, (ho.setA ob _ _ _).le hB, h1.fU.setA (h1.fU.ne_box h1.kf) _ _ _, fun k hk e => ?_, hz, h.lu, h.bb⟩
  have a1 := ho.lt_of hk
  have a2 := h.fU.lt_of e
  omega
/-- A new account in the place of the one. -/
theorem AcV.putU {R C na nu bf ba B : Nat} {s : HSt} {qa qu : Option Addr} {ma mu : Nat} {w w1 : World} (h : AcV R C na nu bf ba B s qa qu ma mu w) (hb : Below w.heap.size w w1) (hB : B ≤ w.heap.size) {q : Option Addr} {m : Nat} {zs : List Int} (ho : Own w.heap.size w1 (.slice q nu m) zs) (hz : zs.length = nu) :
    AcW R C na nu bf ba B (s.1, zs) (((w1.setCell ⟨ba, 0, none⟩ (.int .i64 R)).setCell ⟨ba, 1, none⟩ (.int .i64 R)).setCell ⟨ba, 2, none⟩ (.slice q nu m)) := by
  have h1 := h.step hb
  have l1 := h.ka.lt
  have ob : (Value.slice q nu m).ownBlock ≠ some ba := fun e => by have := ho.lt_of e; omega
  refine ⟨qa, q, ma, m, ((h1.kf.far (a := ⟨ba, 0, none⟩) (by show bf ≠ ba; exact h.bb) _).far (a := ⟨ba, 1, none⟩) (by show bf ≠ ba; exact h.bb) _).far (a := ⟨ba, 2, none⟩) (by show bf ≠ ba; exact h.bb) _, ((h1.ka.set0 _).set1 _).set2 _, h1.fA.setA (h1.fA.ne_box h1.ka) _ _ _, (ho.setA ob _ _ _).le hB, fun k hk e => ?_, h.lf, hz, h.bb⟩
  have a1 := ho.lt_of e
  have a2 := h.fA.lt_of hk
  omega
/-- What is done, after the first and after both. -/
def acS (R C : Nat) (k : Int) (I J : Nat) (z : Int) (s : HSt) : Nat → HSt
  | 0 => s
  | 1 => (opL k I J z C s.1, s.2)
  | _ => op2 R C k I J z s
def acB (R C : Nat) (k : Int) (I J : Nat) (z : Int) (s : HSt) : Nat → Bool
  | 0 => true
  | 1 => nums (opL k I J z C s.1)
  | _ => okS (op2 R C k I J z s)
theorem opM_case {k : Int} {I J : Nat} {z : Int} {R C : Nat} {xs : List Int} (hm : isMat R C xs = true) (ho : isOp k I J z R = true) (hl : (opL k I J z C xs).length = R * C) :
    opM k I J z R C xs = if nums (opL k I J z C xs) = true then ⟨true, R, C, opL k I J z C xs⟩ else MR.no := by
  have E : opM k I J z R C xs = MR.done R C (opL k I J z C xs) := by unfold opM; rw [hm, ho]; rfl
  obtain ⟨⟨-, r2⟩, ⟨-, c2⟩, -, -⟩ := isMat_says hm
  rw [E]
  unfold MR.done
  cases hn : nums (opL k I J z C xs) with
  | true => rw [if_pos rfl, if_pos (isMat_mk (by omega) (by omega) hl hn)]
  | false =>
    have h0 : ¬ isMat R C (opL k I J z C xs) = true := fun h => by
      have := (isMat_says h).2.2.2
      rw [hn] at this
      cases this
    rw [if_neg h0]
    rfl
/-- One of both matrices: where it lies, what the operation makes of it, and what follows. -/
structure DoAt (R C na nu bf ba B : Nat) (k : Int) (I J : Nat) (z : Int) (s : HSt) (i : Nat) (w : World) (bx cx nx : Nat) (qx : Option Addr) (mx : Nat) (xs zs : List Int) (fx : Bool) : Prop where
  blk : Blk3 w bx 26 (.int .i64 R) (.int .i64 cx) (.slice qx nx mx)
  rd : Rd w qx xs
  lx : xs.length = nx
  lz : zs.length = nx
  spot : Spot qx
  op : opM k I J z R cx xs = if fx = true then ⟨true, R, cx, zs⟩ else MR.no
  eb : bx = if i = 0 then bf else ba
  nn : nx = na ∨ nx = nu
  ef : fx = acB R C k I J z s (i + 1)
  bad : fx = false → okS (op2 R C k I J z s) = false
  next : ∀ w1 q m, Below w.heap.size w w1 → Own w.heap.size w1 (.slice q nx m) zs → AcW R C na nu bf ba B (acS R C k I J z s (i + 1)) (((w1.setCell ⟨bx, 0, none⟩ (.int .i64 R)).setCell ⟨bx, 1, none⟩ (.int .i64 cx)).setCell ⟨bx, 2, none⟩ (.slice q nx m))
theorem do_at {R C na nu bf ba B : Nat} {k : Int} {I J : Nat} {z : Int} {s : HSt} {i : Nat} {w : World} (hi : i < 2) (hR : R ≤ 24) (hC : C ≤ 24) (hna : na = R * C) (hnu : nu = R * R) (h : AcW R C na nu bf ba B (acS R C k I J z s i) w) (hB : B ≤ w.heap.size) (hS : Siz R C s) (ho : okS s = true) (hop : isOp k I J z R = true) (hf : acB R C k I J z s i = true) :
    ∃ bx cx nx qx mx xs zs fx, DoAt R C na nu bf ba B k I J z s i w bx cx nx qx mx xs zs fx := by
  obtain ⟨qa, qu, ma, mu, h⟩ := h
  have n2 := okS_and ho
  have S2 := hS.op k I J z
  have l1 : (opL k I J z C s.1).length = R * C := S2.l1
  have l2 : (opL k I J z R s.2).length = R * R := S2.l2
  rcases i with _ | _ | i
  · refine ⟨bf, C, na, qa, ma, s.1, opL k I J z C s.1, nums (opL k I J z C s.1), h.kf, h.rd, h.lf, by rw [l1, hna], h.fA.celA.spot, opM_case (isMat_mk hR hC hS.l1 n2.1) hop l1, rfl, .inl rfl, rfl, fun h0 => ?_, fun w1 q m hb hw => ?_⟩
    · show (nums _ && nums _) = false
      show (nums (opL k I J z C s.1) && nums (opL k I J z R s.2)) = false
      rw [h0]; rfl
    · exact h.putF hb hB hw (by rw [l1, hna])
  · have hf1 : nums (opL k I J z C s.1) = true := hf
    refine ⟨ba, R, nu, qu, mu, s.2, opL k I J z R s.2, nums (opL k I J z R s.2), h.ka, h.rdu, h.lu, by rw [l2, hnu], h.fU.celA.spot, opM_case (isMat_mk hR hR hS.l2 n2.2) hop l2, rfl, .inr rfl, ?_, fun h0 => ?_, fun w1 q m hb hw => ?_⟩
    · show _ = (nums (opL k I J z C s.1) && nums (opL k I J z R s.2))
      rw [hf1]; rfl
    · show (nums (opL k I J z C s.1) && nums (opL k I J z R s.2)) = false
      rw [h0, hf1]; rfl
    · exact h.putU hb hB hw (by rw [l2, hnu])
  · omega
theorem do_at_le {R C na nu bf ba B : Nat} {k : Int} {I J : Nat} {z : Int} {s : HSt} {i : Nat} {w : World} (hi : i < 2) (hR : R ≤ 24) (hC : C ≤ 24) (hna : na = R * C) (hnu : nu = R * R) (h : AcW R C na nu bf ba B (acS R C k I J z s i) w) (hB : B ≤ w.heap.size) (hS : Siz R C s) (ho : okS s = true) (hop : isOp k I J z R = true) (hf : acB R C k I J z s i = true) :
    ∃ bx cx nx qx mx xs zs fx, DoAt R C na nu bf ba B k I J z s i w bx cx nx qx mx xs zs fx ∧ nx ≤ 600 := by
  have hle : R * C ≤ 24 * 24 := Nat.mul_le_mul hR hC
  have hlu : R * R ≤ 24 * 24 := Nat.mul_le_mul hR hR
  obtain ⟨bx, cx, nx, qx, mx, xs, zs, fx, D⟩ := do_at hi hR hC hna hnu h hB hS ho hop hf
  refine ⟨bx, cx, nx, qx, mx, xs, zs, fx, D, ?_⟩
  rcases D.nn with e | e <;> omega
end Go.Proofs.Ytpelnfenfeoeeaa
end

section
/-
  Chapters 12 and 13, in the program: one row operation done to two matrices, each behind a pointer to anywhere.
-/
namespace Go.Proofs.Ytpelnfenfeoeeaa
set_option maxRecDepth 100000
open Go.RowKit

/-- Three cells somewhere in a block. -/
structure P3 (w : World) (b o : Nat) (x y v : Value) : Prop where
  lt : b < w.heap.size
  c0 : w.cell? ⟨b, o, none⟩ = some x
  c1 : w.cell? ⟨b, o + 1, none⟩ = some y
  c2 : w.cell? ⟨b, o + 2, none⟩ = some v
  f0 : w.frozen? ⟨b, o, none⟩ = false
  f1 : w.frozen? ⟨b, o + 1, none⟩ = false
  f2 : w.frozen? ⟨b, o + 2, none⟩ = false
theorem P3.keep {w w' : World} {b o : Nat} {x y v : Value} (h : P3 w b o x y v) (hb : Below w.heap.size w w') : P3 w' b o x y v :=
  ⟨Nat.lt_of_lt_of_le h.lt hb.size, (hb.cell (p := ⟨b, o, none⟩) h.lt).trans h.c0, (hb.cell (p := ⟨b, o + 1, none⟩) h.lt).trans h.c1, (hb.cell (p := ⟨b, o + 2, none⟩) h.lt).trans h.c2, (hb.frozen (p := ⟨b, o, none⟩) h.lt).trans h.f0, (hb.frozen (p := ⟨b, o + 1, none⟩) h.lt).trans h.f1, (hb.frozen (p := ⟨b, o + 2, none⟩) h.lt).trans h.f2⟩
theorem Blk3.p3 {w : World} {b : Nat} {t : TypeId} {x y v : Value} (h : Blk3 w b t x y v) : P3 w b 0 x y v := ⟨h.lt, h.cell0, h.cell1, h.cell2, h.free _, h.free _, h.free _⟩
def put3 (w : World) (b o : Nat) (x y v : Value) : World := ((w.setCell ⟨b, o, none⟩ x).setCell ⟨b, o + 1, none⟩ y).setCell ⟨b, o + 2, none⟩ v
/-- What lies in memory while one operation is done: the operation, the list of both pointers. -/
structure DoM (bf vf ba va : Nat) (k : Int) (I J : Nat) (z : Int) (w : World) (wq : World) : Prop where
  op : Blk4 wq (w.heap.size + 1) 97 (.int .i64 k) (.int .i64 I) (.int .i64 J) (.int .i64 z)
  pt : Blk2 wq (w.heap.size + 1 + 1) 91 (.pointer (some ⟨bf, vf, none⟩)) (.pointer (some ⟨ba, va, none⟩))
  fr : FrS (fun b => b = bf ∨ b = ba) w wq
theorem Blk4.farA {w : World} {b : Nat} {t : TypeId} {p q r s : Value} (h : Blk4 w b t p q r s) {a : Addr} (ha : b ≠ a.block) (u : Value) : Blk4 (w.setCell a u) b t p q r s := (Below.heap_setCell w a u b ha).trans h
theorem DoM.start (bf vf ba va : Nat) (k : Int) (I J : Nat) (z : Int) (w : World) : DoM bf vf ba va k I J z w (((w.alloc (.cells #[.pointer (some ⟨bf, vf, none⟩), .pointer (some ⟨ba, va, none⟩)] 93)).alloc (.cells #[.int .i64 k, .int .i64 I, .int .i64 J, .int .i64 z] 97)).alloc (.cells #[.pointer (some ⟨bf, vf, none⟩), .pointer (some ⟨ba, va, none⟩)] 91)) :=
  ⟨(Blk4.at_ _ _ _ _ _ (by simp)).old _, Blk2.at_ _ _ _ (by simp), (((FrS.refl _ _).alloc _).alloc _).alloc _⟩
theorem DoM.put {bf vf ba va : Nat} {k : Int} {I J : Nat} {z : Int} {w wr we : World} (h : DoM bf vf ba va k I J z w wr) (hb : Below wr.heap.size wr we) {bx ox : Nat} (hx : bx = bf ∨ bx = ba) (l1 : bf < w.heap.size) (l2 : ba < w.heap.size) (x y v : Value) :
    DoM bf vf ba va k I J z w (put3 we bx ox x y v) := by
  have n1 : w.heap.size + 1 ≠ bx := by omega
  have n2 : w.heap.size + 1 + 1 ≠ bx := by omega
  have hf : FrS (fun b => b = bf ∨ b = ba) w we := h.fr.trans (FrS.of_below hb)
  exact ⟨Blk4.farA (a := ⟨bx, ox + 2, none⟩) (Blk4.farA (a := ⟨bx, ox + 1, none⟩) (Blk4.farA (a := ⟨bx, ox, none⟩) (h.op.keep hb h.op.lt) n1 _) n1 _) n1 _, (((h.pt.keep hb h.pt.lt).far (a := ⟨bx, ox, none⟩) n2 _).far (a := ⟨bx, ox + 1, none⟩) n2 _).far (a := ⟨bx, ox + 2, none⟩) n2 _, ((hf.set (a := ⟨bx, ox, none⟩) (.inl hx) _).set (a := ⟨bx, ox + 1, none⟩) (.inl hx) _).set (a := ⟨bx, ox + 2, none⟩) (.inl hx) _⟩
/-- What the region reads. -/
theorem doF {W w' : World} {b o c : Nat} {t2 : TypeId} {x y v p q r s : Value} (h : P3 W b o x y v) (h' : Blk4 W c t2 p q r s) (hb : Below W.heap.size W w') :
    w'.cell? ⟨b, o, none⟩ = some x ∧ w'.cell? ⟨b, o + 1, none⟩ = some y ∧ w'.cell? ⟨b, o + 2, none⟩ = some v ∧ w'.cell? ⟨c, 0, none⟩ = some p ∧ w'.cell? ⟨c, 1, none⟩ = some q ∧ w'.cell? ⟨c, 2, none⟩ = some r ∧ w'.cell? ⟨c, 3, none⟩ = some s := by
  have h := h.keep hb
  obtain ⟨b1, b2, b3, b4⟩ := (h'.keep hb h'.lt).all
  exact ⟨h.c0, h.c1, h.c2, b1, b2, b3, b4⟩
/-- One of both matrices: where it lies, what the operation makes of it, and what follows. -/
structure DoAtG (R bf vf ba va : Nat) (k : Int) (I J : Nat) (z : Int) (ST : Nat → World → Prop) (g : Nat → Bool) (i : Nat) (w : World) (bx ox cx nx : Nat) (qx : Option Addr) (mx : Nat) (xs zs : List Int) : Prop where
  blk : P3 w bx ox (.int .i64 R) (.int .i64 cx) (.slice qx nx mx)
  rd : Rd w qx xs
  lx : xs.length = nx
  lz : zs.length = nx
  spot : Spot qx
  op : opM k I J z R cx xs = if g i = true then ⟨true, R, cx, zs⟩ else MR.no
  eb : bx = if i = 0 then bf else ba
  eo : ox = if i = 0 then vf else va
  l6 : nx ≤ 600
  next : ∀ w1 q m, Below w.heap.size w w1 → Own w.heap.size w1 (.slice q nx m) zs → ST (i + 1) (put3 w1 bx ox (.int .i64 R) (.int .i64 cx) (.slice q nx m))
/-- What an operation answers. -/
def DoResG (bf ba : Nat) (ok : Bool) (S : World → Prop) (w : World) (e : Ending) (w' : World) : Prop :=
  e = .returned (.bool ok) ∧ FrS (fun b => b = bf ∨ b = ba) w w' ∧ (ok = true → S w')
set_option maxHeartbeats 8000000 in
theorem iDoG (R bf vf ba va I J : Nat) (k z : Int) (ST : Nat → World → Prop) (g : Nat → Bool) (w : World) (h0 : ∀ w', Below w.heap.size w w' → ST 0 w') (l1 : bf < w.heap.size) (l2 : ba < w.heap.size)
    (DA : Hid (∀ i wq, i < 2 → w.heap.size ≤ wq.heap.size → ST i wq → (i = 1 → g 0 = true) → ∃ bx ox cx nx qx mx xs zs, DoAtG R bf vf ba va k I J z ST g i wq bx ox cx nx qx mx xs zs)) :
    Calls Try.prog 141 #[.agg #[.pointer (some ⟨bf, vf, none⟩), .pointer (some ⟨ba, va, none⟩)], .agg #[.int .i64 k, .int .i64 I, .int .i64 J, .int .i64 z]] w (DoResG bf ba (g 0 && g 1) (ST 2) w) := by
  have HL := Lib.hid (And.intro l1 l2)
  have OP : Hid (∀ (cx : Nat) (qx : Option Addr) (mx : Nat) (xs : List Int) w', Rd w' qx xs → xs.length ≤ 600 → Spot qx → Calls Try.prog 162 #[.agg #[.int .i64 R, .int .i64 cx, .slice qx xs.length mx], .agg #[.int .i64 k, .int .i64 I, .int .i64 J, .int .i64 z]] w' (MatRes (opM k I J z R cx xs) w')) := fun cx qx mx xs w' h1 h2 h3 => iOp k I J z R cx qx mx xs w' h1 (by omega) h3
  have D0 := Lib.hid (DoM.start bf vf ba va k I J z w)
  have W0 : Hid (ST 0 (((w.alloc (.cells #[.pointer (some ⟨bf, vf, none⟩), .pointer (some ⟨ba, va, none⟩)] 93)).alloc (.cells #[.int .i64 k, .int .i64 I, .int .i64 J, .int .i64 z] 97)).alloc (.cells #[.pointer (some ⟨bf, vf, none⟩), .pointer (some ⟨ba, va, none⟩)] 91))) := Lib.hid (h0 _ ((((Below.refl _ _).alloc (Nat.le_refl _) _).alloc (by simp) _).alloc (by simp <;> omega) _))
  have GD : Hid (∀ i, i < 2 → (i = 1 → g 0 = true) → g i = false → (g 0 && g 1) = false) := fun i hi h1 h2 => by
    rcases i with _ | _ | i
    · rw [h2]; rfl
    · rw [h2, Bool.and_false]
    · omega
  have RES : Hid (∀ e w', e = .returned (.bool (g 0 && g 1)) ∧ FrS (fun b => b = bf ∨ b = ba) w w' ∧ ((g 0 && g 1) = true → ST 2 w') → DoResG bf ba (g 0 && g 1) (ST 2) w e w') := fun e w' h9 => h9
  clear h0 l1 l2
  go_enter Try.func141, Try.ntmps141
  go_upto_region 2 with fail
  generalize ((w.alloc (.cells #[.pointer (some ⟨bf, vf, none⟩), .pointer (some ⟨ba, va, none⟩)] 93)).alloc (.cells #[.int .i64 k, .int .i64 I, .int .i64 J, .int .i64 z] 97)).alloc (.cells #[.pointer (some ⟨bf, vf, none⟩), .pointer (some ⟨ba, va, none⟩)] 91) = W3 at D0 W0 ⊢
  go_loopw [4, 6, 7, 8, 15] (fun _ _ _ _ v15 wq => ∃ i : Nat, v15 = .int .i64 i ∧ i ≤ 2 ∧ (1 ≤ i → g 0 = true) ∧ (2 ≤ i → g 1 = true) ∧ ST i wq ∧ DoM bf vf ba va k I J z w wq) (fun _ _ _ _ v15 _ => 2 - (intOf v15).toNat)
  case atStart => exact ⟨0, rfl, by omega, fun h => by omega, fun h => by omega, W0.out, D0.out⟩
  case round =>
    clear W0 D0
    obtain ⟨i, rfl, hi, hg0, hg1, hw, hd⟩ := hrel
    have WS := Lib.hid hw
    have DM := Lib.hid hd
    have H0 := Lib.hid hg0
    have H1 := Lib.hid hg1
    clear hw hd hg0 hg1
    by_cases hi2 : i < 2
    rotate_left
    · obtain rfl : i = 2 := by omega
      have V : Hid ((g 0 && g 1) = true) := by refine Lib.hid ?_; rw [H0.out (by omega), H1.out (by omega)]; rfl
      have WE := WS.out
      have FE := DM.out.fr
      clear hi2 hi
      go_wp2_with fail
      go_ret
      exact RES.out _ _ ⟨by rw [V.out]; rfl, FE, fun _ => WE⟩
    have HI := Lib.hid hi2
    obtain ⟨bx, ox, cx, nx, qx, mx, xs, zs, hD⟩ := DA.out i wr hi2 DM.out.fr.size WS.out (fun h => H0.out (by omega))
    have D := Lib.hid hD
    have KX := Lib.hid hD.blk
    have KO := Lib.hid DM.out.op
    have hbx : Hid (bx = bf ∨ bx = ba) := by
      refine Lib.hid ?_
      rw [hD.eb]
      split
      · exact .inl rfl
      · exact .inr rfl
    have PC : wr.cell? ⟨w.heap.size + 1 + 1, i, none⟩ = some (.pointer (some ⟨bx, ox, none⟩)) := by
      have e := hD.eb
      have e2 := hD.eo
      rcases i with _ | _ | i
      · rw [e, e2]; exact DM.out.pt.cell0
      · rw [e, e2]; exact DM.out.pt.cell1
      · omega
    have OX : Hid (∀ w', Below wr.heap.size wr w' → Calls Try.prog 162 #[.agg #[.int .i64 R, .int .i64 cx, .slice qx nx mx], .agg #[.int .i64 k, .int .i64 I, .int .i64 J, .int .i64 z]] w' (MatRes (opM k I J z R cx xs) w')) := fun w' hb => by
      have := OP.out cx qx mx xs w' (D.out.rd.below hb) (by rw [D.out.lx]; exact D.out.l6) D.out.spot
      rw [D.out.lx] at this
      exact this
    obtain ⟨mr, hmr⟩ : ∃ mr, opM k I J z R cx xs = mr := ⟨_, rfl⟩
    rw [hmr] at OX
    have MR : Hid (mr = if g i = true then ⟨true, R, cx, zs⟩ else MR.no) := by refine Lib.hid ?_; rw [← hmr]; exact D.out.op
    have Pa : (0 : Int) ≤ (i : Int) := by omega
    have Pb : (i : Int) < 2 := by omega
    have S1 : ∀ n : Nat, (⟨bx, ox, none⟩ : Addr).add (n + 1) = ⟨bx, ox + (n + 1), none⟩ := fun n => by simp [Addr.add]
    clear hmr hD WS DA OP
    go_upto_region 4 with fail
    clear PC Pa Pb
    refine wp_region_held_drew (S := fun w' => Below wr.heap.size wr w') (by kernel_rfl) (Below.refl _ _).drew (fun hH => ?_)
    refine wpAnyH_take (i := 0) (v := ?_) (by simp only [List.getElem?_toArray, List.getElem?_cons_zero]; rfl) (by kernel_rfl) (by kernel_rfl) (by kernel_rfl) (by exact fun _ _ _ h => h) (Or.inl ⟨by rfl, ?_⟩) hH ?_
    rotate_left
    · (intro wS hS; (try dsimp only at hS); obtain ⟨k1, k2, k3, k4, k5, k6, k7⟩ := doF KX.out KO.out hS; go_simp; try rfl)
    try simp only [Act.put, List.setIfInBounds_toArray, List.set_cons_zero, List.set_cons_succ]
    refine wpAnyH_take (i := 1) (v := ?_) (by simp only [List.getElem?_toArray, List.getElem?_cons_succ, List.getElem?_cons_zero]; rfl) (by kernel_rfl) (by kernel_rfl) (by kernel_rfl) (by exact fun _ _ _ h => h) (Or.inl ⟨by rfl, ?_⟩) hH ?_
    rotate_left
    · (intro wS hS; (try dsimp only at hS); obtain ⟨k1, k2, k3, k4, k5, k6, k7⟩ := doF KX.out KO.out hS; go_simp; try rfl)
    try simp only [Act.put, List.setIfInBounds_toArray, List.set_cons_zero, List.set_cons_succ]
    refine wpAnyH_take (i := 2) (v := ?_) (by simp only [List.getElem?_toArray, List.getElem?_cons_succ, List.getElem?_cons_zero]; rfl) (by kernel_rfl) (by kernel_rfl) (by kernel_rfl) (by exact fun _ _ _ h => h) (Or.inl ⟨by rfl, ?_⟩) hH ?_
    rotate_left
    · (intro wS hS; (try dsimp only at hS); obtain ⟨k1, k2, k3, k4, k5, k6, k7⟩ := doF KX.out KO.out hS; go_simp; try rfl)
    try simp only [Act.put, List.setIfInBounds_toArray, List.set_cons_zero, List.set_cons_succ]
    refine wpAnyH_take (i := 3) (v := ?_) (by simp only [List.getElem?_toArray, List.getElem?_cons_succ, List.getElem?_cons_zero]; rfl) (by kernel_rfl) (by kernel_rfl) (by kernel_rfl) (by exact fun _ _ _ h => h) (Or.inl ⟨by rfl, ?_⟩) hH ?_
    rotate_left
    · (intro wS hS; (try dsimp only at hS); obtain ⟨k1, k2, k3, k4, k5, k6, k7⟩ := doF KX.out KO.out hS; go_simp; try rfl)
    try simp only [Act.put, List.setIfInBounds_toArray, List.set_cons_zero, List.set_cons_succ]
    refine wpAnyH_ready (rs := [4, 8]) (by kernel_rfl) (by simp) ?_
    refine AllReadyH.cons (by simp only [List.getElem?_toArray, List.getElem?_cons_succ, List.getElem?_cons_zero]; rfl) (fun K hK => ?_) (AllReadyH.cons (by simp only [List.getElem?_toArray, List.getElem?_cons_succ, List.getElem?_cons_zero]; rfl) (fun K hK => ?_) AllReadyH.nil)
    · go_simp
      have hs1 := hH.size
      (with_reducible refine (OX.out _ hH).mono ?_)
      rintro e v1 ⟨v, rfl, ho1, hb1⟩
      replace ho1 := ho1.le hs1
      obtain ⟨q2, qc2, rfl, -, -⟩ := ho1.form
      try dsimp only
      refine hK.out _ _ ?_ (fun hH2 => ?_)
      · exact hH.trans (hb1.mono hH.size)
      clear hK K
      have hO := hH
      clear hH
      have hH := hH2
      clear hH2
      try simp only [Act.put, List.setIfInBounds_toArray, List.set_cons_zero, List.set_cons_succ]
      have z1 := hb1.size
      refine wpAnyH_take (i := 5) (v := ?_) (by simp only [List.getElem?_toArray, List.getElem?_cons_succ, List.getElem?_cons_zero]; rfl) (by kernel_rfl) (by kernel_rfl) (by kernel_rfl) (by exact fun _ _ _ h => h) (Or.inl ⟨by rfl, ?_⟩) hH ?_
      rotate_left
      · (intro wS hS; clear hS; go_simp; try rfl)
      try simp only [Act.put, List.setIfInBounds_toArray, List.set_cons_zero, List.set_cons_succ]
      refine wpAnyH_take (i := 6) (v := ?_) (by simp only [List.getElem?_toArray, List.getElem?_cons_succ, List.getElem?_cons_zero]; rfl) (by kernel_rfl) (by kernel_rfl) (by kernel_rfl) (by exact fun _ _ _ h => h) (Or.inl ⟨by rfl, ?_⟩) hH ?_
      rotate_left
      · (intro wS hS; clear hS; go_simp; try rfl)
      try simp only [Act.put, List.setIfInBounds_toArray, List.set_cons_zero, List.set_cons_succ]
      refine wpAnyH_take (i := 7) (v := ?_) (by simp only [List.getElem?_toArray, List.getElem?_cons_succ, List.getElem?_cons_zero]; rfl) (by kernel_rfl) (by kernel_rfl) (by kernel_rfl) (by exact fun _ _ _ h => h) (Or.inl ⟨by rfl, ?_⟩) hH ?_
      rotate_left
      · (intro wS hS; clear hS; go_simp; try rfl)
      try simp only [Act.put, List.setIfInBounds_toArray, List.set_cons_zero, List.set_cons_succ]
      refine wpAnyH_ready (rs := [8]) (by kernel_rfl) (by simp) ?_
      refine AllReadyH.cons (by simp only [List.getElem?_toArray, List.getElem?_cons_succ, List.getElem?_cons_zero]; rfl) (fun K hK => ?_) AllReadyH.nil
      go_simp
      have VB : Hid (Blk3 (v1.alloc (.cells #[.int .i64 0, .int .i64 0, .slice none 0 0] 26)) v1.heap.size 26 (.int .i64 0) (.int .i64 0) (.slice none 0 0)) := Blk3.at_ _ _ _ _ rfl
      have PL : wr.heap.size ≤ v1.heap.size := hH.size
      try dsimp only
      refine hK.out _ _ ?_ (fun hH2 => ?_)
      · exact hH.alloc hH.size _
      clear hK K
      have hO := hH
      clear hH
      have hH := hH2
      clear hH2
      try simp only [Act.put, List.setIfInBounds_toArray, List.set_cons_zero, List.set_cons_succ]
      refine wpAnyH_ready (rs := [9]) (by kernel_rfl) (by simp) ?_
      refine AllReadyH.cons (by simp only [List.getElem?_toArray, List.getElem?_cons_succ, List.getElem?_cons_zero]; rfl) (fun K hK => ?_) AllReadyH.nil
      go_simp
      have VB : Hid (Blk3 (v1.alloc (.cells #[.int .i64 mr.r, .int .i64 mr.c, .slice q2 mr.zs.length qc2] 26)) v1.heap.size 26 (.int .i64 mr.r) (.int .i64 mr.c) (.slice q2 mr.zs.length qc2)) := Blk3.at_ _ _ _ _ rfl
      try dsimp only
      refine hK.out _ _ ?_ (fun hH2 => ?_)
      · exact hO.alloc hO.size _
      clear hK K
      have hO := hH
      clear hH
      have hH := hH2
      clear hH2
      try simp only [Act.put, List.setIfInBounds_toArray, List.set_cons_zero, List.set_cons_succ]
      refine wpAnyH_take (i := 10) (v := ?_) (by simp only [List.getElem?_toArray, List.getElem?_cons_succ, List.getElem?_cons_zero]; rfl) (by kernel_rfl) (by kernel_rfl) (by kernel_rfl) (by exact fun _ _ _ h => h) (Or.inl ⟨by rfl, ?_⟩) hH ?_
      rotate_left
      · (intro wS hS; clear hS; go_simp; try rfl)
      try simp only [Act.put, List.setIfInBounds_toArray, List.set_cons_zero, List.set_cons_succ]
      refine wpAnyH_done (by kernel_rfl) ?_ _
      have O2 := ho1.keep ((Below.refl _ _).alloc (Nat.le_refl _) (.cells #[.int .i64 mr.r, .int .i64 mr.c, .slice q2 mr.zs.length qc2] 26))
      obtain ⟨we, hwe⟩ : ∃ we, v1.alloc (.cells #[.int .i64 mr.r, .int .i64 mr.c, .slice q2 mr.zs.length qc2] 26) = we := ⟨_, rfl⟩
      rw [hwe] at hH VB O2 ⊢
      clear hwe
      obtain ⟨fx, hfx⟩ : ∃ fx, g i = fx := ⟨_, rfl⟩
      rw [hfx] at MR
      have HF := Lib.hid hfx
      clear hfx
      cases fx with
      | true =>
        have e := MR.out
        rw [if_pos rfl] at e
        subst e
        have KE := Lib.hid (KX.out.keep hH)
        obtain ⟨y0, y1, y2, -, -, -⟩ := VB.out.all
        obtain ⟨xlt, x0, x1, x2, xf0, xf1, xf2⟩ := KE.out
        have O2 := Lib.hid O2
        have HE := Lib.hid hH
        clear hH
        go_wp2_with fail
        go_roundw
        case rel =>
          refine ⟨i + 1, by go_num, by omega, fun h => ?_, fun h => ?_, ?_, DM.out.put HE.out hbx.out HL.out.1 HL.out.2 _ _ _⟩
          · rcases Nat.eq_zero_or_pos i with h0 | h0
            · rw [← h0]; exact HF.out
            · exact H0.out h0
          · obtain rfl : i = 1 := by have := HI.out; omega
            exact HF.out
          · have O3 := O2.out
            have lz : zs.length = nx := D.out.lz
            dsimp only at O3 ⊢
            rw [lz] at O3 ⊢
            exact D.out.next we q2 qc2 HE.out O3
        case measure => simp [intOf]; omega
      | false =>
        have e := MR.out
        rw [if_neg (by decide)] at e
        subst e
        have V := Lib.hid (GD.out i HI.out (fun h => H0.out (by omega)) HF.out)
        have FE := Lib.hid (DM.out.fr.trans (FrS.of_below hH))
        clear hH O2
        go_wp2_with fail
        go_ret
        exact RES.out _ _ ⟨by rw [V.out]; rfl, FE.out, fun h9 => by rw [V.out] at h9; cases h9⟩
    · go_simp
      have VB : Hid (Blk3 (wr.drew.alloc (.cells #[.int .i64 0, .int .i64 0, .slice none 0 0] 26)) wr.heap.size 26 (.int .i64 0) (.int .i64 0) (.slice none 0 0)) := Blk3.at_ _ _ _ _ rfl
      have PL : wr.heap.size ≤ wr.drew.heap.size := hH.size
      try dsimp only
      refine hK.out _ _ ?_ (fun hH2 => ?_)
      · exact hH.alloc hH.size _
      clear hK K
      have hO := hH
      clear hH
      have hH := hH2
      clear hH2
      try simp only [Act.put, List.setIfInBounds_toArray, List.set_cons_zero, List.set_cons_succ]
      refine wpAnyH_ready (rs := [4]) (by kernel_rfl) (by simp) ?_
      refine AllReadyH.cons (by simp only [List.getElem?_toArray, List.getElem?_cons_succ, List.getElem?_cons_zero]; rfl) (fun K hK => ?_) AllReadyH.nil
      go_simp
      have hs1 := hH.size
      have lb1 := VB.out.lt
      (with_reducible refine (OX.out _ hH).mono ?_)
      rintro e v1 ⟨v, rfl, ho1, hb1⟩
      replace ho1 := ho1.le hs1
      obtain ⟨q2, qc2, rfl, -, -⟩ := ho1.form
      have VB := Lib.hid (VB.out.keep hb1 VB.out.lt)
      try dsimp only
      refine hK.out _ _ ?_ (fun hH2 => ?_)
      · exact hH.trans (hb1.mono hH.size)
      clear hK K
      have hO := hH
      clear hH
      have hH := hH2
      clear hH2
      try simp only [Act.put, List.setIfInBounds_toArray, List.set_cons_zero, List.set_cons_succ]
      have z1 := hb1.size
      refine wpAnyH_take (i := 5) (v := ?_) (by simp only [List.getElem?_toArray, List.getElem?_cons_succ, List.getElem?_cons_zero]; rfl) (by kernel_rfl) (by kernel_rfl) (by kernel_rfl) (by exact fun _ _ _ h => h) (Or.inl ⟨by rfl, ?_⟩) hH ?_
      rotate_left
      · (intro wS hS; clear hS; go_simp; try rfl)
      try simp only [Act.put, List.setIfInBounds_toArray, List.set_cons_zero, List.set_cons_succ]
      refine wpAnyH_take (i := 6) (v := ?_) (by simp only [List.getElem?_toArray, List.getElem?_cons_succ, List.getElem?_cons_zero]; rfl) (by kernel_rfl) (by kernel_rfl) (by kernel_rfl) (by exact fun _ _ _ h => h) (Or.inl ⟨by rfl, ?_⟩) hH ?_
      rotate_left
      · (intro wS hS; clear hS; go_simp; try rfl)
      try simp only [Act.put, List.setIfInBounds_toArray, List.set_cons_zero, List.set_cons_succ]
      refine wpAnyH_take (i := 7) (v := ?_) (by simp only [List.getElem?_toArray, List.getElem?_cons_succ, List.getElem?_cons_zero]; rfl) (by kernel_rfl) (by kernel_rfl) (by kernel_rfl) (by exact fun _ _ _ h => h) (Or.inl ⟨by rfl, ?_⟩) hH ?_
      rotate_left
      · (intro wS hS; clear hS; go_simp; try rfl)
      try simp only [Act.put, List.setIfInBounds_toArray, List.set_cons_zero, List.set_cons_succ]
      refine wpAnyH_ready (rs := [9]) (by kernel_rfl) (by simp) ?_
      refine AllReadyH.cons (by simp only [List.getElem?_toArray, List.getElem?_cons_succ, List.getElem?_cons_zero]; rfl) (fun K hK => ?_) AllReadyH.nil
      have VC := VB
      obtain ⟨y0, y1, y2, y3, y4, y5⟩ := VB.out.all
      go_simp
      have VB := Lib.hid (((VB.out.set0 (.int .i64 mr.r)).set1 (.int .i64 mr.c)).set2 (.slice q2 mr.zs.length qc2))
      try dsimp only
      refine hK.out _ _ ?_ (fun hH2 => ?_)
      · exact (((hH.setCell PL _).setCell PL _).setCell PL _)
      clear hK K
      have hO := hH
      clear hH
      have hH := hH2
      clear hH2
      try simp only [Act.put, List.setIfInBounds_toArray, List.set_cons_zero, List.set_cons_succ]
      refine wpAnyH_take (i := 10) (v := ?_) (by simp only [List.getElem?_toArray, List.getElem?_cons_succ, List.getElem?_cons_zero]; rfl) (by kernel_rfl) (by kernel_rfl) (by kernel_rfl) (by exact fun _ _ _ h => h) (Or.inl ⟨by rfl, ?_⟩) hH ?_
      rotate_left
      · (intro wS hS; clear hS; go_simp; try rfl)
      try simp only [Act.put, List.setIfInBounds_toArray, List.set_cons_zero, List.set_cons_succ]
      refine wpAnyH_done (by kernel_rfl) ?_ _
      have O2 := ho1.setA (b := wr.heap.size) (ho1.ne_box VC.out) (.int .i64 mr.r) (.int .i64 mr.c) (.slice q2 mr.zs.length qc2)
      obtain ⟨we, hwe⟩ : ∃ we, ((v1.setCell ⟨wr.heap.size, 0, none⟩ (.int .i64 mr.r)).setCell ⟨wr.heap.size, 1, none⟩ (.int .i64 mr.c)).setCell ⟨wr.heap.size, 2, none⟩ (.slice q2 mr.zs.length qc2) = we := ⟨_, rfl⟩
      rw [hwe] at hH VB O2 ⊢
      clear hwe
      obtain ⟨fx, hfx⟩ : ∃ fx, g i = fx := ⟨_, rfl⟩
      rw [hfx] at MR
      have HF := Lib.hid hfx
      clear hfx
      cases fx with
      | true =>
        have e := MR.out
        rw [if_pos rfl] at e
        subst e
        have KE := Lib.hid (KX.out.keep hH)
        obtain ⟨y0, y1, y2, -, -, -⟩ := VB.out.all
        obtain ⟨xlt, x0, x1, x2, xf0, xf1, xf2⟩ := KE.out
        have O2 := Lib.hid O2
        have HE := Lib.hid hH
        clear hH
        go_wp2_with fail
        go_roundw
        case rel =>
          refine ⟨i + 1, by go_num, by omega, fun h => ?_, fun h => ?_, ?_, DM.out.put HE.out hbx.out HL.out.1 HL.out.2 _ _ _⟩
          · rcases Nat.eq_zero_or_pos i with h0 | h0
            · rw [← h0]; exact HF.out
            · exact H0.out h0
          · obtain rfl : i = 1 := by have := HI.out; omega
            exact HF.out
          · have O3 := O2.out
            have lz : zs.length = nx := D.out.lz
            dsimp only at O3 ⊢
            rw [lz] at O3 ⊢
            exact D.out.next we q2 qc2 HE.out O3
        case measure => simp [intOf]; omega
      | false =>
        have e := MR.out
        rw [if_neg (by decide)] at e
        subst e
        have V := Lib.hid (GD.out i HI.out (fun h => H0.out (by omega)) HF.out)
        have FE := Lib.hid (DM.out.fr.trans (FrS.of_below hH))
        clear hH O2
        go_wp2_with fail
        go_ret
        exact RES.out _ _ ⟨by rw [V.out]; rfl, FE.out, fun h9 => by rw [V.out] at h9; cases h9⟩
end Go.Proofs.Ytpelnfenfeoeeaa
end

section
/-
  Chapter 12, in the program: one row operation done to a matrix and to its account.
-/
namespace Go.Proofs.Ytpelnfenfeoeeaa
set_option maxRecDepth 100000
open Go.RowKit

/-- What an operation answers. -/
def DoRes (R C na nu bf ba B : Nat) (k : Int) (I J : Nat) (z : Int) (s : HSt) (w : World) (e : Ending) (w' : World) : Prop :=
  e = .returned (.bool (okS (op2 R C k I J z s))) ∧ FrS (fun b => b = bf ∨ b = ba) w w' ∧ (okS (op2 R C k I J z s) = true → AcW R C na nu bf ba B (op2 R C k I J z s) w')
theorem iDo (R C na nu bf ba B I J : Nat) (k z : Int) (s : HSt) (w : World) (h : AcW R C na nu bf ba B s w) (hR : R ≤ 24) (hC : C ≤ 24) (hna : na = R * C) (hnu : nu = R * R) (hB : B ≤ w.heap.size) (hS : Siz R C s) (ho : okS s = true) (hop : isOp k I J z R = true) :
    Calls Try.prog 141 #[.agg #[.pointer (some ⟨bf, 0, none⟩), .pointer (some ⟨ba, 0, none⟩)], .agg #[.int .i64 k, .int .i64 I, .int .i64 J, .int .i64 z]] w (DoRes R C na nu bf ba B k I J z s w) := by
  have hc := iDoG R bf 0 ba 0 I J k z (fun i wq => AcW R C na nu bf ba B (acS R C k I J z s i) wq) (fun i => acB R C k I J z s (i + 1)) w (fun w' hb => h.step hb) h.lt.1 h.lt.2 (Lib.hid fun i wq hi hw hst h1 => by
    have hf : acB R C k I J z s i = true := by
      rcases i with _ | _ | i
      · rfl
      · exact h1 rfl
      · omega
    obtain ⟨bx, cx, nx, qx, mx, xs, zs, fx, D, h6⟩ := do_at_le hi hR hC hna hnu hst (by omega) hS ho hop hf
    exact ⟨bx, 0, cx, nx, qx, mx, xs, zs, D.blk.p3, D.rd, D.lx, D.lz, D.spot, by rw [D.op, D.ef], D.eb, by split <;> rfl, h6, fun w1 q m hb ho => D.next w1 q m hb ho⟩)
  have e : ((fun i => acB R C k I J z s (i + 1)) 0 && (fun i => acB R C k I J z s (i + 1)) 1) = okS (op2 R C k I J z s) := by
    show (nums (opL k I J z C s.1) && (nums (opL k I J z C s.1) && nums (opL k I J z R s.2))) = (nums (opL k I J z C s.1) && nums (opL k I J z R s.2))
    cases nums (opL k I J z C s.1) <;> rfl
  refine hc.mono ?_
  rintro en w' ⟨h1, h2, h3⟩
  rw [e] at h1 h3
  exact ⟨h1, h2, h3⟩
end Go.Proofs.Ytpelnfenfeoeeaa
end

section
/-
  Chapter 1, in the program: DivideFloor.
-/
namespace Go.Proofs.Ytpelnfenfeoeeaa
open Go.RowKit

set_option maxHeartbeats 400000 in
theorem iDiv (n d : Int) (w : World) (hn1 : -400000000 ≤ n) (hn2 : n ≤ 400000000) (hd1 : -400000000 ≤ d) (hd2 : d ≤ 400000000) (hd0 : d ≠ 0) :
    Calls Try.prog 163 #[.int .i64 n, .int .i64 d] w fun e w' => e = .returned (.tuple #[.int .i64 (n / d), .int .i64 (n % d), .bool true]) ∧ ∃ n, w' = w.drewN n := by
  have hz : (d == 0) = false := by simpa using hd0
  obtain ⟨b1, b2⟩ := tdiv_bd n d hn1 hn2
  have l := tmod_small n d hd0
  have l1 : -400000000 ≤ n.tmod d := by omega
  have l2 : n.tmod d ≤ 400000000 := by omega
  clear l
  by_cases h : n.tmod d < 0
  · have hn : n < 0 := by
      rcases Int.lt_or_le n 0 with h' | h'
      · exact h'
      · have := Int.tmod_nonneg d h'; omega
    by_cases hd : 0 < d
    · have E := Lib.hid (tdiv_down n d hd h)
      go_enter Try.func163, Try.ntmps163
      go_wp2_with (first | (go_at_call 114; refine (iIsNum_t _ _ (by omega) (by omega)).mono ?_; rintro e w' ⟨rfl, rfl⟩) | go_quiet (fail))
      go_ret3
      exact ⟨by rw [E.out.1, E.out.2]; rfl, _, rfl⟩
    · have E : Hid (n / d = n.tdiv d + 1 ∧ n % d = n.tmod d - d) := by
        obtain ⟨c, rfl⟩ : ∃ c, d = -c := ⟨-d, by omega⟩
        exact iDiv_neg n c (by omega) h
      have hd' : decide (0 < d) = false := by simpa using hd
      go_enter Try.func163, Try.ntmps163
      go_wp2_with (first | (go_at_call 114; refine (iIsNum_t _ _ (by omega) (by omega)).mono ?_; rintro e w' ⟨rfl, rfl⟩) | go_quiet (fail))
      go_ret3
      exact ⟨by rw [E.out.1, E.out.2]; rfl, _, rfl⟩
  · have E := Lib.hid (iDiv_pos n d hd0 (by omega))
    have h' : decide (n.tmod d < 0) = false := by simpa using h
    have hp : 0 ≤ n % d := Int.emod_nonneg n hd0
    have hp' : decide (n % d < 0) = false := by simpa using hp
    go_enter Try.func163, Try.ntmps163
    go_wp2_with (first | (go_at_call 114; refine (iIsNum_t _ _ (by omega) (by omega)).mono ?_; rintro e w' ⟨rfl, rfl⟩) | go_quiet (fail))
    go_ret3
    exact ⟨by rw [E.out.1, E.out.2]; rfl, _, rfl⟩

theorem iDiv_f (n d : Int) (w : World) (h : ¬ ((-400000000 ≤ n ∧ n ≤ 400000000) ∧ (-400000000 ≤ d ∧ d ≤ 400000000) ∧ d ≠ 0)) :
    Calls Try.prog 163 #[.int .i64 n, .int .i64 d] w fun e w' => e = .returned (.tuple #[.int .i64 0, .int .i64 0, .bool false]) ∧ w = w' := by
  by_cases hn : -400000000 ≤ n ∧ n ≤ 400000000
  · by_cases hd : -400000000 ≤ d ∧ d ≤ 400000000
    · have h0 : d = 0 := by omega
      subst h0
      clear h hd
      go_enter Try.func163, Try.ntmps163
      go_wp2_with fail
      refine (iIsNum_t _ _ hn.1 hn.2).mono ?_
      rintro e w' ⟨rfl, rfl⟩
      go_wp2_with fail
      refine (iIsNum_t _ _ (by omega) (by omega)).mono ?_
      rintro e w' ⟨rfl, rfl⟩
      go_wp2_with fail
      go_ret3
      exact ⟨rfl, rfl⟩
    · have hd' : d < -400000000 ∨ 400000000 < d := by omega
      clear h hd
      go_enter Try.func163, Try.ntmps163
      go_wp2_with fail
      refine (iIsNum_t _ _ hn.1 hn.2).mono ?_
      rintro e w' ⟨rfl, rfl⟩
      go_wp2_with fail
      refine (iIsNum_f _ _ hd').mono ?_
      rintro e w' ⟨rfl, rfl⟩
      go_wp2_with fail
      go_ret3
      exact ⟨rfl, rfl⟩
  · have hn' : n < -400000000 ∨ 400000000 < n := by omega
    clear h hn
    go_enter Try.func163, Try.ntmps163
    go_wp2_with fail
    refine (iIsNum_f _ _ hn').mono ?_
    rintro e w' ⟨rfl, rfl⟩
    go_wp2_with fail
    go_ret3
    exact ⟨rfl, rfl⟩

end Go.Proofs.Ytpelnfenfeoeeaa
end

section
/-
  Chapter 12, in the program: the remainder of a row by another one (the method divide).
-/
namespace Go.Proofs.Ytpelnfenfeoeeaa
set_option maxRecDepth 100000
open Go.RowKit

theorem isOp_add {R I J : Nat} {z : Int} (hR : R ≤ 24) (hI : I < R) (hJ : J < R) (hne : I ≠ J) (hz : NumP z) : isOp 2 I J z R = true := by
  unfold isOp rangeOp
  simp only [Bool.and_eq_true, decide_eq_true_eq]
  refine ⟨⟨⟨⟨⟨by omega, by omega⟩, by omega⟩, by omega⟩, hz⟩, ?_⟩
  rw [if_neg (by decide), if_neg (by decide), decide_eq_true_eq]
  omega
theorem isOp_swap {R I J : Nat} (hR : R ≤ 24) (hI : I < R) (hJ : J < R) (hne : I ≠ J) : isOp 0 I J 0 R = true := by
  unfold isOp rangeOp
  simp only [Bool.and_eq_true, decide_eq_true_eq]
  refine ⟨⟨⟨⟨⟨by omega, by omega⟩, by omega⟩, by omega⟩, by unfold NumP; omega⟩, ?_⟩
  simp
  omega
theorem isOp_neg {R I : Nat} (hR : R ≤ 24) (hI : I < R) : isOp 1 I I 0 R = true := by
  unfold isOp rangeOp
  simp only [Bool.and_eq_true, decide_eq_true_eq]
  refine ⟨⟨⟨⟨⟨by omega, by omega⟩, by omega⟩, by omega⟩, by unfold NumP; omega⟩, ?_⟩
  simp
theorem DoRes.from {R C na nu bf ba B : Nat} {k : Int} {I J : Nat} {z : Int} {s : HSt} {w w1 w' : World} {e : Ending} (h : DoRes R C na nu bf ba B k I J z s w1 e w') (hb : Below w.heap.size w w1) : DoRes R C na nu bf ba B k I J z s w e w' :=
  ⟨h.1, (FrS.of_below hb).trans h.2.1, h.2.2⟩
theorem keepX {W0 W w' : World} {b0 bf ga d1 d2 : Nat} {p q r v x y : Value} (h : W.cell? ⟨b0, 0, none⟩ = some p ∧ W.cell? ⟨bf, 0, none⟩ = some q ∧ W.cell? ⟨bf, 1, none⟩ = some r ∧ W.cell? ⟨bf, 2, none⟩ = some v ∧ W.cell? ⟨ga, d1, none⟩ = some x ∧ W.cell? ⟨ga, d2, none⟩ = some y ∧ Below W0.heap.size W0 W) (hb : Below W.heap.size W w') :
    w'.cell? ⟨b0, 0, none⟩ = some p ∧ w'.cell? ⟨bf, 0, none⟩ = some q ∧ w'.cell? ⟨bf, 1, none⟩ = some r ∧ w'.cell? ⟨bf, 2, none⟩ = some v ∧ w'.cell? ⟨ga, d1, none⟩ = some x ∧ w'.cell? ⟨ga, d2, none⟩ = some y ∧ Below W0.heap.size W0 w' := by
  obtain ⟨h1, h2, h3, h4, h5, h6, h7⟩ := h
  have c : ∀ (b o : Nat) (v : Value), W.cell? ⟨b, o, none⟩ = some v → w'.cell? ⟨b, o, none⟩ = some v := fun b o v hv => (hb.cell (World.block_lt_of_cell? W _ hv)).trans hv
  exact ⟨c _ _ _ h1, c _ _ _ h2, c _ _ _ h3, c _ _ _ h4, c _ _ _ h5, c _ _ _ h6, h7.trans (hb.mono h7.size)⟩
set_option maxHeartbeats 8000000 in
theorem iDivide (R C na nu bf ba B I J j : Nat) (s : HSt) (w : World) (h : AcW R C na nu bf ba B s w) (hR : R ≤ 24) (hC : C ≤ 24) (hna : na = R * C) (hnu : nu = R * R) (hB : B ≤ w.heap.size) (hS : Siz R C s) (ho : okS s = true) (hI : I < R) (hJ : J < R) (hne : I ≠ J) (hj : j < C) (hy : celS C s J j ≠ 0) :
    Calls Try.prog 142 #[.agg #[.pointer (some ⟨bf, 0, none⟩), .pointer (some ⟨ba, 0, none⟩)], .int .i64 I, .int .i64 J, .int .i64 j] w (DoRes R C na nu bf ba B 2 I J (-(celS C s I j / celS C s J j)) s w) := by
  have hle : R * C ≤ 24 * 24 := Nat.mul_le_mul hR hC
  have NX : NumP (celS C s I j) := nums_def (okS_and ho).1 _
  have NY : NumP (celS C s J j) := nums_def (okS_and ho).1 _
  have NQ := quot_num NX hy
  have LI := h.lt
  obtain ⟨qa, qu, ma, mu, hV⟩ := h
  have B1 : Below w.heap.size w (w.alloc (.cells #[.pointer (some ⟨bf, 0, none⟩), .pointer (some ⟨ba, 0, none⟩)] 93)) := (Below.refl _ _).alloc (Nat.le_refl _) _
  have V1 := hV.step B1
  have P1 : Hid (Blk2 (w.alloc (.cells #[.pointer (some ⟨bf, 0, none⟩), .pointer (some ⟨ba, 0, none⟩)] 93)) w.heap.size 93 (.pointer (some ⟨bf, 0, none⟩)) (.pointer (some ⟨ba, 0, none⟩))) := Blk2.at_ _ _ _ rfl
  have RW : Hid (∀ i w', i < R → Calls Try.prog 83 #[.agg #[.int .i64 R, .int .i64 C, .slice qa na ma], .int .i64 i] w' (RowAt qa (i * C) C w')) := fun i w' hi => iRowIn R C i (i * C) na ma qa w' hV.fA.celA.spot rfl (by rw [hna, ← Nat.succ_mul]; exact Nat.mul_le_mul_right _ hi) hV.fA.celA.le hV.fA.celA.nil (by omega) (by omega)
  have CX : ∀ i, i < R → ∃ g o : Nat, qa = some ⟨g, o, none⟩ ∧ (w.alloc (.cells #[.pointer (some ⟨bf, 0, none⟩), .pointer (some ⟨ba, 0, none⟩)] 93)).cell? ⟨g, o + i * C + j, none⟩ = some (.int .i64 (celS C s i j)) := fun i hi => by
    obtain ⟨g, o, h1, h2⟩ := V1.rd (i * C + j) (by rw [hV.lf, hna]; exact idx_lt hi hj)
    exact ⟨g, o, h1, by rw [Nat.add_assoc]; exact h2⟩
  have DO : Hid (∀ z w', AcW R C na nu bf ba B s w' → w.heap.size ≤ w'.heap.size → isOp 2 I J z R = true → Calls Try.prog 141 #[.agg #[.pointer (some ⟨bf, 0, none⟩), .pointer (some ⟨ba, 0, none⟩)], .agg #[.int .i64 2, .int .i64 I, .int .i64 J, .int .i64 z]] w' (DoRes R C na nu bf ba B 2 I J z s w')) := fun z w' h1 h2 h3 => iDo R C na nu bf ba B I J 2 z s w' h1 hR hC hna hnu (by omega) hS ho h3
  have ON : Hid (op2 R C 2 I J 0 s = s) := op2_none ho
  have OK := Lib.hid ho
  have IO := Lib.hid (isOp_add hR hI hJ hne NQ)
  obtain ⟨ga, oa, hqa, cx⟩ := CX I hI
  obtain ⟨g2, o2, hqb, cy⟩ := CX J hJ
  rw [hqa] at hqb
  injection hqb with hqb
  injection hqb with e1 e2
  subst e1 e2 hqa
  have RI : Hid (∀ w', Calls Try.prog 83 #[.agg #[.int .i64 R, .int .i64 C, .slice (some ⟨ga, oa, none⟩) na ma], .int .i64 I] w' (fun e w2 => ∃ m', e = .returned (.slice (some ⟨ga, oa + I * C, none⟩) C m') ∧ Below w'.heap.size w' w2)) := fun w' => (RW.out I w' hI).mono fun e w2 ⟨q', m', h1, _, h2, _, h3⟩ => ⟨m', by rw [h1, h2 ga oa rfl (by omega)], h3⟩
  have RJ : Hid (∀ w', Calls Try.prog 83 #[.agg #[.int .i64 R, .int .i64 C, .slice (some ⟨ga, oa, none⟩) na ma], .int .i64 J] w' (fun e w2 => ∃ m', e = .returned (.slice (some ⟨ga, oa + J * C, none⟩) C m') ∧ Below w'.heap.size w' w2)) := fun w' => (RW.out J w' hJ).mono fun e w2 ⟨q', m', h1, _, h2, _, h3⟩ => ⟨m', by rw [h1, h2 ga oa rfl (by omega)], h3⟩
  obtain ⟨x, hx⟩ : ∃ x, celS C s I j = x := ⟨_, rfl⟩
  obtain ⟨y, hyy⟩ : ∃ y, celS C s J j = y := ⟨_, rfl⟩
  rw [hx] at NX NQ cx IO ⊢
  rw [hyy] at NY NQ cy hy IO ⊢
  have DV : Hid (∀ w', Calls Try.prog 163 #[.int .i64 x, .int .i64 y] w' (Gives (.tuple #[.int .i64 (x / y), .int .i64 (x % y), .bool true]) w')) := fun w' => by
    refine (iDiv x y w' NX.1 NX.2 NY.1 NY.2 hy).mono ?_
    rintro e w2 ⟨rfl, n, rfl⟩
    exact ⟨rfl, below_drewN (Below.refl _ _) n⟩
  obtain ⟨q, hq⟩ : ∃ q, x / y = q := ⟨_, rfl⟩
  rw [hq] at DV NQ IO ⊢
  obtain ⟨mm, hmm⟩ : ∃ mm, x % y = mm := ⟨_, rfl⟩
  rw [hmm] at DV
  obtain ⟨D1, hD1⟩ : ∃ D1, oa + I * C = D1 := ⟨_, rfl⟩
  obtain ⟨D2, hD2⟩ : ∃ D2, oa + J * C = D2 := ⟨_, rfl⟩
  rw [hD1] at RI cx
  rw [hD2] at RJ cy
  have nq : IntKind.i64.wrap (-q) = -q := IntWalk.i64_in _ (by have := NQ.1; have := NQ.2; omega)
  have j1 : (0 : Int) ≤ (j : Int) := by omega
  have j2 : (j : Int) < (C : Int) := by omega
  have AW : Hid (AcW R C na nu bf ba B s (w.alloc (.cells #[.pointer (some ⟨bf, 0, none⟩), .pointer (some ⟨ba, 0, none⟩)] 93))) := ⟨_, _, _, _, V1⟩
  have B1 := Lib.hid B1
  obtain ⟨f0, f1, f2, -, -, -⟩ := V1.kf.all
  have S0 := Lib.hid (And.intro P1.out.cell0 (And.intro f0 (And.intro f1 (And.intro f2 (And.intro cx (And.intro cy (Below.refl (w.alloc (.cells #[.pointer (some ⟨bf, 0, none⟩), .pointer (some ⟨ba, 0, none⟩)] 93)).heap.size (w.alloc (.cells #[.pointer (some ⟨bf, 0, none⟩), .pointer (some ⟨ba, 0, none⟩)] 93)))))))))
  clear hle NX NY NQ hV V1 RW CX hR hC hna hnu hB hS ho hI hJ hne hj hy cx cy hx hyy hq hmm hD1 hD2 f0 f1 f2 LI
  go_enter Try.func142, Try.ntmps142
  go_upto_region 1 with fail
  obtain ⟨W1, hW1⟩ : ∃ W1, w.alloc (.cells #[.pointer (some ⟨bf, 0, none⟩), .pointer (some ⟨ba, 0, none⟩)] 93) = W1 := ⟨_, rfl⟩
  rw [hW1] at P1 AW S0 B1 ⊢
  clear hW1
  go_region_held3 (fun w' => w'.cell? ⟨w.heap.size, 0, none⟩ = some (.pointer (some ⟨bf, 0, none⟩)) ∧ w'.cell? ⟨bf, 0, none⟩ = some (.int .i64 R) ∧ w'.cell? ⟨bf, 1, none⟩ = some (.int .i64 C) ∧ w'.cell? ⟨bf, 2, none⟩ = some (.slice (some ⟨ga, oa, none⟩) na ma) ∧ w'.cell? ⟨ga, D1 + j, none⟩ = some (.int .i64 x) ∧ w'.cell? ⟨ga, D2 + j, none⟩ = some (.int .i64 y) ∧ Below W1.heap.size W1 w') (first | exact keepX S0.out (Below.refl _ _).drew | with_reducible exact keepX ‹_› ‹Below _ _ _›)
    (first
    | (go_at_call 83; (with_reducible refine (RI.out _).mono ?_); rintro e w2 ⟨m2, rfl, hb2⟩)
    | (go_at_call 83; (with_reducible refine (RJ.out _).mono ?_); rintro e w3 ⟨m3, rfl, hb3⟩)
    | (go_at_call 163; (with_reducible refine (DV.out _).mono ?_); rintro e w4 ⟨rfl, hb4⟩))
  all_goals
    have BE := Lib.hid (And.right (And.right (And.right (And.right (And.right (And.right ‹_ ∧ _ ∧ _ ∧ _ ∧ _ ∧ _ ∧ Below W1.heap.size W1 w4›))))))
    have PE := Lib.hid (P1.out.keep BE.out P1.out.lt)
    have AE := Lib.hid (AW.out.step BE.out)
    have BF := Lib.hid (B1.out.trans (BE.out.mono B1.out.size))
    clear P1 AW BE
    by_cases h0 : q = 0
    · have b1 : (q == 0) = true := by simp [h0]
      have RES : Hid (okS (op2 R C 2 I J (-q) s) = true ∧ op2 R C 2 I J (-q) s = s) := by
        rw [h0]
        exact ⟨by rw [show -(0 : Int) = 0 from rfl, ON.out]; exact OK.out, ON.out⟩
      clear h0
      go_wp2_with fail
      go_ret
      exact ⟨by rw [RES.out.1]; rfl, FrS.of_below BF.out, fun _ => by rw [RES.out.2]; exact AE.out⟩
    · have b1 : (q == 0) = false := by simpa using h0
      clear h0
      obtain ⟨a0, a1, -, -⟩ := PE.out.all
      go_wp2_with fail
      refine (DO.out _ _ AE.out BF.out.size IO.out).mono ?_
      rintro e w5 hd
      have hd := hd.from BF.out
      obtain ⟨rfl, hd⟩ := And.intro hd.1 hd
      have HD := Lib.hid hd
      clear hd a0 a1
      go_wp2_with fail
      go_ret
      exact HD.out
end Go.Proofs.Ytpelnfenfeoeeaa
end

section
/-
  Chapter 12, in the program: whether a cell is nearer to 0 than the least one before it; the first row with the least cell that is not 0.
-/
namespace Go.Proofs.Ytpelnfenfeoeeaa
set_option maxRecDepth 100000
open Go.RowKit

/-- A cell is not 0, but nearer to 0 than the least one, or the first one. -/
def nearB (x y : Int) : Bool := decide (x ≠ 0 ∧ (y = 0 ∨ x.natAbs < y.natAbs))
set_option maxHeartbeats 1000000 in
theorem iNear (x y : Int) (w : World) (hx : NumP x) (hy : NumP y) : Calls Try.prog 116 #[.int .i64 x, .int .i64 y] w (Gives (.bool (nearB x y)) w) := by
  obtain ⟨x1, x2⟩ := hx
  obtain ⟨y1, y2⟩ := hy
  by_cases h0 : x = 0
  · have V : Hid (nearB x y = false) := by show _ = _; unfold nearB; exact decide_eq_false (fun h => h.1 h0)
    have n1 : (x != 0) = false := by simp [h0]
    rw [V.out]
    clear h0
    go_enter Try.func116, Try.ntmps116
    go_wp2_with fail
    go_ret
    exact ⟨rfl, by first | exact Below.refl _ _ | exact below_drewN (Below.refl _ _) _⟩
  have n1 : (x != 0) = true := by simpa using h0
  by_cases hy0 : y = 0
  · have V : Hid (nearB x y = true) := by show _ = _; unfold nearB; exact decide_eq_true ⟨h0, .inl hy0⟩
    have n2 : (y == 0) = true := by simp [hy0]
    rw [V.out]
    clear h0 hy0
    go_enter Try.func116, Try.ntmps116
    go_wp2_with fail
    go_ret
    exact ⟨rfl, by first | exact Below.refl _ _ | exact below_drewN (Below.refl _ _) _⟩
  have n2 : (y == 0) = false := by simpa using hy0
  have v1 : IntKind.i64.wrap (-x) = -x := IntWalk.i64_in _ (by omega)
  have v2 : IntKind.i64.wrap (-y) = -y := IntWalk.i64_in _ (by omega)
  obtain ⟨ax, hax⟩ : ∃ z : Int, (x.natAbs : Int) = z := ⟨_, rfl⟩
  obtain ⟨ay, hay⟩ : ∃ z : Int, (y.natAbs : Int) = z := ⟨_, rfl⟩
  have v3 : ∀ d : Decidable (x < -x), (@ite Int (x < -x) d (-x) x) = ax := fun d => by rw [← hax]; split <;> omega
  have v4 : ∀ d : Decidable (y < -y), (@ite Int (y < -y) d (-y) y) = ay := fun d => by rw [← hay]; split <;> omega
  have v5 : max x (-x) = ax := by rw [← hax]; omega
  have v6 : max y (-y) = ay := by rw [← hay]; omega
  by_cases hl : x.natAbs < y.natAbs
  · have V : Hid (nearB x y = true) := by show _ = _; unfold nearB; exact decide_eq_true ⟨h0, .inr hl⟩
    have n3 : decide (ax < ay) = true := decide_eq_true (by omega)
    rw [V.out]
    clear h0 hy0 hl hax hay
    go_enter Try.func116, Try.ntmps116
    go_wp2_with fail
    go_ret
    exact ⟨rfl, by first | exact Below.refl _ _ | exact below_drewN (Below.refl _ _) _⟩
  · have V : Hid (nearB x y = false) := by
      show _ = _
      unfold nearB
      refine decide_eq_false ?_
      rintro ⟨-, h | h⟩
      · exact hy0 h
      · exact hl h
    have n3 : decide (ax < ay) = false := decide_eq_false (by omega)
    rw [V.out]
    clear h0 hy0 hl hax hay
    go_enter Try.func116, Try.ntmps116
    go_wp2_with fail
    go_ret
    exact ⟨rfl, by first | exact Below.refl _ _ | exact below_drewN (Below.refl _ _) _⟩
/-- The least cell so far, 0 if there is none. -/
def lsZ (f : Nat → Int) (L : Int) : Int := if L < 0 then 0 else f L.toNat
theorem ls_none {f : Nat → Int} {t k : Nat} (h : nearB (f (t + k)) (lsZ f (leastF f t k)) = false) : leastF f t (k + 1) = leastF f t k := by
  unfold nearB at h
  rw [decide_eq_false_iff_not] at h
  show (if _ then _ else _) = _
  rw [if_neg]
  rintro ⟨h1, h2⟩
  refine h ⟨h1, ?_⟩
  unfold lsZ
  by_cases hl : leastF f t k < 0
  · rw [if_pos hl]; exact .inl rfl
  · rw [if_neg hl]
    rcases h2 with h2 | h2
    · exact absurd h2 hl
    · exact .inr h2
theorem ls_some {f : Nat → Int} {t k : Nat} (h : nearB (f (t + k)) (lsZ f (leastF f t k)) = true) (h0 : ¬ leastF f t k < 0 → f (leastF f t k).toNat ≠ 0) : leastF f t (k + 1) = ((t + k : Nat) : Int) ∧ lsZ f ((t + k : Nat) : Int) = f (t + k) := by
  unfold nearB at h
  rw [decide_eq_true_iff] at h
  refine ⟨?_, ?_⟩
  · show (if _ then _ else _) = _
    rw [if_pos]
    refine ⟨h.1, ?_⟩
    have h2 := h.2
    unfold lsZ at h2
    by_cases hl : leastF f t k < 0
    · exact .inl hl
    · rw [if_neg hl] at h2
      rcases h2 with h2 | h2
      · exact absurd h2 (h0 hl)
      · exact .inr h2
  · unfold lsZ
    rw [if_neg (by omega), Int.toNat_natCast]
theorem ls_nz (f : Nat → Int) (t k : Nat) : ¬ leastF f t k < 0 → f (leastF f t k).toNat ≠ 0 := fun h => by
  rcases leastF_says f t k with ⟨h1, -⟩ | ⟨p, h1, -, -, h4, -⟩
  · omega
  · rw [h1, Int.toNat_natCast]; exact h4
set_option maxHeartbeats 2000000 in
theorem iLeast (R C : Nat) (a : Option Addr) (n m j t : Nat) (s : HSt) (w : World) (h : Rd w a s.1) (hA : CelA a n m) (hx : s.1.length = n) (hn : n = R * C) (hR : R ≤ 24) (hC : C ≤ 24) (hj : j < C) (ht : t ≤ R) (ho : nums s.1 = true) :
    Calls Try.prog 161 #[.agg #[.int .i64 R, .int .i64 C, .slice a n m], .int .i64 t, .int .i64 j] w (Gives (.int .i64 (leastS R C j t s)) w) := by
  have hle : R * C ≤ 24 * 24 := Nat.mul_le_mul hR hC
  have K0 : Hid (Blk3 (w.alloc (.cells #[.int .i64 R, .int .i64 C, .slice a n m] 26)) w.heap.size 26 (.int .i64 R) (.int .i64 C) (.slice a n m)) := Blk3.at_ _ _ _ _ rfl
  have B0 : Hid (Below w.heap.size w (w.alloc (.cells #[.int .i64 R, .int .i64 C, .slice a n m] 26))) := (Below.refl _ _).alloc (Nat.le_refl _) _
  have RW : Hid (∀ i w', i < R → Calls Try.prog 83 #[.agg #[.int .i64 R, .int .i64 C, .slice a n m], .int .i64 i] w' (RowAt a (i * C) C w')) := fun i w' hi => iRowIn R C i (i * C) n m a w' hA.spot rfl (by rw [hn, ← Nat.succ_mul]; exact Nat.mul_le_mul_right _ hi) hA.le hA.nil (by omega) (by omega)
  have CX : Hid (∀ i w', i < R → Below w.heap.size w w' → ∃ g o : Nat, a = some ⟨g, o, none⟩ ∧ w'.cell? ⟨g, o + i * C + j, none⟩ = some (.int .i64 (celS C s i j))) := fun i w' hi hb => by
    obtain ⟨g, o, h1, h2⟩ := h.below hb (i * C + j) (by rw [hx, hn]; exact idx_lt hi hj)
    exact ⟨g, o, h1, by rw [Nat.add_assoc]; exact h2⟩
  have NU : Hid (∀ i, NumP (celS C s i j)) := fun i => nums_def ho _
  have LS : Hid (leastS R C j t s = leastF (fun i => celS C s i j) t (R - t)) := rfl
  have cj : Hid ((0 : Int) ≤ (j : Int) ∧ (j : Int) < (C : Int)) := ⟨by omega, by omega⟩
  obtain ⟨f, hf⟩ : ∃ f : Nat → Int, (fun i => celS C s i j) = f := ⟨_, rfl⟩
  have CX : Hid (∀ i w', i < R → Below w.heap.size w w' → ∃ g o : Nat, a = some ⟨g, o, none⟩ ∧ w'.cell? ⟨g, o + i * C + j, none⟩ = some (.int .i64 (f i))) := by rw [← hf]; exact CX
  have NU : Hid (∀ i, NumP (f i)) := by rw [← hf]; exact NU
  rw [hf] at LS
  rw [LS.out]
  have NZ : Hid (∀ L, NumP (lsZ f L)) := fun L => by
    unfold lsZ
    split
    · exact ⟨by decide, by decide⟩
    · exact NU.out _
  clear h hx hn ho hf LS hA hle
  go_enter Try.func161, Try.ntmps161
  go_wp2_with fail
  go_loopw [7, 8, 9, 10] (fun v7 v8 v9 _ wr => ∃ k : Nat, v7 = .int .i64 (leastF f t k) ∧ v8 = .int .i64 (lsZ f (leastF f t k)) ∧ v9 = .int .i64 ((t + k : Nat) : Int) ∧ t + k ≤ R ∧ Blk3 wr w.heap.size 26 (.int .i64 R) (.int .i64 C) (.slice a n m) ∧ Below w.heap.size w wr) (fun _ _ v9 _ _ => R - (intOf v9).toNat)
  case atStart => exact ⟨0, rfl, rfl, rfl, by omega, K0.out, B0.out⟩
  case round =>
    clear K0 B0
    obtain ⟨k, rfl, rfl, rfl, hk, hK, hB⟩ := hrel
    have K := Lib.hid hK
    have B := Lib.hid hB
    clear hK hB
    obtain ⟨p0, p1, p2, -, -, -⟩ := K.out.all
    by_cases hlt : t + k < R
    · have LNo : Hid (nearB (f (t + k)) (lsZ f (leastF f t k)) = false → leastF f t (k + 1) = leastF f t k) := fun h => ls_none h
      have LNe : Hid (nearB (f (t + k)) (lsZ f (leastF f t k)) = true → leastF f t (k + 1) = ((t + k : Nat) : Int) ∧ lsZ f ((t + k : Nat) : Int) = f (t + k)) := fun h => ls_some h (ls_nz f t k)
      have NI := Lib.hid (NU.out (t + k))
      obtain ⟨T, hT⟩ : ∃ T, t + k = T := ⟨_, rfl⟩
      have ET := Lib.hid hT
      rw [hT] at LNo LNe NI hlt ⊢
      obtain ⟨x, hx⟩ : ∃ x, f T = x := ⟨_, rfl⟩
      rw [hx] at LNo LNe NI
      have EX := Lib.hid hx
      clear hx hT
      obtain ⟨L, hL⟩ : ∃ L, leastF f t k = L := ⟨_, rfl⟩
      rw [hL] at LNo LNe ⊢
      have EL := Lib.hid hL
      have ZI := Lib.hid (NZ.out L)
      obtain ⟨Z, hZ⟩ : ∃ Z, lsZ f L = Z := ⟨_, rfl⟩
      rw [hZ] at LNo LNe ZI ⊢
      have EZ := Lib.hid hZ
      clear hL hZ
      have NR := Lib.hid (fun w' => iNear x Z w' NI.out ZI.out)
      obtain ⟨nb, hnb⟩ : ∃ nb, nearB x Z = nb := ⟨_, rfl⟩
      rw [hnb] at NR LNo LNe
      clear hnb
      go_wp2_with fail
      refine (RW.out T _ hlt).mono ?_
      rintro e w3 ⟨q', m', rfl, -, hq', -, hb3⟩
      have K3 := Lib.hid (K.out.step hb3)
      have B3 := Lib.hid (B.out.trans (hb3.mono B.out.size))
      obtain ⟨g, o, hag, hcell⟩ := CX.out T w3 hlt B3.out
      rw [EX.out] at hcell
      obtain rfl := hq' g o hag (by omega)
      clear hb3 hq' hag p0 p1 p2 K B
      obtain ⟨j1, j2⟩ := cj.out
      go_wp2_with fail
      refine (NR.out _).mono ?_
      rintro e w4 ⟨rfl, hb4⟩
      have K4 := Lib.hid (K3.out.step hb4)
      have B4 := Lib.hid (B3.out.trans (hb4.mono B3.out.size))
      clear hb4 K3 B3 hcell j1 j2
      cases nb with
      | false =>
        have LK := Lib.hid (LNo.out rfl)
        go_wp2_with fail
        go_roundw
        case rel => exact ⟨k + 1, by rw [LK.out], by rw [LK.out, EZ.out], by rw [← Nat.add_assoc, ET.out]; go_num, by have := ET.out; omega, K4.out, B4.out⟩
        case measure => simp [intOf]; have := ET.out; omega
      | true =>
        have LK := Lib.hid (LNe.out rfl)
        go_wp2_with fail
        go_roundw
        case rel => exact ⟨k + 1, by rw [LK.out.1], by rw [LK.out.1, LK.out.2], by rw [← Nat.add_assoc, ET.out]; go_num, by have := ET.out; omega, K4.out, B4.out⟩
        case measure => simp [intOf]; have := ET.out; omega
    · have e1 : Hid (R - t = k) := by show _ = _; omega
      go_wp2_with fail
      go_ret
      exact ⟨by rw [e1.out]; rfl, B.out⟩
end Go.Proofs.Ytpelnfenfeoeeaa
end

section
/-
  Plain mathematics of chapter 7: what a row is divided by in the program. Nothing of a program is used.
-/
namespace Go.Proofs.Ytpelnfenfeoeeaa

/-- What a row is divided by. -/
def sgD (c : Nat) (v : Nat → Int) : Int := if gcdN c v = 0 then 1 else sgnN c v * gcdN c v
theorem sgD_div {c : Nat} {v : Nat → Int} (j : Nat) : (v j).tdiv (sgD c v) = prV c v j := by
  unfold sgD prV
  by_cases h : gcdN c v = 0
  · rw [if_pos h, if_pos h, Int.tdiv_one]
  · rw [if_neg h, if_neg h]
    rcases sgnN_or c v with hs | hs | hs
    · exact absurd hs (sgnN_ne h)
    · rw [hs, Int.one_mul, Int.one_mul]
    · rw [hs, Int.neg_mul, Int.neg_mul, Int.one_mul, Int.one_mul, Int.tdiv_neg, Int.neg_tdiv]
theorem sgD_ne (c : Nat) (v : Nat → Int) : sgD c v ≠ 0 := by
  unfold sgD
  by_cases h : gcdN c v = 0
  · rw [if_pos h]; decide
  · rw [if_neg h]
    exact Int.mul_ne_zero (sgnN_ne h) h
theorem sgD_num {c : Nat} {v : Nat → Int} (h : ∀ j, j < c → NumP (v j)) : NumP (sgD c v) := by
  have hg := gcdN_num h
  unfold sgD
  split
  · exact ⟨by decide, by decide⟩
  · unfold NumP at hg ⊢
    rcases sgnN_or c v with hs | hs | hs <;> rw [hs] <;> omega
theorem lead_zero {c : Nat} {v : Nat → Int} : leadC c v = c ↔ gcdN c v = 0 := by
  obtain ⟨h1, h2, h3⟩ := leadC_says c v
  constructor
  · intro h
    exact gcdN_all fun j hj => h2 j (by omega)
  · intro h
    rcases Nat.lt_or_ge (leadC c v) c with h4 | h4
    · exact absurd (gcdN_none h _ h4) (h3 h4)
    · omega
theorem sgD_end {c : Nat} {v : Nat → Int} (h : leadC c v = c) : sgD c v = 1 := by
  unfold sgD
  rw [if_pos (lead_zero.mp h)]
theorem sgD_lead {c : Nat} {v : Nat → Int} (h : leadC c v < c) : sgD c v = if v (leadC c v) < 0 then -gcdN c v else gcdN c v := by
  obtain ⟨h1, h2, h3⟩ := leadC_says c v
  unfold sgD
  rw [if_neg (fun e => by have := lead_zero.mpr e; omega), sgnN_first h h2 (h3 h)]
  split
  · rw [Int.neg_mul, Int.one_mul]
  · rw [Int.one_mul]
/-- The divisor is 1 for a row as an echelon form has it. -/
theorem sgD_one {c : Nat} {v : Nat → Int} : sgD c v = 1 ↔ ¬ (leadC c v < c ∧ (v (leadC c v) < 0 ∨ gcdN c v ≠ 1)) := by
  have g0 := gcdN_nonneg c v
  obtain ⟨h1, h2, h3⟩ := leadC_says c v
  rcases Nat.lt_or_ge (leadC c v) c with h | h
  · rw [sgD_lead h]
    by_cases hn : v (leadC c v) < 0
    · rw [if_pos hn]
      constructor
      · intro e; omega
      · intro e; exact absurd ⟨h, .inl hn⟩ e
    · rw [if_neg hn]
      constructor
      · rintro e ⟨-, h4 | h4⟩
        · exact hn h4
        · exact h4 e
      · intro e
        exact Classical.byContradiction fun h4 => e ⟨h, .inr h4⟩
  · rw [sgD_end (by omega)]
    exact ⟨fun _ h4 => by omega, fun _ => rfl⟩
/-- A row that is primitive has no other divisor. -/
theorem prL_norm {r c i : Nat} {xs : List Int} (hx : xs.length = r * c) (h : i < r → Norm c (mxC c xs i)) : prL r c i xs = xs := by
  rw [prL_row]
  exact rowL_self hx fun hi q hq => prV_id (h hi) hq
/-- A row with 0 in the pivot's column stays as it is. -/
theorem rdV_skip {u v : Nat → Int} {j : Nat} (hu : u j = 0) (hv : 0 < v j) (k : Nat) : rdV j u v k = u k := by
  unfold rdV
  rw [hu, Int.gcd_zero_left, Int.natAbs_of_nonneg (by omega), Int.tdiv_self (by omega), Int.zero_tdiv]
  omega
theorem rdL_skip {r c t j i : Nat} {xs : List Int} (hx : xs.length = r * c) (hu : mxC c xs i j = 0) (hv : 0 < mxC c xs t j) (hn : i < r → Norm c (mxC c xs i)) : rdL r c t j i xs = xs := by
  rw [rdL_row]
  refine rowL_self hx fun hi q hq => ?_
  have e : prV c (rdV j (mxC c xs i) (mxC c xs t)) q = prV c (mxC c xs i) q := prV_congr (fun k _ => rdV_skip hu hv k) q hq
  rw [e, prV_id (hn hi) hq]
theorem rowN_skip {c t j i r : Nat} {xs : List Int} (hx : xs.length = r * c) (nx : nums xs = true) (hi : i < r) (hu : mxC c xs i j = 0) (hv : 0 < mxC c xs t j) : rowN c (rdV j (mxC c xs i) (mxC c xs t)) = true :=
  rowN_iff.mpr fun q hq => by rw [rdV_skip hu hv]; exact mx_nums hx nx hi hq
/-- One row of the elimination as the program does it: rows with 0 are not left out. -/
theorem elimR_go {r c t j k i : Nat} {xs : List Int} (hx : xs.length = r * c) (nx : nums xs = true) (hi : i < r) (hit : i ≠ t) (hv : 0 < mxC c xs t j) (hn : Norm c (mxC c xs i)) :
    (rowN c (rdV j (mxC c xs i) (mxC c xs t)) = true → elimR r c t j (k + 1) i xs = elimR r c t j k (i + 1) (rdL r c t j i xs)) ∧ (rowN c (rdV j (mxC c xs i) (mxC c xs t)) ≠ true → elimR r c t j (k + 1) i xs = none) := by
  by_cases h0 : mxC c xs i j = 0
  · refine ⟨fun _ => ?_, fun h => absurd (rowN_skip hx nx hi h0 hv) h⟩
    rw [elimR_skip (.inr h0), rdL_skip hx h0 hv fun _ => hn]
  · have h1 : ¬ (i = t ∨ mxC c xs i j = 0) := fun e => e.elim hit h0
    exact ⟨fun h => elimR_on h1 h, fun h => elimR_bad h1 h⟩
/-- Where all rows have their pivots, nothing is left to do. -/
theorem echC_full {r c : Nat} {xs : List Int} {pv : List Nat} (h : ¬ pv.length < r) (k j : Nat) : echC r c k j xs pv = some (xs, pv) := by
  cases k with
  | zero => rfl
  | succ k => exact if_neg h
end Go.Proofs.Ytpelnfenfeoeeaa
end

section
/-
  Chapter 1, in the program: greatestDivisor.
-/
namespace Go.Proofs.Ytpelnfenfeoeeaa
open Go.RowKit

set_option maxHeartbeats 400000 in
/-- The program's Euclid, of any two ints but the two smallest. -/
theorem iGD (a b : Int) (w : World) (ha : -9000000000000000000 ≤ a ∧ a ≤ 9000000000000000000) (hb : -9000000000000000000 ≤ b ∧ b ≤ 9000000000000000000) :
    Calls Try.prog 79 #[.int .i64 a, .int .i64 b] w fun e w' => e = .returned (.int .i64 (Int.gcd a b : Int)) ∧ ∃ n, w' = w.drewN n := by
  obtain ⟨ha1, ha2⟩ := ha
  obtain ⟨hb1, hb2⟩ := hb
  go_enter Try.func79, Try.ntmps79
  go_wp2_with fail
  go_loopw [0, 1] (fun x y wr => ∃ p q : Int, x = .int .i64 p ∧ y = .int .i64 q ∧ -9000000000000000000 ≤ p ∧ p ≤ 9000000000000000000 ∧ -9000000000000000000 ≤ q ∧ q ≤ 9000000000000000000 ∧ Int.gcd p q = Int.gcd a b ∧ ∃ n, wr = w.drewN n) (fun _ y _ => (intOf y).natAbs)
  case atStart => exact ⟨a, b, rfl, rfl, ha1, ha2, hb1, hb2, rfl, 0, rfl⟩
  case round =>
    obtain ⟨p, q, rfl, rfl, p1, p2, q1, q2, hg, n, rfl⟩ := hrel
    have HG := Lib.hid hg
    clear hg
    by_cases hq : q = 0
    · subst hq
      go_wp2
      all_goals
        go_ret
        exact ⟨by rw [← HG.out, Int.gcd_zero_right]; exact ret_int (by omega), n, rfl⟩
    · have t1 := tmod_small p q hq
      have t2 := gcd_round p q
      have b1 : -9000000000000000000 ≤ p.tmod q := by omega
      have b2 : p.tmod q ≤ 9000000000000000000 := by omega
      have T1 := Lib.hid t1
      have T2 := Lib.hid t2
      clear t1 t2
      have hq' : (q == 0) = false := by simpa using hq
      go_wp2
      go_quiet (fail)
      go_wp2
      go_roundw
      case rel => exact ⟨q, p.tmod q, rfl, rfl, q1, q2, b1, b2, T2.out.trans HG.out, _, by rw [World.drewN_drewN]⟩
      case measure => simpa [intOf] using T1.out
end Go.Proofs.Ytpelnfenfeoeeaa
end

section
/-
  Chapter 7, in the program: a row's first cell with something, and what the row is divided by.
-/
namespace Go.Proofs.Ytpelnfenfeoeeaa
set_option maxRecDepth 100000
open Go.RowKit

theorem iLead (c cap : Nat) (q : Option Addr) (v : Nat → Int) (w : World) (h : Rd w q (rwL c v)) (hc : c ≤ 24) :
    Calls Try.prog 82 #[.slice q c cap] w (fun e w' => e = .returned (.int .i64 (leadC c v : Int)) ∧ w' = w) := by
  have RX : Hid (∀ j, j < c → ∃ b o : Nat, q = some ⟨b, o, none⟩ ∧ w.cell? ⟨b, o + j, none⟩ = some (.int .i64 (v j))) := fun j hj => by
    have := h j (by rw [rwL_length]; exact hj)
    rw [rwL_at hj] at this
    exact this
  clear h
  go_enter Try.func82, Try.ntmps82
  go_wp2_with fail
  go_loopw [3, 4, 7] (fun _ _ v7 wr => ∃ j : Nat, v7 = .int .i64 j ∧ j ≤ c ∧ (∀ i, i < j → v i = 0) ∧ wr = w) (fun _ _ v7 _ => c - (intOf v7).toNat)
  case atStart => exact ⟨0, rfl, by omega, fun i hi => by omega, rfl⟩
  case round =>
    obtain ⟨j, rfl, hj, hz, rfl⟩ := hrel
    have Z := Lib.hid hz
    clear hz
    by_cases hlt : j < c
    · obtain ⟨b, o, rfl, hcell⟩ := RX.out j hlt
      obtain ⟨x, hx⟩ : ∃ x, v j = x := ⟨_, rfl⟩
      have X := Lib.hid hx
      rw [hx] at hcell
      clear hx
      by_cases h0 : x = 0
      · have n1 : (x != 0) = false := by simp [h0]
        have n2 : (x == 0) = true := by simp [h0]
        have Z1 : Hid (∀ i, i < j + 1 → v i = 0) := fun i hi => by
          rcases Nat.lt_or_ge i j with h1 | h1
          · exact Z.out i h1
          · obtain rfl : i = j := by omega
            rw [X.out, h0]
        clear h0
        go_wp2_with fail
        go_roundw
        case rel => exact ⟨j + 1, by go_num, by omega, Z1.out, trivial⟩
        case measure => simp [intOf]; omega
      · have n1 : (x != 0) = true := by simpa using h0
        have n2 : (x == 0) = false := by simpa using h0
        have L : Hid (leadC c v = j) := leadF_eq (Nat.zero_le _) (by omega) (fun i _ hi => Z.out i hi) (fun _ => by rw [X.out]; exact h0)
        clear h0
        go_wp2_with fail
        go_ret
        exact ⟨by rw [L.out]; rfl, rfl⟩
    · obtain rfl : c = j := by omega
      have L : Hid (leadC c v = c) := leadF_eq (Nat.zero_le _) (by omega) (fun i _ hi => Z.out i hi) (fun h => by omega)
      go_wp2_with fail
      go_ret
      exact ⟨by rw [L.out]; rfl, rfl⟩
theorem iSgD (c cap : Nat) (q : Option Addr) (v : Nat → Int) (w : World) (h : Rd w q (rwL c v)) (hc : c ≤ 24) (hv : ∀ j, j < c → NumP (v j)) :
    Calls Try.prog 134 #[.slice q c cap] w (fun e w' => e = .returned (.int .i64 (sgD c v)) ∧ ∃ n, w' = w.drewN n) := by
  have LD : Hid (Calls Try.prog 82 #[.slice q c cap] w (fun e w' => e = .returned (.int .i64 (leadC c v : Int)) ∧ w' = w)) := iLead c cap q v w h hc
  have RX : Hid (∀ j n, j < c → ∃ b o : Nat, q = some ⟨b, o, none⟩ ∧ (w.drewN n).cell? ⟨b, o + j, none⟩ = some (.int .i64 (v j))) := fun j n hj => by
    have := h.drewN n j (by rw [rwL_length]; exact hj)
    rw [rwL_at hj] at this
    exact this
  have VN := Lib.hid hv
  obtain ⟨l1, -, -⟩ := leadC_says c v
  have SE : Hid (leadC c v = c → sgD c v = 1) := sgD_end
  have SL : Hid (leadC c v < c → sgD c v = if v (leadC c v) < 0 then -gcdN c v else gcdN c v) := sgD_lead
  have GB := gcdN_num (n := c) (f := v) hv
  unfold NumP at GB
  generalize leadC c v = l at LD l1 SE SL
  clear h hv
  go_enter Try.func134, Try.ntmps134
  go_wp2_with fail
  refine LD.out.mono ?_
  rintro e w1 ⟨rfl, rfl⟩
  by_cases hl : l = c
  · have n1 : ((l : Int) == (c : Int)) = true := by simp [hl]
    have S1 := Lib.hid (SE.out hl)
    clear hl
    go_wp2_with fail
    go_ret
    exact ⟨by rw [S1.out]; rfl, 0, rfl⟩
  · have n1 : ((l : Int) == (c : Int)) = false := by simp; omega
    have hlc : l < c := by omega
    have S1 := Lib.hid (SL.out hlc)
    clear hl SE SL
    go_wp2_with fail
    go_loopw [4, 6, 15] (fun v4 _ v15 wr => ∃ j n : Nat, v15 = .int .i64 j ∧ j ≤ c ∧ v4 = .int .i64 (gcdN j v) ∧ wr = w1.drewN n) (fun _ _ v15 _ => c - (intOf v15).toNat)
    case atStart => exact ⟨0, 0, rfl, by omega, rfl, rfl⟩
    case round =>
      obtain ⟨j, n, rfl, hj, rfl, rfl⟩ := hrel
      by_cases hlt : j < c
      · obtain ⟨b, o, rfl, hcell⟩ := RX.out j n hlt
        have hb := VN.out j hlt
        have hg := gcdN_num (n := j) (f := v) (fun k hk => VN.out k (by omega))
        have GS : Hid (gcdN (j + 1) v = ((gcdN j v).gcd (v j) : Int)) := rfl
        generalize gcdN j v = gg at hg GS
        generalize v j = x at hcell hb GS
        unfold NumP at hb hg
        go_wp2_with fail
        refine (iGD gg x _ (by omega) (by omega)).mono ?_
        rintro e w2 ⟨rfl, k, rfl⟩
        go_wp2_with fail
        go_roundw
        case rel => exact ⟨j + 1, n + k, by go_num, by omega, by first | (rw [GS.out]; done) | (rw [GS.out]; simp), by first | rfl | rw [World.drewN_drewN]⟩
        case measure => simp [intOf]; omega
      · obtain rfl : c = j := by omega
        clear hlt
        obtain ⟨b, o, rfl, hcell⟩ := RX.out l n hlc
        obtain ⟨x, hx⟩ : ∃ x, v l = x := ⟨_, rfl⟩
        rw [hx] at hcell S1
        clear hx
        obtain ⟨gg, hgg⟩ : ∃ gg, gcdN c v = gg := ⟨_, rfl⟩
        rw [hgg] at S1 GB
        rw [hgg]
        clear hgg
        have v1 : IntKind.i64.wrap (-gg) = -gg := IntWalk.i64_in _ (by omega)
        have l0 : (0 : Int) ≤ (l : Int) := by omega
        have l2 : (l : Int) < (c : Int) := by omega
        by_cases hneg : x < 0
        · rw [if_pos hneg] at S1
          have n2 : decide (x < 0) = true := decide_eq_true hneg
          go_wp2_with fail
          go_ret
          exact ⟨by rw [S1.out]; rfl, n, rfl⟩
        · rw [if_neg hneg] at S1
          have n2 : decide (x < 0) = false := decide_eq_false hneg
          go_wp2_with fail
          go_ret
          exact ⟨by rw [S1.out]; rfl, n, rfl⟩
end Go.Proofs.Ytpelnfenfeoeeaa
end

section
/-
  Chapter 7, in the program: whether a row alone has something in a column, of the rows from one on.
-/
namespace Go.Proofs.Ytpelnfenfeoeeaa
set_option maxRecDepth 100000
open Go.RowKit

set_option maxHeartbeats 1000000 in
theorem iAloneF (r c N t i l : Nat) (a : Option Addr) (m : Nat) (xs : List Int) (w : World) (h : Rd w a xs) (hx : xs.length = N) (hN : N = r * c) (hr : r ≤ 24) (hc : c ≤ 24) (hl : l < c) (ht : t ≤ r) (b : Bool) (hb : b = true ↔ ∀ k, t ≤ k → k < r → k ≠ i → mxC c xs k l = 0) :
    Calls Try.prog 152 #[.agg #[.int .i64 r, .int .i64 c, .slice a N m], .int .i64 t, .int .i64 i, .int .i64 l] w (Gives (.bool b) w) := by
  have hle : r * c ≤ 24 * 24 := Nat.mul_le_mul hr hc
  rw [← hN] at hle
  have IX : Hid (∀ k, k < r → ∃ P : Nat, k * c + l = P ∧ P < N ∧ IntKind.i64.wrap ((k : Int) * (c : Int)) = (k : Int) * (c : Int) ∧ IntKind.i64.wrap ((k : Int) * (c : Int) + (l : Int)) = (P : Int)) := fun k hk => by
    have h1 : k * c + l < r * c := idx_lt hk hl
    have c1 : (k : Int) * (c : Int) = ((k * c : Nat) : Int) := (Int.natCast_mul _ _).symm
    refine ⟨k * c + l, rfl, by omega, IntWalk.i64_in _ (by rw [c1]; omega), ?_⟩
    rw [show (k : Int) * (c : Int) + (l : Int) = ((k * c + l : Nat) : Int) by rw [c1]; omega]
    exact IntWalk.i64_in _ (by omega)
  have BW : Hid (Below w.heap.size w (w.alloc (.cells #[.int .i64 r, .int .i64 c, .slice a N m] 26))) := (Below.refl _ _).alloc (Nat.le_refl _) _
  have K0 : Hid (Blk3 (w.alloc (.cells #[.int .i64 r, .int .i64 c, .slice a N m] 26)) w.heap.size 26 (.int .i64 r) (.int .i64 c) (.slice a N m)) := Blk3.at_ _ _ _ _ rfl
  have CX : Hid (∀ k P, k < r → k * c + l = P → ∃ b o : Nat, a = some ⟨b, o, none⟩ ∧ (w.alloc (.cells #[.int .i64 r, .int .i64 c, .slice a N m] 26)).cell? ⟨b, o + P, none⟩ = some (.int .i64 (mxC c xs k l))) := fun k P hk hP => by
    subst hP
    exact h.below BW.out _ (by rw [hx, hN]; exact idx_lt hk hl)
  have HB := Lib.hid hb
  clear hN hx h hb
  go_enter Try.func152, Try.ntmps152
  go_wp2_with fail
  generalize w.alloc (.cells #[.int .i64 r, .int .i64 c, .slice a N m] 26) = W at BW K0 CX
  obtain ⟨p0, p1, p2, -, -, -⟩ := K0.out.all
  go_wp2_with fail
  go_loopw [8, 9] (fun _ v9 wq => ∃ k : Nat, v9 = .int .i64 k ∧ t ≤ k ∧ k ≤ r ∧ (∀ p, t ≤ p → p < k → p ≠ i → mxC c xs p l = 0) ∧ wq = W) (fun _ v9 _ => r - (intOf v9).toNat)
  case atStart => exact ⟨t, rfl, Nat.le_refl _, ht, fun p h1 h2 => by omega, rfl⟩
  case round =>
    obtain ⟨k, rfl, htk, hk, hz, rfl⟩ := hrel
    have Z := Lib.hid hz
    clear hz
    by_cases hkr : k < r
    · by_cases hki : k = i
      · have n1 : ((k : Int) != (i : Int)) = false := by simp [hki]
        have Z1 : Hid (∀ p, t ≤ p → p < k + 1 → p ≠ i → mxC c xs p l = 0) := fun p h0 h1 h2 => Z.out p h0 (by omega) h2
        clear hki
        go_wp2_with fail
        go_roundw
        case rel => exact ⟨k + 1, by go_num, by omega, by omega, Z1.out, trivial⟩
        case measure => simp [intOf]; omega
      · have n1 : ((k : Int) != (i : Int)) = true := by simp; omega
        obtain ⟨P, hP, hPN, u1, u2⟩ := IX.out k hkr
        have Pa : (0 : Int) ≤ (P : Int) := by omega
        have Pb : (P : Int) < (N : Int) := by omega
        obtain ⟨g, o, rfl, hcell⟩ := CX.out k P hkr hP
        obtain ⟨x, hxx⟩ : ∃ x, mxC c xs k l = x := ⟨_, rfl⟩
        have X := Lib.hid hxx
        rw [hxx] at hcell
        clear hxx hP
        by_cases h0 : x = 0
        · have n2 : (x != 0) = false := by simp [h0]
          have n3 : (x == 0) = true := by simp [h0]
          have Z1 : Hid (∀ p, t ≤ p → p < k + 1 → p ≠ i → mxC c xs p l = 0) := fun p h4 h1 h2 => by
            rcases Nat.lt_or_ge p k with h3 | h3
            · exact Z.out p h4 h3 h2
            · obtain rfl : p = k := by omega
              rw [X.out, h0]
          clear h0 hki
          go_wp2_with fail
          go_roundw
          case rel => exact ⟨k + 1, by go_num, by omega, by omega, Z1.out, trivial⟩
          case measure => simp [intOf]; omega
        · have n2 : (x != 0) = true := by simpa using h0
          have n3 : (x == 0) = false := by simpa using h0
          have FB : Hid (b = false) := by
            show b = false
            cases b with
            | false => rfl
            | true => exact absurd (HB.out.mp rfl k htk hkr hki) (by rw [X.out]; exact h0)
          clear h0 hki
          go_wp2_with fail
          go_ret
          exact ⟨by rw [FB.out]; rfl, BW.out⟩
    · obtain rfl : r = k := by omega
      clear hkr
      have TB : Hid (b = true) := HB.out.mpr fun p h0 h1 h2 => Z.out p h0 h1 h2
      go_wp2_with fail
      go_ret
      exact ⟨by rw [TB.out]; rfl, BW.out⟩
end Go.Proofs.Ytpelnfenfeoeeaa
end
