/-
  Chapter 3, in the model: TransposeOf.
-/
import Derived.Test.YtpladgojeijihaaMatS4
import Derived.IntWalk
namespace Go.Proofs.Ytpladgojeijihaa
open Go.RowKit

def turnL (R C : Nat) (xs : List Int) : List Int := tab C R fun j i => xs.getD (i * C + j) 0
/-- What is turned over so far: rows below i, and of row i the columns below j. -/
def Turned (R C : Nat) (xs : List Int) (i j : Nat) (zs : List Int) : Prop :=
  zs.length = C * R ∧ (∀ i' j' : Nat, i' < i → j' < C → zs.getD (j' * R + i') 0 = xs.getD (i' * C + j') 0) ∧ (∀ j' : Nat, j' < j → zs.getD (j' * R + i) 0 = xs.getD (i * C + j') 0)
theorem Turned.start (R C : Nat) (xs : List Int) : Turned R C xs 0 0 (List.replicate (C * R) 0) := ⟨by simp, fun _ _ h => absurd h (by omega), fun _ h => absurd h (by omega)⟩
theorem Turned.step {R C : Nat} {xs zs : List Int} {i j : Nat} (h : Turned R C xs i j zs) (hi : i < R) (hj : j < C) : Turned R C xs i (j + 1) (zs.set (j * R + i) (xs.getD (i * C + j) 0)) := by
  obtain ⟨hl, h1, h2⟩ := h
  have hb : j * R + i < zs.length := by rw [hl]; exact idx_lt hj hi
  refine ⟨by rw [List.length_set]; exact hl, fun i' j' hi' hj' => ?_, fun j' hj' => ?_⟩
  · rw [getD_set _ _ _ _ hb, if_neg (fun e => by have := (idx_inj (by omega) hi e).2; omega)]
    exact h1 i' j' hi' hj'
  · rw [getD_set _ _ _ _ hb]
    by_cases e : j' = j
    · subst e; rw [if_pos rfl]
    · rw [if_neg (fun h => e (idx_inj hi hi h).1)]
      exact h2 j' (by omega)
theorem Turned.row {R C : Nat} {xs zs : List Int} {i : Nat} (h : Turned R C xs i C zs) : Turned R C xs (i + 1) 0 zs := by
  obtain ⟨hl, h1, h2⟩ := h
  refine ⟨hl, fun i' j' hi' hj' => ?_, fun _ h => absurd h (by omega)⟩
  by_cases e : i' = i
  · subst e; exact h2 j' hj'
  · exact h1 i' j' (by omega) hj'
theorem Turned.whole {R C : Nat} {xs zs : List Int} (h : Turned R C xs R 0 zs) : zs = turnL R C xs := by
  obtain ⟨hl, h1, _⟩ := h
  exact tab_ext hl fun j i hj hi => h1 i j hi hj

set_option maxHeartbeats 2000000 in
theorem sTurn (R C : Nat) (a : Option Addr) (m : Nat) (xs : List Int) (w : World) (h : Rd w a xs) (hR : R ≤ 24) (hC : C ≤ 24) (hx : xs.length = R * C) :
    Calls Try.prog 71 #[.agg #[.int .i64 R, .int .i64 C, .slice a xs.length m]] w (NewMat C R (turnL R C xs) w) := by
  have hle : C * R ≤ 24 * 24 := Nat.mul_le_mul hC hR
  have B0 : ∀ o1 o2, Below w.heap.size w ((w.alloc o1).alloc o2) := fun o1 o2 => ((Below.refl _ _).alloc (Nat.le_refl _) _).alloc (by simp) _
  have BH := Lib.hid B0
  have H := Lib.hid h
  obtain ⟨N, hN⟩ : ∃ N, R * C = N := ⟨_, rfl⟩
  obtain ⟨N2, hN2⟩ : ∃ N2, C * R = N2 := ⟨_, rfl⟩
  have hle1 : N ≤ 24 * 24 := by rw [← hN]; exact Nat.mul_le_mul hR hC
  rw [hN] at hx
  rw [hN2] at hle
  have HX := Lib.hid hx
  have HN := Lib.hid hN
  have HN2 := Lib.hid hN2
  rw [hx]
  clear B0 h hx hN hN2
  go_enter Try.func71, Try.ntmps71
  go_wp2_with fail
  refine (sNew C R _ (by omega) (by omega)).mono ?_
  rintro e w1 ⟨g, rfl, hg, hi, hb⟩
  rw [HN2.out] at hi ⊢
  simp only [List.length_replicate]
  have K0 : Hid (Blk3 w1 w.heap.size 26 (.int .i64 R) (.int .i64 C) (.slice a N m)) := ((Blk3.at_ _ _ _ _ rfl).old _).keep hb (by simp <;> omega)
  have K1 : Hid (Blk3 w1 (w.heap.size + 1) 26 (.int .i64 0) (.int .i64 0) (.slice none 0 0)) := (Blk3.at_ _ _ _ _ (by simp)).keep hb (by simp)
  have B : Hid (Below w.heap.size w w1) := (BH.out _ _).trans (hb.mono (by simp <;> omega))
  have l1 : w.heap.size + 1 < g := by simp at hg; omega
  have gl := hi.lt
  have I := Lib.hid (hi.old (.cells #[.int .i64 C, .int .i64 R, .slice (some ⟨g, 0, none⟩) N2 N2] 26))
  have BA : Hid (Below w.heap.size w (w1.alloc (.cells #[.int .i64 C, .int .i64 R, .slice (some ⟨g, 0, none⟩) N2 N2] 26))) := B.out.alloc B.out.size _
  have K0 := Lib.hid (K0.out.old (.cells #[.int .i64 C, .int .i64 R, .slice (some ⟨g, 0, none⟩) N2 N2] 26))
  have K1 := Lib.hid (K1.out.old (.cells #[.int .i64 C, .int .i64 R, .slice (some ⟨g, 0, none⟩) N2 N2] 26))
  have K3 : Hid (Blk3 (w1.alloc (.cells #[.int .i64 C, .int .i64 R, .slice (some ⟨g, 0, none⟩) N2 N2] 26)) w1.heap.size 26 (.int .i64 C) (.int .i64 R) (.slice (some ⟨g, 0, none⟩) N2 N2)) := Blk3.at_ _ _ _ _ rfl
  clear hb hi hg
  go_wp2_with fail
  go_loopw [4] (fun i wr => ∃ (k : Nat) (zs : List Int), i = .int .i64 k ∧ k ≤ R ∧ Turned R C xs k 0 zs ∧ Ints wr g zs ∧ (w1.alloc (.cells #[.int .i64 C, .int .i64 R, .slice (some ⟨g, 0, none⟩) N2 N2] 26)).grownBy wr (some g)) (fun i _ => R - (intOf i).toNat)
  case atStart => exact ⟨0, _, rfl, by omega, by have := Turned.start R C xs; rw [HN2.out] at this; exact this, I.out, World.grownBy.refl _ _⟩
  case round =>
    obtain ⟨k, zs, rfl, hk, ht, hi, hgr⟩ := hrel
    have T := Lib.hid ht
    have I := Lib.hid hi
    have G := Lib.hid hgr
    clear ht hi hgr
    have R0 := Lib.hid (K0.out.keepOne G.out (by omega))
    have R1 := Lib.hid (K1.out.keepOne G.out (by omega))
    have R3 := Lib.hid (K3.out.keepOne G.out (by omega))
    obtain ⟨p0, p1, p2, -, -, -⟩ := R0.out.all
    obtain ⟨r0, r1, r2, -, -, -⟩ := R3.out.all
    by_cases hlt : k < R
    · go_wp2_with fail
      go_loopw [5] (fun j wq => ∃ (q : Nat) (ys : List Int), j = .int .i64 q ∧ q ≤ C ∧ Turned R C xs k q ys ∧ Ints wq g ys ∧ (w1.alloc (.cells #[.int .i64 C, .int .i64 R, .slice (some ⟨g, 0, none⟩) N2 N2] 26)).grownBy wq (some g)) (fun j _ => C - (intOf j).toNat)
      case atStart => exact ⟨0, zs, rfl, by omega, T.out, I.out, G.out⟩
      case round =>
        obtain ⟨q, ys, rfl, hq, ht, hi, hgr⟩ := hrel
        have T' := Lib.hid ht
        have I' := Lib.hid hi
        have G' := Lib.hid hgr
        clear ht hi hgr p0 p1 p2 r0 r1 r2
        have S0 := Lib.hid (K0.out.keepOne G'.out (by omega))
        have S3 := Lib.hid (K3.out.keepOne G'.out (by omega))
        obtain ⟨p0, p1, p2, -, -, -⟩ := S0.out.all
        obtain ⟨r0, r1, r2, -, -, -⟩ := S3.out.all
        by_cases hlq : q < C
        · have i1 : k * C + q < N := by rw [← HN.out]; exact idx_lt hlt hlq
          have i2 : q * R + k < N2 := by rw [← HN2.out]; exact idx_lt hlq hlt
          obtain ⟨x, hx⟩ : ∃ x, xs.getD (k * C + q) 0 = x := ⟨_, rfl⟩
          obtain ⟨b1, o1, rfl, hc1⟩ := H.out (k * C + q) (by rw [HX.out]; exact i1)
          have u1 := World.block_lt_of_cell? w _ hc1
          have hc1 := G'.out.cell ((BA.out.cell (p := ⟨b1, o1 + (k * C + q), none⟩) u1).trans hc1) (by simp; simp at u1; omega)
          rw [hx] at hc1
          have hold := I'.out.cell (i := q * R + k) (by rw [T'.out.1, HN2.out]; exact i2)
          have hfr := I'.out.free (q * R + k)
          have XX := Lib.hid hx
          have c1 : (k : Int) * (C : Int) = ((k * C : Nat) : Int) := (Int.natCast_mul _ _).symm
          have c2 : (q : Int) * (R : Int) = ((q * R : Nat) : Int) := (Int.natCast_mul _ _).symm
          have d1 : 0 ≤ (k : Int) * (C : Int) ∧ (k : Int) * (C : Int) ≤ 600 := by rw [c1]; omega
          have d2 : 0 ≤ (q : Int) * (R : Int) ∧ (q : Int) * (R : Int) ≤ 600 := by rw [c2]; omega
          have e1 : 0 ≤ (k : Int) * (C : Int) + (q : Int) := by omega
          have e2 : (k : Int) * (C : Int) + (q : Int) < (N : Int) := by rw [c1]; omega
          have e3 : ((k : Int) * (C : Int) + (q : Int)).toNat = k * C + q := by rw [c1]; omega
          have e4 : 0 ≤ (q : Int) * (R : Int) + (k : Int) := by omega
          have e5 : (q : Int) * (R : Int) + (k : Int) < (N2 : Int) := by rw [c2]; omega
          have e6 : ((q : Int) * (R : Int) + (k : Int)).toNat = q * R + k := by rw [c2]; omega
          obtain ⟨d11, d12⟩ := d1
          obtain ⟨d21, d22⟩ := d2
          have v1 : IntKind.i64.wrap ((k : Int) * (C : Int)) = (k : Int) * (C : Int) := IntWalk.i64_in _ (by omega)
          have v2 : IntKind.i64.wrap ((k : Int) * (C : Int) + (q : Int)) = (k : Int) * (C : Int) + (q : Int) := IntWalk.i64_in _ (by omega)
          have v3 : IntKind.i64.wrap ((q : Int) * (R : Int)) = (q : Int) * (R : Int) := IntWalk.i64_in _ (by omega)
          have v4 : IntKind.i64.wrap ((q : Int) * (R : Int) + (k : Int)) = (q : Int) * (R : Int) + (k : Int) := IntWalk.i64_in _ (by omega)
          clear hx u1 c1 c2
          go_wp2_with fail
          go_still_tail 19, (by kernel_rfl)
          go_wp2_with fail
          go_roundw
          case rel =>
            refine ⟨q + 1, _, by go_num, by omega, T'.out.step hlt hlq, ?_, grown_drew_one (grown_set_one G'.out rfl _)⟩
            rw [XX.out]
            exact (I'.out.set (q * R + k) x).drew
          case measure => simp [intOf]; omega
        · have hqn : q = C := by omega
          subst hqn
          go_wp2_with fail
          go_roundw
          case rel => exact ⟨k + 1, ys, by go_num, by omega, T'.out.row, I'.out, G'.out⟩
          case measure => simp [intOf]; omega
    · have hkn : k = R := by omega
      subst hkn
      have hz := T.out.whole
      subst hz
      have hl : (turnL k C xs).length = N2 := by rw [← HN2.out]; exact tab_length _ _ _
      have HL := Lib.hid hl
      have B := Lib.hid (BA.out.trans (below_of_one G.out (by omega) BA.out.size))
      clear hl
      obtain ⟨s0, s1, s2, t0, t1, t2⟩ := R1.out.all
      go_wp2_with fail
      obtain ⟨E0, E1, E2, -, -, -⟩ := (((R1.out.set0 (.int .i64 C)).set1 (.int .i64 k)).set2 (.slice (some ⟨g, 0, none⟩) N2 N2)).all
      refine bodyPost_ret (v := .agg #[.int .i64 C, .int .i64 k, .slice (some ⟨g, 0, none⟩) N2 N2]) (by simp [results, Try.results71, go_sem, E0, E1, E2]) rfl ⟨g, by rw [HL.out], by omega, ?_, ?_⟩
      · exact ((I.out.far (by show g ≠ w.heap.size + 1; omega) _).far (by show g ≠ w.heap.size + 1; omega) _).far (by show g ≠ w.heap.size + 1; omega) _
      · exact ((B.out.setCell (Nat.le_succ _) _).setCell (Nat.le_succ _) _).setCell (Nat.le_succ _) _
end Go.Proofs.Ytpladgojeijihaa
