/-
  Chapter 7, in the model: a row made primitive.
-/
import Derived.Test.YtpknondccajinaaRowTo
import Derived.Test.YtpknondccajinaaNumGcdS
import Derived.Test.YtpknondccajinaaNumAbs
import Derived.Test.YtpknondccajinaaRow3
import Derived.StillTailTactics
import Derived.Deep.DeepCutAuto
import Derived.IntWalk
namespace Go.Proofs.Ytpknondccajinaa
set_option maxRecDepth 100000
open Go.RowKit

/-- The worlds of the walk: the argument's block, the row's block, nothing else is touched. -/
structure PrSt (w : World) (r c : Nat) (g N cap : Nat) (ys : List Int) (wr : World) : Prop where
  blk : Blk3 wr w.heap.size 26 (.int .i64 r) (.int .i64 c) (.slice (some ⟨g, 0, none⟩) N cap)
  ints : Ints wr g ys
  grw : w.grownBy wr (some g)
theorem PrSt.put {w : World} {r c g N cap : Nat} {ys : List Int} {wr : World} (h : PrSt w r c g N cap ys wr) (hne : w.heap.size ≠ g) (P : Nat) (z : Int) : PrSt w r c g N cap (ys.set P z) (wr.setCell ⟨g, P, none⟩ (.int .i64 z)) := ⟨h.blk.far hne _, h.ints.set P z, grown_set_one h.grw rfl _⟩
theorem PrSt.drewN {w : World} {r c g N cap : Nat} {ys : List Int} {wr : World} (h : PrSt w r c g N cap ys wr) (n : Nat) : PrSt w r c g N cap ys (wr.drewN n) := ⟨h.blk.drewN n, h.ints.drewN n, grown_drewN_one h.grw n⟩
theorem prV_one {c : Nat} {v : Nat → Int} {k : Nat} (h : gcdN c v ≠ 0) : prV c v k = (sgnN c v * v k).tdiv (gcdN c v) := if_neg h
theorem prV_nil {c : Nat} {v : Nat → Int} {k : Nat} (h : gcdN c v = 0) : prV c v k = v k := if_pos h
theorem sgn_step {n : Nat} {f : Nat → Int} : sgnN (n + 1) f = if sgnN n f = 0 ∧ f n ≠ 0 then (if f n < 0 then -1 else 1) else sgnN n f := rfl
set_option maxHeartbeats 2000000 in
theorem sPrim (r c i N g cap : Nat) (xs : List Int) (w : World) (hN : N = r * c) (hx : xs.length = N) (hr : r ≤ 24) (hc : c ≤ 24) (hi : i < r) (nx : nums xs = true) (hg : Ints w g xs) :
    Calls Try.prog 85 #[.agg #[.int .i64 r, .int .i64 c, .slice (some ⟨g, 0, none⟩) N cap], .int .i64 i] w (fun e w' => Void e ∧ Ints w' g (prL r c i xs) ∧ w.grownBy w' (some g)) := by
  have hle : r * c ≤ 24 * 24 := Nat.mul_le_mul hr hc
  rw [← hN] at hle
  have HN := Lib.hid hN
  have HX := Lib.hid hx
  have NX := Lib.hid nx
  have lg := hg.lt
  have ST : Hid (PrSt w r c g N cap xs (w.alloc (.cells #[.int .i64 r, .int .i64 c, .slice (some ⟨g, 0, none⟩) N cap] 26))) := ⟨Blk3.at_ _ _ _ _ rfl, hg.old _, World.grownBy_alloc _ _ _⟩
  have IX : Hid (∀ j, j < c → ∃ P : Nat, i * c + j = P ∧ P < N ∧ IntKind.i64.wrap ((i : Int) * (c : Int)) = (i : Int) * (c : Int) ∧ IntKind.i64.wrap ((i : Int) * (c : Int) + (j : Int)) = (P : Int)) := fun j hj => by
    have h1 : i * c + j < r * c := idx_lt hi hj
    have c1 : (i : Int) * (c : Int) = ((i * c : Nat) : Int) := (Int.natCast_mul _ _).symm
    refine ⟨i * c + j, rfl, by omega, IntWalk.i64_in _ (by rw [c1]; omega), ?_⟩
    rw [show (i : Int) * (c : Int) + (j : Int) = ((i * c + j : Nat) : Int) by rw [c1]; omega]
    exact IntWalk.i64_in _ (by omega)
  obtain ⟨v, hv⟩ : ∃ v, mxC c xs i = v := ⟨_, rfl⟩
  have VN : Hid (∀ j, j < c → NumP (v j)) := fun j hj => by rw [← hv]; exact mx_nums (by rw [hx, hN]) nx hi hj
  have VX : Hid (∀ j P, i * c + j = P → xs.getD P 0 = v j) := fun j P h => by rw [← hv, ← h]; rfl
  have PV : Hid (prL r c i xs = rowTo r c i (prV c v) xs c) := by show _ = _; rw [rowTo_all, prL_row, hv]
  have RZ : Hid (rowTo r c i (prV c v) xs 0 = xs) := rowTo_zero (by rw [hx, hN])
  have PZ : Hid (∀ j, gcdN c v = 0 → rowTo r c i (prV c v) xs j = xs) := fun j h => by
    refine (tab_ext (by rw [hx, hN]) fun p q hp hq => ?_).symm
    by_cases e : p = i ∧ q < j
    · obtain ⟨rfl, hqj⟩ := e
      rw [if_pos ⟨rfl, hqj⟩, prV_nil h, ← hv]; rfl
    · rw [if_neg e]; rfl
  have UN : Hid (∀ j, j < c → NumP (prV c v j)) := fun j hj => prV_num (fun k hk => VN.out k hk) hj
  clear hN hx nx hg hv
  go_enter Try.func85, Try.ntmps85
  go_wp2_with fail
  generalize w.alloc (.cells #[.int .i64 r, .int .i64 c, .slice (some ⟨g, 0, none⟩) N cap] 26) = W at ST ⊢
  go_loopw [4, 5, 6, 7] (fun v4 v5 v6 _ wr => ∃ j : Nat, v6 = .int .i64 j ∧ j ≤ c ∧ v4 = .int .i64 (gcdN j v) ∧ v5 = .int .i64 (sgnN j v) ∧ PrSt w r c g N cap xs wr) (fun _ _ v6 _ _ => c - (intOf v6).toNat)
  case atStart => exact ⟨0, rfl, by omega, rfl, rfl, ST.out⟩
  case round =>
    clear ST
    obtain ⟨j, rfl, hj, rfl, rfl, hst⟩ := hrel
    have ST := Lib.hid hst
    clear hst
    obtain ⟨p0, p1, p2, -, -, -⟩ := ST.out.blk.all
    by_cases hlt : j < c
    · obtain ⟨P, hP, hPN, u1, u2⟩ := IX.out j hlt
      have P0 : (0 : Int) ≤ (P : Int) := by omega
      have P1 : (P : Int) < (N : Int) := by omega
      have hcell := ST.out.ints.cell (i := P) (by rw [HX.out]; exact hPN)
      rw [VX.out j P hP] at hcell
      have hb := VN.out j hlt
      have hgb := gcdN_num (n := j) (f := v) (fun k hk => VN.out k (by omega))
      have GS : Hid (gcdN (j + 1) v = ((gcdN j v).gcd (v j) : Int)) := rfl
      have SS := Lib.hid (sgn_step (n := j) (f := v))
      generalize hs0 : sgnN j v = s at SS
      generalize gcdN j v = gg at hgb GS
      obtain ⟨x, hx⟩ : ∃ x, v j = x := ⟨_, rfl⟩
      rw [hx] at hcell hb GS SS
      unfold NumP at hb hgb
      have GC : Hid (∀ w', Calls Try.prog 54 #[.int .i64 gg, .int .i64 x] w' fun e w2 => e = .returned (.int .i64 (gg.gcd x : Int)) ∧ ∃ n, w2 = w'.drewN n) := fun w' => sGcd gg x w' hgb hb
      clear hP hx hs0
      by_cases h1 : s = 0 ∧ x ≠ 0
      · obtain ⟨rfl, hx0⟩ := h1
        have n1 : (x != 0) = true := by simpa using hx0
        have n2 : (x == 0) = false := by simpa using hx0
        rw [if_pos ⟨rfl, hx0⟩] at SS
        rcases Int.lt_or_lt_of_ne hx0 with hneg | hpos
        · obtain ⟨y, rfl⟩ : ∃ y, x = -y := ⟨-x, by omega⟩
          rw [if_pos hneg] at SS
          have q1 : Int.tdiv (-y) y = -1 := by rw [Int.neg_tdiv, Int.tdiv_self (by omega)]
          have q2 : (y == 0) = false := by simp; omega
          have q3 : IntKind.i64.wrap (-1) = -1 := by decide
          have q4 : ¬ y = 0 := by omega
          clear hx0
          go_wp2_with fail
          refine (sAbs_n y _ (by omega) (by omega)).mono ?_
          rintro e w2 ⟨rfl, rfl⟩
          go_wp2_with fail
          refine (GC.out _).mono ?_
          rintro e w2 ⟨rfl, nq, rfl⟩
          go_wp2_with fail
          go_roundw
          case rel => exact ⟨j + 1, by go_num, by omega, by first | (rw [GS.out]; done) | (rw [GS.out]; simp), by rw [SS.out], by first | exact ST.out.drewN nq | exact (ST.out.drewN 1).drewN nq⟩
          case measure => simp [intOf]; omega
        · rw [if_neg (by omega)] at SS
          have q1 : Int.tdiv x x = 1 := Int.tdiv_self (by omega)
          have q3 : IntKind.i64.wrap 1 = 1 := by decide
          have q4 : ¬ x = 0 := by omega
          clear hx0
          go_wp2_with fail
          refine (sAbs_p x _ (by omega) (by omega)).mono ?_
          rintro e w2 ⟨rfl, rfl⟩
          go_wp2_with fail
          refine (GC.out _).mono ?_
          rintro e w2 ⟨rfl, nq, rfl⟩
          go_wp2_with fail
          go_roundw
          case rel => exact ⟨j + 1, by go_num, by omega, by first | (rw [GS.out]; done) | (rw [GS.out]; simp), by rw [SS.out], by first | exact ST.out.drewN nq | exact (ST.out.drewN 1).drewN nq⟩
          case measure => simp [intOf]; omega
      · rw [if_neg h1] at SS
        rcases Bool.eq_false_or_eq_true (s == 0) with n1 | n1
        · have hs : s = 0 := by simpa using n1
          have hx0 : x = 0 := Classical.byContradiction fun h2 => h1 ⟨hs, h2⟩
          have n2 : (x != 0) = false := by simp [hx0]
          have n3 : (x == 0) = true := by simp [hx0]
          clear hs hx0 h1
          go_wp2_with fail
          refine (GC.out _).mono ?_
          rintro e w2 ⟨rfl, nq, rfl⟩
          go_wp2_with fail
          go_roundw
          case rel => exact ⟨j + 1, by go_num, by omega, by first | (rw [GS.out]; done) | (rw [GS.out]; simp), by rw [SS.out], by first | exact ST.out.drewN nq | exact (ST.out.drewN 1).drewN nq⟩
          case measure => simp [intOf]; omega
        · clear h1
          go_wp2_with fail
          refine (GC.out _).mono ?_
          rintro e w2 ⟨rfl, nq, rfl⟩
          go_wp2_with fail
          go_roundw
          case rel => exact ⟨j + 1, by go_num, by omega, by first | (rw [GS.out]; done) | (rw [GS.out]; simp), by rw [SS.out], by first | exact ST.out.drewN nq | exact (ST.out.drewN 1).drewN nq⟩
          case measure => simp [intOf]; omega
    · obtain rfl : c = j := by omega
      clear hlt
      have SG := sgnN_or c v
      have GB := gcdN_num (n := c) (f := v) (fun k hk => VN.out k hk)
      have G0 := gcdN_nonneg c v
      have PO : Hid (∀ k, gcdN c v ≠ 0 → prV c v k = (sgnN c v * v k).tdiv (gcdN c v)) := fun k h => prV_one h
      have RT : Hid (∀ k, k < c → (rowTo r c i (prV c v) xs k).set (i * c + k) (prV c v k) = rowTo r c i (prV c v) xs (k + 1)) := fun k hk => rowTo_step hi hk
      have RX : Hid (∀ k, k < c → (rowTo r c i (prV c v) xs k).getD (i * c + k) 0 = xs.getD (i * c + k) 0) := fun k hk => rowTo_old hi hk (.inr (Nat.le_refl _))
      have RL : Hid (∀ k, (rowTo r c i (prV c v) xs k).length = N) := fun k => by rw [rowTo_length, HN.out]
      rw [← RZ.out] at ST
      have SX : Hid (xs = rowTo r c i (prV c v) xs 0) := RZ.out.symm
      generalize prV c v = u at PO PV RZ PZ UN RT RX RL ST SX
      generalize sgnN c v = sg at SG PO ⊢
      generalize gcdN c v = gg at GB G0 PO PZ ⊢
      unfold NumP at GB
      obtain ⟨gb1, gb2⟩ := GB
      go_wp2_with fail
      clear p0 p1 p2
      go_loopw [8] (fun v8 wr => ∃ j : Nat, v8 = .int .i64 j ∧ j ≤ c ∧ PrSt w r c g N cap (rowTo r c i u xs j) wr) (fun v8 _ => c - (intOf v8).toNat)
      case atStart => exact ⟨0, rfl, by omega, ST.out⟩
      case round =>
        clear ST
        obtain ⟨j, rfl, hj, hst⟩ := hrel
        have ST := Lib.hid hst
        clear hst
        obtain ⟨p0, p1, p2, -, -, -⟩ := ST.out.blk.all
        by_cases hlt : j < c
        · by_cases hg0 : 0 < gg
          · obtain ⟨P, hP, hPN, u1, u2⟩ := IX.out j hlt
            have P0 : (0 : Int) ≤ (P : Int) := by omega
            have P1 : (P : Int) < (N : Int) := by omega
            have hcell := ST.out.ints.cell (i := P) (by rw [RL.out]; exact hPN)
            have hfr := ST.out.ints.free P
            rw [← hP, RX.out j hlt, VX.out j _ rfl, hP] at hcell
            have hb := VN.out j hlt
            have ho := UN.out j hlt
            rw [PO.out j (by omega)] at ho
            have RS := Lib.hid (RT.out j hlt)
            rw [PO.out j (by omega), hP] at RS
            obtain ⟨x, hx⟩ : ∃ x, v j = x := ⟨_, rfl⟩
            rw [hx] at hcell hb ho RS
            have hy : NumP (sg * x) := by
              unfold NumP at hb ⊢
              rcases SG with rfl | rfl | rfl <;> omega
            unfold NumP at hb hy ho
            have z1 : IntKind.i64.wrap (sg * x) = sg * x := IntWalk.i64_in _ (by omega)
            have z2 : IntKind.i64.wrap ((sg * x).tdiv gg) = (sg * x).tdiv gg := IntWalk.i64_in _ (by omega)
            have z3 : (gg == 0) = false := by simp; omega
            have z4 : ¬ gg = 0 := by omega
            clear hx hP
            go_wp2_with fail
            go_still_tail 23, (by kernel_rfl)
            go_wp2_with fail
            go_roundw
            case rel =>
              refine ⟨j + 1, by go_num, by omega, ?_⟩
              rw [← RS.out]
              first | exact ST.out.put (by omega) P _ | exact (ST.out.drewN 1).put (by omega) P _
            case measure => simp [intOf]; omega
          · have hg1 : gg = 0 := by omega
            have EQ : Hid (prL r c i xs = rowTo r c i u xs j) := by show _ = _; rw [PV.out, PZ.out c hg1, PZ.out j hg1]
            go_wp2_with fail
            go_end0
            exact ⟨rfl, by rw [EQ.out]; exact ST.out.ints, ST.out.grw⟩
        · obtain rfl : c = j := by omega
          clear hlt
          go_wp2_with fail
          go_end0
          exact ⟨rfl, by rw [PV.out]; exact ST.out.ints, ST.out.grw⟩
end Go.Proofs.Ytpknondccajinaa
