/-
  Chapter 7, in the model: IsEchelon.
-/
import Derived.Test.YtpknondccajinaaEchB
import Derived.Test.YtpknondccajinaaEchT
namespace Go.Proofs.Ytpknondccajinaa
set_option maxRecDepth 100000
open Go.RowKit

def echIs (r c : Int) (xs : List Int) : Bool := isMat r c xs && (match echM r.toNat c.toNat xs with | some (ys, _) => decide (ys = xs) | none => false)
structure IsSt (w : World) (r c : Nat) (a : Option Addr) (N m : Nat) (xs : List Int) (wr : World) : Prop where
  blk : Blk3 wr w.heap.size 26 (.int .i64 r) (.int .i64 c) (.slice a N m)
  rd : Rd wr a xs
  bel : Below w.heap.size w wr
theorem IsSt.drewN {w : World} {r c : Nat} {a : Option Addr} {N m : Nat} {xs : List Int} {wr : World} (h : IsSt w r c a N m xs wr) (n : Nat) : IsSt w r c a N m xs (wr.drewN n) := ⟨h.blk.drewN n, h.rd.drewN n, below_drewN h.bel n⟩
theorem IsSt.step {w : World} {r c : Nat} {a : Option Addr} {N m : Nat} {xs : List Int} {wr w' : World} (h : IsSt w r c a N m xs wr) (hb : Below wr.heap.size wr w') : IsSt w r c a N m xs w' := ⟨h.blk.step hb, h.rd.below hb, h.bel.trans (hb.mono h.bel.size)⟩
theorem EchB_step {r c k i : Nat} {xs : List Int} {last : Int} : EchB r c xs (k + 1) i last ↔ (¬ rowBad c xs i last ∧ ¬ colBad r c xs i ∧ EchB r c xs k (i + 1) (leadC c (mxC c xs i))) := Iff.rfl
set_option maxHeartbeats 4000000 in
theorem sIsEch_t (r c N : Nat) (a : Option Addr) (m : Nat) (xs : List Int) (w : World) (h : Rd w a xs) (hx : xs.length = N) (hN : N = r * c) (hr : r ≤ 24) (hc : c ≤ 24) (nx : nums xs = true) (hm : isMat r c xs = true) (PB : Bool) (hPB : EchB r c xs r 0 (-1) ↔ PB = true) :
    Calls Try.prog 18 #[.agg #[.int .i64 r, .int .i64 c, .slice a N m]] w (Gives (.bool PB) w) := by
  have hle : r * c ≤ 24 * 24 := Nat.mul_le_mul hr hc
  rw [← hN] at hle
  have IM : Hid (∀ w', Rd w' a xs → Calls Try.prog 44 #[.agg #[.int .i64 r, .int .i64 c, .slice a N m]] w' (Gives (.bool true) w')) := fun w' h' => by
    have := sIsMat r c a m xs w' h' (by omega)
    rw [hx, hm] at this
    exact this
  have IX : Hid (∀ i j, i < r → j < c → ∃ P : Nat, i * c + j = P ∧ P < N ∧ IntKind.i64.wrap ((i : Int) * (c : Int)) = (i : Int) * (c : Int) ∧ IntKind.i64.wrap ((i : Int) * (c : Int) + (j : Int)) = (P : Int)) := fun i j hi hj => by
    have h1 : i * c + j < r * c := idx_lt hi hj
    have c1 : (i : Int) * (c : Int) = ((i * c : Nat) : Int) := (Int.natCast_mul _ _).symm
    refine ⟨i * c + j, rfl, by omega, IntWalk.i64_in _ (by rw [c1]; omega), ?_⟩
    rw [show (i : Int) * (c : Int) + (j : Int) = ((i * c + j : Nat) : Int) by rw [c1]; omega]
    exact IntWalk.i64_in _ (by omega)
  have CX : Hid (∀ i j wr, i < r → j < c → Rd wr a xs → ∀ P, i * c + j = P → ∃ b o : Nat, a = some ⟨b, o, none⟩ ∧ wr.cell? ⟨b, o + P, none⟩ = some (.int .i64 (mxC c xs i j))) := fun i j wr hi hj hrd P hP => by
    subst hP
    exact hrd _ (by rw [hx, hN]; exact idx_lt hi hj)
  have VN : Hid (∀ i j, i < r → j < c → NumP (mxC c xs i j)) := fun i j hi hj => mx_nums (by rw [hx, hN]) nx hi hj
  have ST : Hid (IsSt w r c a N m xs (w.alloc (.cells #[.int .i64 r, .int .i64 c, .slice a N m] 26))) := ⟨Blk3.at_ _ _ _ _ rfl, h.below ((Below.refl _ _).alloc (Nat.le_refl _) _), (Below.refl _ _).alloc (Nat.le_refl _) _⟩
  have HB := Lib.hid hPB
  clear hN hx nx hm h hPB
  go_enter Try.func18, Try.ntmps18
  go_wp2_with fail
  generalize w.alloc (.cells #[.int .i64 r, .int .i64 c, .slice a N m] 26) = W at ST ⊢
  go_loopw [2, 3, 4, 5, 6, 7, 8] (fun _ v3 v4 _ _ _ _ wr => ∃ (i k : Nat) (last : Int), v3 = .int .i64 last ∧ v4 = .int .i64 i ∧ i + k = r ∧ (EchB r c xs k i last ↔ PB = true) ∧ IsSt w r c a N m xs wr) (fun _ _ v4 _ _ _ _ _ => r - (intOf v4).toNat)
  case atStart => exact ⟨0, r, -1, rfl, rfl, by omega, HB.out, ST.out⟩
  case round =>
    clear ST HB
    obtain ⟨i, k, last, rfl, rfl, hik, hB, hst⟩ := hrel
    have ST := Lib.hid hst
    have HB := Lib.hid hB
    clear hst hB
    obtain ⟨p0, p1, p2, -, -, -⟩ := ST.out.blk.all
    by_cases hir : i < r
    · obtain ⟨k, rfl⟩ : ∃ k', k = k' + 1 := ⟨k - 1, by omega⟩
      have HB := Lib.hid (EchB_step.symm.trans HB.out)
      go_wp2_with fail
      refine (IM.out _ ST.out.rd).mono ?_
      rintro e w1 ⟨rfl, hb⟩
      have ST := Lib.hid (ST.out.step hb)
      clear hb p0 p1 p2
      obtain ⟨p0, p1, p2, -, -, -⟩ := ST.out.blk.all
      go_wp2_with fail
      clear p0 p1 p2
      go_loopw [5] (fun v5 wq => ∃ p : Nat, v5 = .int .i64 p ∧ p ≤ c ∧ (∀ q, q < p → mxC c xs i q = 0) ∧ IsSt w r c a N m xs wq) (fun v5 _ => c - (intOf v5).toNat)
      case atStart => exact ⟨0, rfl, by omega, fun q hq => by omega, ST.out⟩
      case round =>
        clear ST
        obtain ⟨p, rfl, hp, hz, hst⟩ := hrel
        have ST := Lib.hid hst
        have HZ := Lib.hid hz
        clear hst hz
        obtain ⟨p0, p1, p2, -, -, -⟩ := ST.out.blk.all
        by_cases hh : p < c ∧ mxC c xs i p = 0
        · obtain ⟨hpc, hx0⟩ := hh
          obtain ⟨P, hP, hPN, u1, u2⟩ := IX.out i p hir hpc
          have Pa : (0 : Int) ≤ (P : Int) := by omega
          have Pb : (P : Int) < (N : Int) := by omega
          obtain ⟨bb, oo, hba, hcell⟩ := CX.out i p _ hir hpc ST.out.rd P hP
          subst hba
          rw [hx0] at hcell
          have HZ2 : Hid (∀ q, q < p + 1 → mxC c xs i q = 0) := fun q hq => by
            rcases Nat.lt_or_ge q p with h3 | h3
            · exact HZ.out q h3
            · obtain rfl : q = p := by omega
              exact hx0
          clear hx0 hP
          go_wp2_with fail
          go_roundw
          case rel => exact ⟨p + 1, by go_num, by omega, HZ2.out, by first | exact ST.out | exact ST.out.drewN _⟩
          case measure => simp [intOf]; omega
        · have LC : Hid (leadC c (mxC c xs i) = p) := leadF_eq (Nat.zero_le _) (by omega) (fun q _ hq => HZ.out q hq) (fun h1 e => hh ⟨by omega, e⟩)
          by_cases hpc : p < c
          · obtain ⟨x, hx⟩ : ∃ x, mxC c xs i p = x := ⟨_, rfl⟩
            have X := Lib.hid hx
            have hx0 : ¬ x = 0 := fun e => hh ⟨hpc, by rw [hx, e]⟩
            have n1 : (x == 0) = false := by simpa using hx0
            obtain ⟨P, hP, hPN, u1, u2⟩ := IX.out i p hir hpc
            have Pa : (0 : Int) ≤ (P : Int) := by omega
            have Pb : (P : Int) < (N : Int) := by omega
            obtain ⟨bb, oo, hba, hcell⟩ := CX.out i p _ hir hpc ST.out.rd P hP
            subst hba
            rw [hx] at hcell
            clear hx hP hh
            go_wp2_with fail
            clear p0 p1 p2 hcell u1 u2 Pa Pb hPN
            go_loopw [6, 7] (fun v6 v7 wg => ∃ j : Nat, v7 = .int .i64 j ∧ j ≤ c ∧ v6 = .int .i64 (gcdN j (mxC c xs i)) ∧ IsSt w r c (some ⟨bb, oo, none⟩) N m xs wg) (fun _ v7 _ => c - (intOf v7).toNat)
            case atStart => exact ⟨0, rfl, by omega, rfl, by first | exact ST.out | exact ST.out.drewN _⟩
            case round =>
              clear ST
              obtain ⟨j, rfl, hj, rfl, hst⟩ := hrel
              have ST := Lib.hid hst
              clear hst
              obtain ⟨p0, p1, p2, -, -, -⟩ := ST.out.blk.all
              by_cases hjc : j < c
              · obtain ⟨P, hP, hPN, u1, u2⟩ := IX.out i j hir hjc
                have Pa : (0 : Int) ≤ (P : Int) := by omega
                have Pb : (P : Int) < (N : Int) := by omega
                obtain ⟨bb, oo, hba, hcell⟩ := CX.out i j _ hir hjc ST.out.rd P hP
                cases hba
                have hb := VN.out i j hir hjc
                have hg := gcdN_num (n := j) (f := mxC c xs i) (fun q hq => VN.out i q hir (by omega))
                have GS : Hid (gcdN (j + 1) (mxC c xs i) = ((gcdN j (mxC c xs i)).gcd (mxC c xs i j) : Int)) := rfl
                generalize gcdN j (mxC c xs i) = gg at hg GS
                generalize mxC c xs i j = x at hcell hb GS
                clear hP
                go_wp2_with fail
                refine (sGcd gg x _ hg hb).mono ?_
                rintro e w2 ⟨rfl, nq, rfl⟩
                go_wp2_with fail
                go_roundw
                case rel => exact ⟨j + 1, by go_num, by omega, by first | (rw [GS.out]; done) | (rw [GS.out]; simp), ST.out.drewN nq⟩
                case measure => simp [intOf]; omega
              · obtain rfl : c = j := by omega
                clear hjc
                obtain ⟨P, hP, hPN, u1, u2⟩ := IX.out i p hir hpc
                have Pa : (0 : Int) ≤ (P : Int) := by omega
                have Pb : (P : Int) < (N : Int) := by omega
                obtain ⟨bc, oc, hbc, hcell⟩ := CX.out i p _ hir hpc ST.out.rd P hP
                cases hbc
                rw [X.out] at hcell
                have GG : Hid (gcdN c (mxC c xs i) = gcdN c (mxC c xs i)) := rfl
                clear hP
                by_cases h1 : last = (c : Int)
                · have m1 : (last == (c : Int)) = true := by simp [h1]
                  have PN : Hid (PB = false) := Bool.eq_false_iff.mpr (fun e => (HB.out.mpr e).1 ⟨by rw [LC.out]; exact hpc, .inl h1⟩)
                  clear h1
                  go_wp2_with fail
                  exact bodyPost_ret (v := .bool false) (by simp [results, Try.results18, go_sem]) rfl ⟨by rw [PN.out], by first | exact ST.out.bel | exact below_drewN ST.out.bel _⟩
                · have m1 : (last == (c : Int)) = false := by simpa using h1
                  by_cases h2 : (p : Int) ≤ last
                  · have m2 : decide ((p : Int) ≤ last) = true := by simpa using h2
                    have PN : Hid (PB = false) := Bool.eq_false_iff.mpr (fun e => (HB.out.mpr e).1 ⟨by rw [LC.out]; exact hpc, .inr (.inl (by rw [LC.out]; exact h2))⟩)
                    clear h1
                    go_wp2_with fail
                    exact bodyPost_ret (v := .bool false) (by simp [results, Try.results18, go_sem]) rfl ⟨by rw [PN.out], by first | exact ST.out.bel | exact below_drewN ST.out.bel _⟩
                  · have m2 : decide ((p : Int) ≤ last) = false := by simpa using h2
                    by_cases h3 : x < 0
                    · have m3 : decide (x < 0) = true := by simpa using h3
                      have PN : Hid (PB = false) := Bool.eq_false_iff.mpr (fun e => (HB.out.mpr e).1 ⟨by rw [LC.out]; exact hpc, .inr (.inr (.inl (by rw [LC.out, X.out]; exact h3)))⟩)
                      clear h1
                      go_wp2_with fail
                      exact bodyPost_ret (v := .bool false) (by simp [results, Try.results18, go_sem]) rfl ⟨by rw [PN.out], by first | exact ST.out.bel | exact below_drewN ST.out.bel _⟩
                    · have m3 : decide (x < 0) = false := by simpa using h3
                      by_cases h4 : gcdN c (mxC c xs i) = 1
                      · have m4 : (gcdN c (mxC c xs i) != 1) = false := by simp [h4]
                        have GR : Hid (¬ rowBad c xs i last) := fun ⟨_, h⟩ => by
                          rw [LC.out, X.out] at h
                          rcases h with h | h | h | h
                          · exact h1 h
                          · exact h2 h
                          · exact h3 h
                          · exact h h4
                        clear h1 h2 h3 h4
                        go_wp2_with fail
                        clear p0 p1 p2 hcell
                        go_loopw [2, 8] (fun _ v8 wk => ∃ k2 : Nat, v8 = .int .i64 k2 ∧ k2 ≤ r ∧ (∀ q, q < k2 → q ≠ i → mxC c xs q p = 0) ∧ IsSt w r c (some ⟨bb, oo, none⟩) N m xs wk) (fun _ v8 _ => r - (intOf v8).toNat)
                        case atStart => exact ⟨0, rfl, by omega, fun q hq => by omega, by first | exact ST.out | exact ST.out.drewN _⟩
                        case round =>
                          clear ST
                          obtain ⟨k2, rfl, hk2, hk0, hst⟩ := hrel
                          have ST := Lib.hid hst
                          have K0 := Lib.hid hk0
                          clear hst hk0
                          obtain ⟨p0, p1, p2, -, -, -⟩ := ST.out.blk.all
                          by_cases hkr : k2 < r
                          · obtain ⟨Q, hQ, hQN, y1, y2⟩ := IX.out k2 p hkr hpc
                            have Qa : (0 : Int) ≤ (Q : Int) := by omega
                            have Qb : (Q : Int) < (N : Int) := by omega
                            obtain ⟨bq, oq, hbq, hcell⟩ := CX.out k2 p _ hkr hpc ST.out.rd Q hQ
                            cases hbq
                            by_cases hki : k2 = i
                            · have n5 : ((k2 : Int) != (i : Int)) = false := by simp [hki]
                              have K1 : Hid (∀ q, q < k2 + 1 → q ≠ i → mxC c xs q p = 0) := fun q hq hqi => K0.out q (by omega) hqi
                              clear hki hQ hcell
                              go_wp2_with fail
                              go_roundw
                              case rel => exact ⟨k2 + 1, by go_num, by omega, K1.out, by first | exact ST.out | exact ST.out.drewN _⟩
                              case measure => simp [intOf]; omega
                            · have n5 : ((k2 : Int) != (i : Int)) = true := by simp; omega
                              obtain ⟨y, hy⟩ : ∃ y, mxC c xs k2 p = y := ⟨_, rfl⟩
                              rw [hy] at hcell
                              by_cases hy0 : y = 0
                              · have n6 : (y != 0) = false := by simp [hy0]
                                have K1 : Hid (∀ q, q < k2 + 1 → q ≠ i → mxC c xs q p = 0) := fun q hq hqi => by
                                  rcases Nat.lt_or_ge q k2 with h3 | h3
                                  · exact K0.out q h3 hqi
                                  · obtain rfl : q = k2 := by omega
                                    rw [hy, hy0]
                                clear hy hy0 hQ hki
                                go_wp2_with fail
                                go_roundw
                                case rel => exact ⟨k2 + 1, by go_num, by omega, K1.out, by first | exact ST.out | exact ST.out.drewN _⟩
                                case measure => simp [intOf]; omega
                              · have n6 : (y != 0) = true := by simpa using hy0
                                have PN : Hid (PB = false) := Bool.eq_false_iff.mpr (fun e => (HB.out.mpr e).2.1 ⟨by rw [LC.out]; exact hpc, k2, hkr, hki, by rw [LC.out, hy]; exact hy0⟩)
                                clear hy hy0 hQ hki
                                go_wp2_with fail
                                exact bodyPost_ret (v := .bool false) (by simp [results, Try.results18, go_sem]) rfl ⟨by rw [PN.out], by first | exact ST.out.bel | exact below_drewN ST.out.bel _⟩
                          · obtain rfl : r = k2 := by omega
                            have NC : Hid (¬ colBad r c xs i) := fun ⟨_, q, hq, hqi, h⟩ => h (by rw [LC.out]; exact K0.out q hq hqi)
                            have HN2 : Hid (EchB r c xs k (i + 1) (p : Int) ↔ PB = true) := by
                              have h := HB.out
                              rw [LC.out] at h
                              exact ⟨fun h1 => h.mp ⟨GR.out, NC.out, h1⟩, fun e => (h.mpr e).2.2⟩
                            clear hkr
                            go_wp2_with fail
                            go_roundw
                            case rel => exact ⟨i + 1, k, (p : Int), rfl, by go_num, by omega, HN2.out, by first | exact ST.out | exact ST.out.drewN _⟩
                            case measure => simp [intOf]; omega
                      · have m4 : (gcdN c (mxC c xs i) != 1) = true := by simpa using h4
                        have PN : Hid (PB = false) := Bool.eq_false_iff.mpr (fun e => (HB.out.mpr e).1 ⟨by rw [LC.out]; exact hpc, .inr (.inr (.inr h4))⟩)
                        clear h1 h4
                        go_wp2_with fail
                        exact bodyPost_ret (v := .bool false) (by simp [results, Try.results18, go_sem]) rfl ⟨by rw [PN.out], by first | exact ST.out.bel | exact below_drewN ST.out.bel _⟩
          · obtain rfl : c = p := by omega
            clear hh hpc
            go_wp2_with fail
            clear p0 p1 p2
            go_loopw [6, 7] (fun v6 v7 wg => ∃ j : Nat, v7 = .int .i64 j ∧ j ≤ c ∧ v6 = .int .i64 (gcdN j (mxC c xs i)) ∧ IsSt w r c a N m xs wg) (fun _ v7 _ => c - (intOf v7).toNat)
            case atStart => exact ⟨0, rfl, by omega, rfl, by first | exact ST.out | exact ST.out.drewN _⟩
            case round =>
              clear ST
              obtain ⟨j, rfl, hj, rfl, hst⟩ := hrel
              have ST := Lib.hid hst
              clear hst
              obtain ⟨p0, p1, p2, -, -, -⟩ := ST.out.blk.all
              by_cases hjc : j < c
              · obtain ⟨P, hP, hPN, u1, u2⟩ := IX.out i j hir hjc
                have Pa : (0 : Int) ≤ (P : Int) := by omega
                have Pb : (P : Int) < (N : Int) := by omega
                obtain ⟨bb, oo, hba, hcell⟩ := CX.out i j _ hir hjc ST.out.rd P hP
                cases hba
                have hb := VN.out i j hir hjc
                have hg := gcdN_num (n := j) (f := mxC c xs i) (fun q hq => VN.out i q hir (by omega))
                have GS : Hid (gcdN (j + 1) (mxC c xs i) = ((gcdN j (mxC c xs i)).gcd (mxC c xs i j) : Int)) := rfl
                generalize gcdN j (mxC c xs i) = gg at hg GS
                generalize mxC c xs i j = x at hcell hb GS
                clear hP
                go_wp2_with fail
                refine (sGcd gg x _ hg hb).mono ?_
                rintro e w2 ⟨rfl, nq, rfl⟩
                go_wp2_with fail
                go_roundw
                case rel => exact ⟨j + 1, by go_num, by omega, by first | (rw [GS.out]; done) | (rw [GS.out]; simp), ST.out.drewN nq⟩
                case measure => simp [intOf]; omega
              · obtain rfl : c = j := by omega
                clear hjc
                have GR : Hid (¬ rowBad c xs i last) := fun h => by have := h.1; rw [LC.out] at this; omega
                have NC : Hid (¬ colBad r c xs i) := fun h => by have := h.1; rw [LC.out] at this; omega
                have HN2 : Hid (EchB r c xs k (i + 1) (c : Int) ↔ PB = true) := by
                  have h := HB.out
                  rw [LC.out] at h
                  exact ⟨fun h1 => h.mp ⟨GR.out, NC.out, h1⟩, fun e => (h.mpr e).2.2⟩
                have m0 : decide ((c : Int) < (c : Int)) = false := by simp
                go_wp2_with fail
                clear p0 p1 p2
                go_loopw [2, 8] (fun _ v8 wk => v8 = .int .i64 0 ∧ IsSt w r c a N m xs wk) (fun _ _ _ => 0)
                case atStart => exact ⟨rfl, by first | exact ST.out | exact ST.out.drewN _⟩
                case round =>
                  clear ST
                  obtain ⟨rfl, hst⟩ := hrel
                  have ST := Lib.hid hst
                  clear hst
                  obtain ⟨p0, p1, p2, -, -, -⟩ := ST.out.blk.all
                  have r0 : 0 < r := by omega
                  go_wp2_with fail
                  go_roundw
                  case rel => exact ⟨i + 1, k, (c : Int), rfl, by go_num, by omega, HN2.out, by first | exact ST.out | exact ST.out.drewN _⟩
                  case measure => simp [intOf]; omega
    · obtain rfl : k = 0 := by omega
      have PT : Hid (PB = true) := HB.out.mp trivial
      go_wp2_with fail
      refine (IM.out _ ST.out.rd).mono ?_
      rintro e w1 ⟨rfl, hb⟩
      have ST := Lib.hid (ST.out.step hb)
      clear hb p0 p1 p2
      go_wp2_with fail
      exact bodyPost_ret (v := .bool true) (by simp [results, Try.results18, go_sem]) rfl ⟨by rw [PT.out], ST.out.bel⟩
end Go.Proofs.Ytpknondccajinaa
