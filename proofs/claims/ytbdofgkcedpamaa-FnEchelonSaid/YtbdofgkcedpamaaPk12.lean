/-
  Texts of this seat, joined: DrawE · EchI · EchJ · EchLw · SiL · EiI
-/
import Derived.Test.YtbdofgkcedpamaaPk1
import Derived.Test.YtbdofgkcedpamaaPk4
import Derived.Test.YtbdofgkcedpamaaPk5
import Derived.Test.YtbdofgkcedpamaaPk6
import Derived.Test.YtbdofgkcedpamaaPk8
import Derived.Test.YtbdofgkcedpamaaPk10

section
/-
  The drawing of chapter 7's matrices.
-/
namespace Go.Proofs.Ytbdofgkcedpamaa
set_option maxRecDepth 100000
open Go.RowKit

set_option maxHeartbeats 1000000 in
theorem drawEch (w : World) (a : Option Addr) (len cap : Nat) (hc : CodeIn w a len) : Calls Try.prog 29 #[.slice a len cap] w (AnyMat w) := by
  have HC := Lib.hid hc
  clear hc
  go_enter Try.func29, Try.ntmps29
  go_wp2_with fail
  refine (l1New _ a len cap (HC.out.below ((Below.refl _ _).alloc (Nat.le_refl _) _))).mono ?_
  rintro e w1 ⟨cb, rfl, hcb, hc1, hb1⟩
  have CB : w.heap.size < cb := by simp at hcb; omega
  have K2 : Hid (Blk3 w1 w.heap.size 26 (.int .i64 0) (.int .i64 0) (.slice none 0 0)) := (Blk3.at_ _ _ _ _ rfl).keep hb1 (by simp)
  have F1 : Hid (FrS (fun k => w.heap.size ≤ k) w w1) := ((FrS.refl _ w).alloc _).trans (FrS.of_below hb1)
  have C1 := Lib.hid hc1
  clear hcb hc1 hb1
  go_wp2_with fail
  refine (l3Any _ cb C1.out).mono ?_
  rintro e w3 ⟨r, c, v, xs, rfl, own, hl, hc3, hf⟩
  have s1 := F1.out.size
  have lk := K2.out.lt
  have K2 := Lib.hid (K2.out.frs hf (by omega))
  have F3 := Lib.hid (F1.out.trans (hf.mono2 (q := fun k => w.heap.size ≤ k) (fun k _ hk => by omega)))
  obtain ⟨q, qc, rfl, en⟩ := AnyMat.end_ (w := w) (r := r) (c := c) own (by omega) K2.out (by omega) (Nat.le_refl _) F3.out (fun k hk => hk)
  have EN := Lib.hid en
  clear own hc3 hf en
  obtain ⟨y0, y1, y2, y3, y4, y5⟩ := K2.out.all
  go_wp2_with fail
  obtain ⟨E0, E1, E2, -, -, -⟩ := (((K2.out.set0 (.int .i64 r)).set1 (.int .i64 c)).set2 (.slice q xs.length qc)).all
  exact bodyPost_ret (v := .agg #[.int .i64 r, .int .i64 c, .slice q xs.length qc]) (by simp [results, Try.results29, go_sem, E0, E1, E2]) rfl EN.out
end Go.Proofs.Ytbdofgkcedpamaa
end

section
/-
  Chapter 7, in the model: IsEchelon.
-/
namespace Go.Proofs.Ytbdofgkcedpamaa
set_option maxRecDepth 100000
open Go.RowKit

def echIs (r c : Int) (xs : List Int) : Bool := isMat r c xs && (match echM r.toNat c.toNat xs with | some (ys, _) => decide (ys = xs) | none => false)
structure IsSt (w : World) (r c : Nat) (a : Option Addr) (N m : Nat) (xs : List Int) (wr : World) : Prop where
  blk : Blk3 wr w.heap.size 26 (.int .i64 r) (.int .i64 c) (.slice a N m)
  rd : Rd wr a xs
  bel : Below w.heap.size w wr
theorem IsSt.drewN {w : World} {r c : Nat} {a : Option Addr} {N m : Nat} {xs : List Int} {wr : World} (h : IsSt w r c a N m xs wr) (n : Nat) : IsSt w r c a N m xs (wr.drewN n) := ⟨h.blk.drewN n, h.rd.drewN n, below_drewN h.bel n⟩
theorem IsSt.step {w : World} {r c : Nat} {a : Option Addr} {N m : Nat} {xs : List Int} {wr w' : World} (h : IsSt w r c a N m xs wr) (hb : Below wr.heap.size wr w') : IsSt w r c a N m xs w' := ⟨h.blk.step hb, h.rd.below hb, h.bel.trans (hb.mono h.bel.size)⟩
theorem EchB_step {r c k i : Nat} {xs : List Int} {last : Int} : EchB r c xs (k + 1) i last ↔ (¬ rowBad c xs i last ∧ ¬ colBad r c xs i ∧ EchB r c xs k (i + 1) (leadC c (mxC c xs i))) := Iff.rfl
set_option maxHeartbeats 4000000 in
theorem sIsEch_t (r c N : Nat) (a : Option Addr) (m : Nat) (xs : List Int) (w : World) (h : Rd w a xs) (hx : xs.length = N) (hN : N = r * c) (hr : r ≤ 24) (hc : c ≤ 24) (nx : nums xs = true) (hm : isMat r c xs = true) (PB : Bool) (hPB : EchB r c xs r 0 (-1) ↔ PB = true) :
    Calls Try.prog 24 #[.agg #[.int .i64 r, .int .i64 c, .slice a N m]] w (Gives (.bool PB) w) := by
  have hle : r * c ≤ 24 * 24 := Nat.mul_le_mul hr hc
  rw [← hN] at hle
  have IM : Hid (∀ w', Rd w' a xs → Calls Try.prog 46 #[.agg #[.int .i64 r, .int .i64 c, .slice a N m]] w' (Gives (.bool true) w')) := fun w' h' => by
    have := sIsMat r c a m xs w' h' (by omega)
    rw [hx, hm] at this
    exact this
  have IX : Hid (∀ i j, i < r → j < c → ∃ P : Nat, i * c + j = P ∧ P < N ∧ IntKind.i64.wrap ((i : Int) * (c : Int)) = (i : Int) * (c : Int) ∧ IntKind.i64.wrap ((i : Int) * (c : Int) + (j : Int)) = (P : Int)) := fun i j hi hj => by
    have h1 : i * c + j < r * c := idx_lt hi hj
    have c1 : (i : Int) * (c : Int) = ((i * c : Nat) : Int) := (Int.natCast_mul _ _).symm
    refine ⟨i * c + j, rfl, by omega, IntWalk.i64_in _ (by rw [c1]; omega), ?_⟩
    rw [show (i : Int) * (c : Int) + (j : Int) = ((i * c + j : Nat) : Int) by rw [c1]; omega]
    exact IntWalk.i64_in _ (by omega)
  have CX : Hid (∀ i j wr, i < r → j < c → Rd wr a xs → ∀ P, i * c + j = P → ∃ b o : Nat, a = some ⟨b, o, none⟩ ∧ wr.cell? ⟨b, o + P, none⟩ = some (.int .i64 (mxC c xs i j))) := fun i j wr hi hj hrd P hP => by
    subst hP
    exact hrd _ (by rw [hx, hN]; exact idx_lt hi hj)
  have VN : Hid (∀ i j, i < r → j < c → NumP (mxC c xs i j)) := fun i j hi hj => mx_nums (by rw [hx, hN]) nx hi hj
  have ST : Hid (IsSt w r c a N m xs (w.alloc (.cells #[.int .i64 r, .int .i64 c, .slice a N m] 26))) := ⟨Blk3.at_ _ _ _ _ rfl, h.below ((Below.refl _ _).alloc (Nat.le_refl _) _), (Below.refl _ _).alloc (Nat.le_refl _) _⟩
  have HB := Lib.hid hPB
  clear hN hx nx hm h hPB
  go_enter Try.func24, Try.ntmps24
  go_wp2_with fail
  generalize w.alloc (.cells #[.int .i64 r, .int .i64 c, .slice a N m] 26) = W at ST ⊢
  go_loopw [2, 3, 4, 5, 6, 7, 8] (fun _ v3 v4 _ _ _ _ wr => ∃ (i k : Nat) (last : Int), v3 = .int .i64 last ∧ v4 = .int .i64 i ∧ i + k = r ∧ (EchB r c xs k i last ↔ PB = true) ∧ IsSt w r c a N m xs wr) (fun _ _ v4 _ _ _ _ _ => r - (intOf v4).toNat)
  case atStart => exact ⟨0, r, -1, rfl, rfl, by omega, HB.out, ST.out⟩
  case round =>
    clear ST HB
    obtain ⟨i, k, last, rfl, rfl, hik, hB, hst⟩ := hrel
    have ST := Lib.hid hst
    have HB := Lib.hid hB
    clear hst hB
    obtain ⟨p0, p1, p2, -, -, -⟩ := ST.out.blk.all
    by_cases hir : i < r
    · obtain ⟨k, rfl⟩ : ∃ k', k = k' + 1 := ⟨k - 1, by omega⟩
      have HB := Lib.hid (EchB_step.symm.trans HB.out)
      go_wp2_with fail
      refine (IM.out _ ST.out.rd).mono ?_
      rintro e w1 ⟨rfl, hb⟩
      have ST := Lib.hid (ST.out.step hb)
      clear hb p0 p1 p2
      obtain ⟨p0, p1, p2, -, -, -⟩ := ST.out.blk.all
      go_wp2_with fail
      clear p0 p1 p2
      go_loopw [5] (fun v5 wq => ∃ p : Nat, v5 = .int .i64 p ∧ p ≤ c ∧ (∀ q, q < p → mxC c xs i q = 0) ∧ IsSt w r c a N m xs wq) (fun v5 _ => c - (intOf v5).toNat)
      case atStart => exact ⟨0, rfl, by omega, fun q hq => by omega, ST.out⟩
      case round =>
        clear ST
        obtain ⟨p, rfl, hp, hz, hst⟩ := hrel
        have ST := Lib.hid hst
        have HZ := Lib.hid hz
        clear hst hz
        obtain ⟨p0, p1, p2, -, -, -⟩ := ST.out.blk.all
        by_cases hh : p < c ∧ mxC c xs i p = 0
        · obtain ⟨hpc, hx0⟩ := hh
          obtain ⟨P, hP, hPN, u1, u2⟩ := IX.out i p hir hpc
          have Pa : (0 : Int) ≤ (P : Int) := by omega
          have Pb : (P : Int) < (N : Int) := by omega
          obtain ⟨bb, oo, hba, hcell⟩ := CX.out i p _ hir hpc ST.out.rd P hP
          subst hba
          rw [hx0] at hcell
          have HZ2 : Hid (∀ q, q < p + 1 → mxC c xs i q = 0) := fun q hq => by
            rcases Nat.lt_or_ge q p with h3 | h3
            · exact HZ.out q h3
            · obtain rfl : q = p := by omega
              exact hx0
          clear hx0 hP
          go_wp2_with fail
          go_roundw
          case rel => exact ⟨p + 1, by go_num, by omega, HZ2.out, by first | exact ST.out | exact ST.out.drewN _⟩
          case measure => simp [intOf]; omega
        · have LC : Hid (leadC c (mxC c xs i) = p) := leadF_eq (Nat.zero_le _) (by omega) (fun q _ hq => HZ.out q hq) (fun h1 e => hh ⟨by omega, e⟩)
          by_cases hpc : p < c
          · obtain ⟨x, hx⟩ : ∃ x, mxC c xs i p = x := ⟨_, rfl⟩
            have X := Lib.hid hx
            have hx0 : ¬ x = 0 := fun e => hh ⟨hpc, by rw [hx, e]⟩
            have n1 : (x == 0) = false := by simpa using hx0
            obtain ⟨P, hP, hPN, u1, u2⟩ := IX.out i p hir hpc
            have Pa : (0 : Int) ≤ (P : Int) := by omega
            have Pb : (P : Int) < (N : Int) := by omega
            obtain ⟨bb, oo, hba, hcell⟩ := CX.out i p _ hir hpc ST.out.rd P hP
            subst hba
            rw [hx] at hcell
            clear hx hP hh
            go_wp2_with fail
            clear p0 p1 p2 hcell u1 u2 Pa Pb hPN
            go_loopw [6, 7] (fun v6 v7 wg => ∃ j : Nat, v7 = .int .i64 j ∧ j ≤ c ∧ v6 = .int .i64 (gcdN j (mxC c xs i)) ∧ IsSt w r c (some ⟨bb, oo, none⟩) N m xs wg) (fun _ v7 _ => c - (intOf v7).toNat)
            case atStart => exact ⟨0, rfl, by omega, rfl, by first | exact ST.out | exact ST.out.drewN _⟩
            case round =>
              clear ST
              obtain ⟨j, rfl, hj, rfl, hst⟩ := hrel
              have ST := Lib.hid hst
              clear hst
              obtain ⟨p0, p1, p2, -, -, -⟩ := ST.out.blk.all
              by_cases hjc : j < c
              · obtain ⟨P, hP, hPN, u1, u2⟩ := IX.out i j hir hjc
                have Pa : (0 : Int) ≤ (P : Int) := by omega
                have Pb : (P : Int) < (N : Int) := by omega
                obtain ⟨bb, oo, hba, hcell⟩ := CX.out i j _ hir hjc ST.out.rd P hP
                cases hba
                have hb := VN.out i j hir hjc
                have hg := gcdN_num (n := j) (f := mxC c xs i) (fun q hq => VN.out i q hir (by omega))
                have GS : Hid (gcdN (j + 1) (mxC c xs i) = ((gcdN j (mxC c xs i)).gcd (mxC c xs i j) : Int)) := rfl
                generalize gcdN j (mxC c xs i) = gg at hg GS
                generalize mxC c xs i j = x at hcell hb GS
                clear hP
                go_wp2_with fail
                refine (sGcd gg x _ hg hb).mono ?_
                rintro e w2 ⟨rfl, nq, rfl⟩
                go_wp2_with fail
                go_roundw
                case rel => exact ⟨j + 1, by go_num, by omega, by first | (rw [GS.out]; done) | (rw [GS.out]; simp), ST.out.drewN nq⟩
                case measure => simp [intOf]; omega
              · obtain rfl : c = j := by omega
                clear hjc
                obtain ⟨P, hP, hPN, u1, u2⟩ := IX.out i p hir hpc
                have Pa : (0 : Int) ≤ (P : Int) := by omega
                have Pb : (P : Int) < (N : Int) := by omega
                obtain ⟨bc, oc, hbc, hcell⟩ := CX.out i p _ hir hpc ST.out.rd P hP
                cases hbc
                rw [X.out] at hcell
                have GG : Hid (gcdN c (mxC c xs i) = gcdN c (mxC c xs i)) := rfl
                clear hP
                by_cases h1 : last = (c : Int)
                · have m1 : (last == (c : Int)) = true := by simp [h1]
                  have PN : Hid (PB = false) := Bool.eq_false_iff.mpr (fun e => (HB.out.mpr e).1 ⟨by rw [LC.out]; exact hpc, .inl h1⟩)
                  clear h1
                  go_wp2_with fail
                  exact bodyPost_ret (v := .bool false) (by simp [results, Try.results24, go_sem]) rfl ⟨by rw [PN.out], by first | exact ST.out.bel | exact below_drewN ST.out.bel _⟩
                · have m1 : (last == (c : Int)) = false := by simpa using h1
                  by_cases h2 : (p : Int) ≤ last
                  · have m2 : decide ((p : Int) ≤ last) = true := by simpa using h2
                    have PN : Hid (PB = false) := Bool.eq_false_iff.mpr (fun e => (HB.out.mpr e).1 ⟨by rw [LC.out]; exact hpc, .inr (.inl (by rw [LC.out]; exact h2))⟩)
                    clear h1
                    go_wp2_with fail
                    exact bodyPost_ret (v := .bool false) (by simp [results, Try.results24, go_sem]) rfl ⟨by rw [PN.out], by first | exact ST.out.bel | exact below_drewN ST.out.bel _⟩
                  · have m2 : decide ((p : Int) ≤ last) = false := by simpa using h2
                    by_cases h3 : x < 0
                    · have m3 : decide (x < 0) = true := by simpa using h3
                      have PN : Hid (PB = false) := Bool.eq_false_iff.mpr (fun e => (HB.out.mpr e).1 ⟨by rw [LC.out]; exact hpc, .inr (.inr (.inl (by rw [LC.out, X.out]; exact h3)))⟩)
                      clear h1
                      go_wp2_with fail
                      exact bodyPost_ret (v := .bool false) (by simp [results, Try.results24, go_sem]) rfl ⟨by rw [PN.out], by first | exact ST.out.bel | exact below_drewN ST.out.bel _⟩
                    · have m3 : decide (x < 0) = false := by simpa using h3
                      by_cases h4 : gcdN c (mxC c xs i) = 1
                      · have m4 : (gcdN c (mxC c xs i) != 1) = false := by simp [h4]
                        have GR : Hid (¬ rowBad c xs i last) := fun ⟨_, h⟩ => by
                          rw [LC.out, X.out] at h
                          rcases h with h | h | h | h
                          · exact h1 h
                          · exact h2 h
                          · exact h3 h
                          · exact h h4
                        clear h1 h2 h3 h4
                        go_wp2_with fail
                        clear p0 p1 p2 hcell
                        go_loopw [2, 8] (fun _ v8 wk => ∃ k2 : Nat, v8 = .int .i64 k2 ∧ k2 ≤ r ∧ (∀ q, q < k2 → q ≠ i → mxC c xs q p = 0) ∧ IsSt w r c (some ⟨bb, oo, none⟩) N m xs wk) (fun _ v8 _ => r - (intOf v8).toNat)
                        case atStart => exact ⟨0, rfl, by omega, fun q hq => by omega, by first | exact ST.out | exact ST.out.drewN _⟩
                        case round =>
                          clear ST
                          obtain ⟨k2, rfl, hk2, hk0, hst⟩ := hrel
                          have ST := Lib.hid hst
                          have K0 := Lib.hid hk0
                          clear hst hk0
                          obtain ⟨p0, p1, p2, -, -, -⟩ := ST.out.blk.all
                          by_cases hkr : k2 < r
                          · obtain ⟨Q, hQ, hQN, y1, y2⟩ := IX.out k2 p hkr hpc
                            have Qa : (0 : Int) ≤ (Q : Int) := by omega
                            have Qb : (Q : Int) < (N : Int) := by omega
                            obtain ⟨bq, oq, hbq, hcell⟩ := CX.out k2 p _ hkr hpc ST.out.rd Q hQ
                            cases hbq
                            by_cases hki : k2 = i
                            · have n5 : ((k2 : Int) != (i : Int)) = false := by simp [hki]
                              have K1 : Hid (∀ q, q < k2 + 1 → q ≠ i → mxC c xs q p = 0) := fun q hq hqi => K0.out q (by omega) hqi
                              clear hki hQ hcell
                              go_wp2_with fail
                              go_roundw
                              case rel => exact ⟨k2 + 1, by go_num, by omega, K1.out, by first | exact ST.out | exact ST.out.drewN _⟩
                              case measure => simp [intOf]; omega
                            · have n5 : ((k2 : Int) != (i : Int)) = true := by simp; omega
                              obtain ⟨y, hy⟩ : ∃ y, mxC c xs k2 p = y := ⟨_, rfl⟩
                              rw [hy] at hcell
                              by_cases hy0 : y = 0
                              · have n6 : (y != 0) = false := by simp [hy0]
                                have K1 : Hid (∀ q, q < k2 + 1 → q ≠ i → mxC c xs q p = 0) := fun q hq hqi => by
                                  rcases Nat.lt_or_ge q k2 with h3 | h3
                                  · exact K0.out q h3 hqi
                                  · obtain rfl : q = k2 := by omega
                                    rw [hy, hy0]
                                clear hy hy0 hQ hki
                                go_wp2_with fail
                                go_roundw
                                case rel => exact ⟨k2 + 1, by go_num, by omega, K1.out, by first | exact ST.out | exact ST.out.drewN _⟩
                                case measure => simp [intOf]; omega
                              · have n6 : (y != 0) = true := by simpa using hy0
                                have PN : Hid (PB = false) := Bool.eq_false_iff.mpr (fun e => (HB.out.mpr e).2.1 ⟨by rw [LC.out]; exact hpc, k2, hkr, hki, by rw [LC.out, hy]; exact hy0⟩)
                                clear hy hy0 hQ hki
                                go_wp2_with fail
                                exact bodyPost_ret (v := .bool false) (by simp [results, Try.results24, go_sem]) rfl ⟨by rw [PN.out], by first | exact ST.out.bel | exact below_drewN ST.out.bel _⟩
                          · obtain rfl : r = k2 := by omega
                            have NC : Hid (¬ colBad r c xs i) := fun ⟨_, q, hq, hqi, h⟩ => h (by rw [LC.out]; exact K0.out q hq hqi)
                            have HN2 : Hid (EchB r c xs k (i + 1) (p : Int) ↔ PB = true) := by
                              have h := HB.out
                              rw [LC.out] at h
                              exact ⟨fun h1 => h.mp ⟨GR.out, NC.out, h1⟩, fun e => (h.mpr e).2.2⟩
                            clear hkr
                            go_wp2_with fail
                            go_roundw
                            case rel => exact ⟨i + 1, k, (p : Int), rfl, by go_num, by omega, HN2.out, by first | exact ST.out | exact ST.out.drewN _⟩
                            case measure => simp [intOf]; omega
                      · have m4 : (gcdN c (mxC c xs i) != 1) = true := by simpa using h4
                        have PN : Hid (PB = false) := Bool.eq_false_iff.mpr (fun e => (HB.out.mpr e).1 ⟨by rw [LC.out]; exact hpc, .inr (.inr (.inr h4))⟩)
                        clear h1 h4
                        go_wp2_with fail
                        exact bodyPost_ret (v := .bool false) (by simp [results, Try.results24, go_sem]) rfl ⟨by rw [PN.out], by first | exact ST.out.bel | exact below_drewN ST.out.bel _⟩
          · obtain rfl : c = p := by omega
            clear hh hpc
            go_wp2_with fail
            clear p0 p1 p2
            go_loopw [6, 7] (fun v6 v7 wg => ∃ j : Nat, v7 = .int .i64 j ∧ j ≤ c ∧ v6 = .int .i64 (gcdN j (mxC c xs i)) ∧ IsSt w r c a N m xs wg) (fun _ v7 _ => c - (intOf v7).toNat)
            case atStart => exact ⟨0, rfl, by omega, rfl, by first | exact ST.out | exact ST.out.drewN _⟩
            case round =>
              clear ST
              obtain ⟨j, rfl, hj, rfl, hst⟩ := hrel
              have ST := Lib.hid hst
              clear hst
              obtain ⟨p0, p1, p2, -, -, -⟩ := ST.out.blk.all
              by_cases hjc : j < c
              · obtain ⟨P, hP, hPN, u1, u2⟩ := IX.out i j hir hjc
                have Pa : (0 : Int) ≤ (P : Int) := by omega
                have Pb : (P : Int) < (N : Int) := by omega
                obtain ⟨bb, oo, hba, hcell⟩ := CX.out i j _ hir hjc ST.out.rd P hP
                cases hba
                have hb := VN.out i j hir hjc
                have hg := gcdN_num (n := j) (f := mxC c xs i) (fun q hq => VN.out i q hir (by omega))
                have GS : Hid (gcdN (j + 1) (mxC c xs i) = ((gcdN j (mxC c xs i)).gcd (mxC c xs i j) : Int)) := rfl
                generalize gcdN j (mxC c xs i) = gg at hg GS
                generalize mxC c xs i j = x at hcell hb GS
                clear hP
                go_wp2_with fail
                refine (sGcd gg x _ hg hb).mono ?_
                rintro e w2 ⟨rfl, nq, rfl⟩
                go_wp2_with fail
                go_roundw
                case rel => exact ⟨j + 1, by go_num, by omega, by first | (rw [GS.out]; done) | (rw [GS.out]; simp), ST.out.drewN nq⟩
                case measure => simp [intOf]; omega
              · obtain rfl : c = j := by omega
                clear hjc
                have GR : Hid (¬ rowBad c xs i last) := fun h => by have := h.1; rw [LC.out] at this; omega
                have NC : Hid (¬ colBad r c xs i) := fun h => by have := h.1; rw [LC.out] at this; omega
                have HN2 : Hid (EchB r c xs k (i + 1) (c : Int) ↔ PB = true) := by
                  have h := HB.out
                  rw [LC.out] at h
                  exact ⟨fun h1 => h.mp ⟨GR.out, NC.out, h1⟩, fun e => (h.mpr e).2.2⟩
                have m0 : decide ((c : Int) < (c : Int)) = false := by simp
                go_wp2_with fail
                clear p0 p1 p2
                go_loopw [2, 8] (fun _ v8 wk => v8 = .int .i64 0 ∧ IsSt w r c a N m xs wk) (fun _ _ _ => 0)
                case atStart => exact ⟨rfl, by first | exact ST.out | exact ST.out.drewN _⟩
                case round =>
                  clear ST
                  obtain ⟨rfl, hst⟩ := hrel
                  have ST := Lib.hid hst
                  clear hst
                  obtain ⟨p0, p1, p2, -, -, -⟩ := ST.out.blk.all
                  have r0 : 0 < r := by omega
                  go_wp2_with fail
                  go_roundw
                  case rel => exact ⟨i + 1, k, (c : Int), rfl, by go_num, by omega, HN2.out, by first | exact ST.out | exact ST.out.drewN _⟩
                  case measure => simp [intOf]; omega
    · obtain rfl : k = 0 := by omega
      have PT : Hid (PB = true) := HB.out.mp trivial
      go_wp2_with fail
      refine (IM.out _ ST.out.rd).mono ?_
      rintro e w1 ⟨rfl, hb⟩
      have ST := Lib.hid (ST.out.step hb)
      clear hb p0 p1 p2
      go_wp2_with fail
      exact bodyPost_ret (v := .bool true) (by simp [results, Try.results24, go_sem]) rfl ⟨by rw [PT.out], ST.out.bel⟩
end Go.Proofs.Ytbdofgkcedpamaa
end

section
/-
  Chapter 7, in the model: IsEchelon of what is no matrix, and of all.
-/
namespace Go.Proofs.Ytbdofgkcedpamaa
set_option maxRecDepth 100000
open Go.RowKit

theorem sIsEch_f (r c : Int) (a : Option Addr) (m : Nat) (xs : List Int) (w : World) (h : Rd w a xs) (hn : xs.length ≤ 16777216) (hm : isMat r c xs = false) :
    Calls Try.prog 24 #[.agg #[.int .i64 r, .int .i64 c, .slice a xs.length m]] w (Gives (.bool false) w) := by
  have IM : Hid (∀ w', Rd w' a xs → Calls Try.prog 46 #[.agg #[.int .i64 r, .int .i64 c, .slice a xs.length m]] w' (Gives (.bool false) w')) := fun w' h' => by
    have := sIsMat r c a m xs w' h' hn
    rw [hm] at this
    exact this
  clear hm hn
  generalize xs.length = L at IM ⊢
  have K : Hid (Blk3 (w.alloc (.cells #[.int .i64 r, .int .i64 c, .slice a L m] 26)) w.heap.size 26 (.int .i64 r) (.int .i64 c) (.slice a L m)) := Blk3.at_ _ _ _ _ rfl
  have RX := Lib.hid (h.below ((Below.refl _ _).alloc (Nat.le_refl _) (.cells #[.int .i64 r, .int .i64 c, .slice a L m] 26)))
  have BX : Hid (Below w.heap.size w (w.alloc (.cells #[.int .i64 r, .int .i64 c, .slice a L m] 26))) := (Below.refl _ _).alloc (Nat.le_refl _) _
  clear h
  go_enter Try.func24, Try.ntmps24
  go_wp2_with fail
  generalize w.alloc (.cells #[.int .i64 r, .int .i64 c, .slice a L m] 26) = W at K RX BX ⊢
  go_loopw [2, 3, 4, 5, 6, 7, 8] (fun _ _ v4 _ _ _ _ wr => v4 = .int .i64 0 ∧ Blk3 wr w.heap.size 26 (.int .i64 r) (.int .i64 c) (.slice a L m) ∧ Rd wr a xs ∧ Below w.heap.size w wr) (fun _ _ _ _ _ _ _ _ => 0)
  case atStart => exact ⟨rfl, K.out, RX.out, BX.out⟩
  case round =>
    clear K RX BX
    obtain ⟨rfl, hk, hr, hb⟩ := hrel
    have K := Lib.hid hk
    have RX := Lib.hid hr
    have BX := Lib.hid hb
    clear hk hr hb
    obtain ⟨p0, p1, p2, -, -, -⟩ := K.out.all
    by_cases h0 : 0 < r
    · go_wp2_with fail
      refine (IM.out _ RX.out).mono ?_
      rintro e w0 ⟨rfl, hb⟩
      have K := Lib.hid (K.out.step hb)
      have RX := Lib.hid (RX.out.below hb)
      have BX := Lib.hid (BX.out.trans (hb.mono BX.out.size))
      clear hb p0 p1 p2
      obtain ⟨p0, p1, p2, -, -, -⟩ := K.out.all
      go_wp2_with fail
      refine (IM.out _ RX.out).mono ?_
      rintro e w1 ⟨rfl, hb⟩
      have B2 := Lib.hid (BX.out.trans (hb.mono BX.out.size))
      clear hb p0 p1 p2
      go_wp2_with fail
      exact bodyPost_ret (v := .bool false) (by simp [results, Try.results24, go_sem]) rfl ⟨rfl, B2.out⟩
    · go_wp2_with fail
      refine (IM.out _ RX.out).mono ?_
      rintro e w1 ⟨rfl, hb⟩
      have B2 := Lib.hid (BX.out.trans (hb.mono BX.out.size))
      clear hb p0 p1 p2
      go_wp2_with fail
      exact bodyPost_ret (v := .bool false) (by simp [results, Try.results24, go_sem]) rfl ⟨rfl, B2.out⟩
/-- IsEchelon: whether the elimination ends where it began. -/
theorem sIsEchelon (r c : Int) (a : Option Addr) (m : Nat) (xs : List Int) (w : World) (h : Rd w a xs) (hn : xs.length ≤ 16777216) :
    Calls Try.prog 24 #[.agg #[.int .i64 r, .int .i64 c, .slice a xs.length m]] w (Gives (.bool (echIs r c xs)) w) := by
  rcases Bool.eq_false_or_eq_true (isMat r c xs) with hm | hm
  · obtain ⟨⟨r0, r1⟩, ⟨c0, c1⟩, hl, nx⟩ := isMat_says hm
    obtain ⟨R, rfl⟩ := Int.eq_ofNat_of_zero_le r0
    obtain ⟨C, rfl⟩ := Int.eq_ofNat_of_zero_le c0
    have hx : xs.length = R * C := by rw [← Int.natCast_mul] at hl; omega
    refine sIsEch_t R C xs.length a m xs w h rfl hx (by omega) (by omega) nx hm _ ?_
    rw [EchB_iff hx nx]
    unfold echIs
    rw [hm, Bool.true_and]
    show _ ↔ (match echM R C xs with | some (ys, _) => decide (ys = xs) | none => false) = true
    cases he : echM R C xs with
    | none => exact ⟨fun ⟨pv, h⟩ => (by cases h), fun h => (by cases h)⟩
    | some o =>
      obtain ⟨ys, pv⟩ := o
      show _ ↔ decide (ys = xs) = true
      rw [decide_eq_true_eq]
      exact ⟨fun ⟨qv, h⟩ => (by injection h with h; injection h), fun h => ⟨pv, by rw [h]⟩⟩
  · have e : echIs r c xs = false := by unfold echIs; rw [hm]; rfl
    rw [e]
    exact sIsEch_f r c a m xs w h hn hm
end Go.Proofs.Ytbdofgkcedpamaa
end

section
/-
  Plain mathematics of chapter 7: what FnEchelon asks. Nothing of a program is used.
-/
namespace Go.Proofs.Ytbdofgkcedpamaa
open Go.RowKit

theorem echR_none {r c : Int} {xs : List Int} (h : (echR r c xs).ok = false) : echR r c xs = ER.no := by
  unfold echR at h ⊢
  by_cases hm : isMat r c xs = true
  · rw [if_pos hm] at h ⊢
    cases he : echM r.toNat c.toNat xs with
    | none => rfl
    | some o =>
      rw [he] at h
      exact absurd h (by simp [ER.of])
  · rw [if_neg hm]
theorem isMat_mk {r c : Nat} {zs : List Int} (hr : r ≤ 24) (hc : c ≤ 24) (hl : zs.length = r * c) (hn : nums zs = true) : isMat r c zs = true := by
  have h1 : (zs.length : Int) = (r : Int) * (c : Int) := by rw [← Int.natCast_mul]; omega
  unfold isMat
  simp only [Bool.and_eq_true, decide_eq_true_eq]
  exact ⟨⟨⟨⟨by omega, by omega⟩, ⟨by omega, by omega⟩⟩, h1⟩, hn⟩
theorem echR_of {r c : Nat} {zs us : List Int} {pv : List Nat} (hr : r ≤ 24) (hc : c ≤ 24) (hl : zs.length = r * c) (hn : nums zs = true) (he : echM r c zs = some (us, pv)) : echR r c zs = ⟨r, c, us, pvI pv, true⟩ := by
  unfold echR
  rw [if_pos (isMat_mk hr hc hl hn)]
  show ER.of r c (echM r c zs) = _
  rw [he]
  rfl
/-- The form of a form is the form itself, and it is one. -/
theorem fix_law {r c : Int} {xs : List Int} {A : ER} (h : echR r c xs = A) (ho : A.ok = true) : echR A.r A.c A.zs = A ∧ echIs A.r A.c A.zs = true ∧ 0 ≤ r ∧ r ≤ 24 := by
  subst h
  obtain ⟨-, R, C, ys, pv, rfl, rfl, hR, hC, hx, nx, he, e, hy, -⟩ := echR_ok ho
  obtain ⟨-, -, -, -, ny, -⟩ := echM_says hx nx he
  have hf := echM_fix hx nx he
  rw [e]
  refine ⟨echR_of hR hC hy ny hf, ?_, by omega, by omega⟩
  show echIs R C ys = true
  unfold echIs
  rw [isMat_mk hR hC hy ny, Bool.true_and]
  show (match echM R C ys with | some (us, _) => decide (us = ys) | none => false) = true
  rw [hf]
  exact decide_eq_true rfl
/-- A unimodular product has the same form. -/
theorem mix_law {r c rM cM : Int} {xs zM : List Int} {A : ER} {m : MR} (h : echR r c xs = A) (ho : A.ok = true) (hp : MixP r rM cM zM) (hm : mulM rM cM zM r c xs = m) (hk : m.ok = true) (h2 : (echR m.r m.c m.zs).ok = true) : echR m.r m.c m.zs = A := by
  subst h
  obtain ⟨-, R, C, ys, pv, rfl, rfl, hR, hC, hx, nx, he, e, hy, -⟩ := echR_ok ho
  obtain ⟨R', K, C', e1, e2, e3, e4, m1, -, e5⟩ := mulM_says (by rw [hm]; exact hk)
  obtain rfl : R = K := by omega
  obtain rfl : C = C' := by omega
  rcases hp with ⟨p1, p2, -, p4, -, pd⟩ | ⟨p1, p2, -, p3⟩
  · obtain rfl : R = R' := by omega
    rw [hm] at e5
    subst e5
    obtain ⟨-, R2, C2, us, qv, q1, q2, -, -, hx2, nx2, he2, e6, -, -⟩ := echR_ok h2
    have q1 : rM = (R2 : Int) := q1
    have q2 : (C : Int) = (C2 : Int) := q2
    obtain rfl : R = R2 := by omega
    obtain rfl : C = C2 := by omega
    have hx2 : (mulL R R C zM xs).length = R * C := hx2
    have nx2 : nums (mulL R R C zM xs) = true := nx2
    have he2 : echM R C (mulL R R C zM xs) = some (us, qv) := he2
    have pd : det R (mxL R zM) = 1 := pd
    have at_ : ∀ i j, i < R → j < C → mxC C (mulL R R C zM xs) i j = mulX R (mxL R zM) (mxC C xs) i j := fun i j hi hj => by
      show (mulL R R C zM xs).getD (i * C + j) 0 = _
      unfold mulL
      rw [tab_at R C _ hi hj, dot_sum]
      rfl
    have s1 : SubSp R R C (mulX R (mxL R zM) (mxC C xs)) (mxC C (mulL R R C zM xs)) := fun i hi => (InSp.row (A := mxC C (mulL R R C zM xs)) hi).congr fun j hj => (at_ i j hi hj).symm
    have s2 : SubSp R R C (mxC C (mulL R R C zM xs)) (mulX R (mxL R zM) (mxC C xs)) := fun i hi => (InSp.row (A := mulX R (mxL R zM) (mxC C xs)) hi).congr fun j hj => at_ i j hi hj
    obtain ⟨u1, u2⟩ := ech_same hx nx hx2 nx2 he he2 ((span_mul (by rw [pd]; decide)).trans s1) (s2.trans (sub_mul _ _))
    show echR rM C (mulL R R C zM xs) = _
    rw [e, u1, u2, p1]
    exact echR_of hR hC hx2 nx2 he2
  · omega
/-- The rank of what is turned over. -/
theorem turn_law {r c : Int} {xs : List Int} {A : ER} {m : MR} (h : echR r c xs = A) (ho : A.ok = true) (hm : turnM r c xs = m) (h2 : (echR m.r m.c m.zs).ok = true) : (echR m.r m.c m.zs).pv.length = A.pv.length := by
  subst h
  obtain ⟨hmx, R, C, ys, pv, rfl, rfl, hR, hC, hx, nx, he, e, hy, -⟩ := echR_ok ho
  rw [turnM_ok hmx] at hm
  subst hm
  obtain ⟨-, R2, C2, us, qv, q1, q2, -, -, hx2, nx2, he2, e6, -, -⟩ := echR_ok h2
  have q1 : (C : Int) = (R2 : Int) := q1
  have q2 : (R : Int) = (C2 : Int) := q2
  obtain rfl : C = R2 := by omega
  obtain rfl : R = C2 := by omega
  have hx2 : (turnL R C xs).length = C * R := hx2
  have nx2 : nums (turnL R C xs) = true := nx2
  have he2 : echM C R (turnL R C xs) = some (us, qv) := he2
  have e6 : echR C R (turnL R C xs) = ⟨C, R, us, pvI qv, true⟩ := e6
  show (echR C R (turnL R C xs)).pv.length = _
  rw [e, e6]
  show (pvI qv).length = (pvI pv).length
  rw [pvI_length, pvI_length]
  refine ech_turn hx nx hx2 nx2 (fun i j hi hj => ?_) he he2
  show (turnL R C xs).getD (i * R + j) 0 = _
  unfold turnL
  exact tab_at C R _ hi hj
end Go.Proofs.Ytbdofgkcedpamaa
end

section
/-
  The law side: two equal lists of ints are told to be equal.
-/
namespace Go.Proofs.Ytbdofgkcedpamaa
set_option maxRecDepth 100000
open Go.RowKit

set_option maxHeartbeats 400000 in
theorem sameI_t (a b : Option Addr) (c d : Nat) (zs : List Int) (w : World) (h : Rd w a zs) (h' : Rd w b zs) (hn : zs.length ≤ 16777216) :
    Calls Try.prog 34 #[.slice a zs.length c, .slice b zs.length d] w fun e w' => e = .returned (.bool true) ∧ ∃ n, w' = w.drewN n := by
  have H := Lib.hid h
  have H' := Lib.hid h'
  clear h h'
  obtain ⟨n, hnn⟩ : ∃ n, zs.length = n := ⟨_, rfl⟩
  rw [hnn] at hn ⊢
  have HN := Lib.hid hnn
  clear hnn
  go_enter Try.func34, Try.ntmps34
  go_wp2_with fail
  go_loopw [5] (fun i wr => ∃ k : Nat, i = .int .i64 k ∧ k ≤ n ∧ ∃ m, wr = w.drewN m) (fun i _ => n - (intOf i).toNat)
  case atStart => exact ⟨0, rfl, by omega, 0, rfl⟩
  case round =>
    obtain ⟨k, rfl, hk, m, rfl⟩ := hrel
    by_cases hlt : k < n
    · obtain ⟨b, o, rfl, hc⟩ := H.out k (by rw [HN.out]; exact hlt)
      obtain ⟨b', o', rfl, hc'⟩ := H'.out k (by rw [HN.out]; exact hlt)
      obtain ⟨z, hz⟩ : ∃ z, zs.getD k 0 = z := ⟨_, rfl⟩
      rw [hz] at hc hc'
      have Z := Lib.hid hz
      clear hz
      go_wp2_with fail
      go_quiet (fail)
      go_wp2_with fail
      go_roundw
      case rel => exact ⟨k + 1, by go_num, by omega, _, rfl⟩
      case measure => simp [intOf]; omega
    · have hkn : k = n := by omega
      subst hkn
      go_wp2_with fail
      go_ret
      exact ⟨rfl, m, rfl⟩

theorem sameI_g (a b : Option Addr) (c d : Nat) (zs : List Int) (w : World) (h : Rd w a zs) (h' : Rd w b zs) (hn : zs.length ≤ 16777216) :
    Calls Try.prog 34 #[.slice a zs.length c, .slice b zs.length d] w (Gives (.bool true) w) :=
  (sameI_t a b c d zs w h h' hn).mono fun _ _ ⟨h1, k, h2⟩ => ⟨h1, by rw [h2]; exact below_drewN (Below.refl _ _) k⟩
end Go.Proofs.Ytbdofgkcedpamaa
end

section
/-
  Chapter 7, in the program: IsEchelon.
-/
namespace Go.Proofs.Ytbdofgkcedpamaa
set_option maxRecDepth 100000
open Go.RowKit

set_option maxHeartbeats 1000000 in
theorem iAlone (r c N i l : Nat) (a : Option Addr) (m : Nat) (xs : List Int) (w : World) (h : Rd w a xs) (hx : xs.length = N) (hN : N = r * c) (hr : r ≤ 24) (hc : c ≤ 24) (hl : l < c) (b : Bool) (hb : b = true ↔ ∀ k, k < r → k ≠ i → mxC c xs k l = 0) :
    Calls Try.prog 59 #[.agg #[.int .i64 r, .int .i64 c, .slice a N m], .int .i64 i, .int .i64 l] w (Gives (.bool b) w) := by
  have hle : r * c ≤ 24 * 24 := Nat.mul_le_mul hr hc
  rw [← hN] at hle
  have IX : Hid (∀ k, k < r → ∃ P : Nat, k * c + l = P ∧ P < N ∧ IntKind.i64.wrap ((k : Int) * (c : Int)) = (k : Int) * (c : Int) ∧ IntKind.i64.wrap ((k : Int) * (c : Int) + (l : Int)) = (P : Int)) := fun k hk => by
    have h1 : k * c + l < r * c := idx_lt hk hl
    have c1 : (k : Int) * (c : Int) = ((k * c : Nat) : Int) := (Int.natCast_mul _ _).symm
    refine ⟨k * c + l, rfl, by omega, IntWalk.i64_in _ (by rw [c1]; omega), ?_⟩
    rw [show (k : Int) * (c : Int) + (l : Int) = ((k * c + l : Nat) : Int) by rw [c1]; omega]
    exact IntWalk.i64_in _ (by omega)
  have BW : Hid (Below w.heap.size w (w.alloc (.cells #[.int .i64 r, .int .i64 c, .slice a N m] 26))) := (Below.refl _ _).alloc (Nat.le_refl _) _
  have K0 : Hid (Blk3 (w.alloc (.cells #[.int .i64 r, .int .i64 c, .slice a N m] 26)) w.heap.size 26 (.int .i64 r) (.int .i64 c) (.slice a N m)) := Blk3.at_ _ _ _ _ rfl
  have CX : Hid (∀ k P, k < r → k * c + l = P → ∃ b o : Nat, a = some ⟨b, o, none⟩ ∧ (w.alloc (.cells #[.int .i64 r, .int .i64 c, .slice a N m] 26)).cell? ⟨b, o + P, none⟩ = some (.int .i64 (mxC c xs k l))) := fun k P hk hP => by
    subst hP
    exact h.below BW.out _ (by rw [hx, hN]; exact idx_lt hk hl)
  have HB := Lib.hid hb
  clear hN hx h hb
  go_enter Try.func59, Try.ntmps59
  go_wp2_with fail
  generalize w.alloc (.cells #[.int .i64 r, .int .i64 c, .slice a N m] 26) = W at BW K0 CX
  obtain ⟨p0, p1, p2, -, -, -⟩ := K0.out.all
  go_wp2_with fail
  go_loopw [6, 7, 10] (fun _ _ v10 wq => ∃ k : Nat, v10 = .int .i64 k ∧ k ≤ r ∧ (∀ p, p < k → p ≠ i → mxC c xs p l = 0) ∧ wq = W) (fun _ _ v10 _ => r - (intOf v10).toNat)
  case atStart => exact ⟨0, rfl, by omega, fun p h1 => by omega, rfl⟩
  case round =>
    obtain ⟨k, rfl, hk, hz, rfl⟩ := hrel
    have Z := Lib.hid hz
    clear hz
    by_cases hkr : k < r
    · by_cases hki : k = i
      · have n1 : ((k : Int) != (i : Int)) = false := by simp [hki]
        have Z1 : Hid (∀ p, p < k + 1 → p ≠ i → mxC c xs p l = 0) := fun p h1 h2 => Z.out p (by omega) h2
        clear hki
        go_wp2_with fail
        go_roundw
        case rel => exact ⟨k + 1, by go_num, by omega, Z1.out, trivial⟩
        case measure => simp [intOf]; omega
      · have n1 : ((k : Int) != (i : Int)) = true := by simp; omega
        obtain ⟨P, hP, hPN, u1, u2⟩ := IX.out k hkr
        have Pa : (0 : Int) ≤ (P : Int) := by omega
        have Pb : (P : Int) < (N : Int) := by omega
        obtain ⟨g, o, rfl, hcell⟩ := CX.out k P hkr hP
        obtain ⟨x, hxx⟩ : ∃ x, mxC c xs k l = x := ⟨_, rfl⟩
        have X := Lib.hid hxx
        rw [hxx] at hcell
        clear hxx hP
        by_cases h0 : x = 0
        · have n2 : (x != 0) = false := by simp [h0]
          have n3 : (x == 0) = true := by simp [h0]
          have Z1 : Hid (∀ p, p < k + 1 → p ≠ i → mxC c xs p l = 0) := fun p h1 h2 => by
            rcases Nat.lt_or_ge p k with h3 | h3
            · exact Z.out p h3 h2
            · obtain rfl : p = k := by omega
              rw [X.out, h0]
          clear h0 hki
          go_wp2_with fail
          go_roundw
          case rel => exact ⟨k + 1, by go_num, by omega, Z1.out, trivial⟩
          case measure => simp [intOf]; omega
        · have n2 : (x != 0) = true := by simpa using h0
          have n3 : (x == 0) = false := by simpa using h0
          have FB : Hid (b = false) := by
            show b = false
            cases b with
            | false => rfl
            | true => exact absurd (HB.out.mp rfl k hkr hki) (by rw [X.out]; exact h0)
          clear h0 hki
          go_wp2_with fail
          go_ret
          exact ⟨by rw [FB.out]; rfl, BW.out⟩
    · obtain rfl : r = k := by omega
      clear hkr
      have TB : Hid (b = true) := HB.out.mpr Z.out
      go_wp2_with fail
      go_ret
      exact ⟨by rw [TB.out]; rfl, BW.out⟩
set_option maxHeartbeats 2000000 in
theorem iIsEch_t (r c N : Nat) (a : Option Addr) (m : Nat) (xs : List Int) (w : World) (h : Rd w a xs) (ha : Spot a) (ham : N ≤ m) (haz : a = none → m = 0) (hx : xs.length = N) (hN : N = r * c) (hr : r ≤ 24) (hc : c ≤ 24) (nx : nums xs = true) (hm : isMat r c xs = true) (PB : Bool) (hPB : EchB r c xs r 0 (-1) ↔ PB = true) :
    Calls Try.prog 25 #[.agg #[.int .i64 r, .int .i64 c, .slice a N m]] w (Gives (.bool PB) w) := by
  have hle : r * c ≤ 24 * 24 := Nat.mul_le_mul hr hc
  rw [← hN] at hle
  have hl : xs.length = r * c := by rw [hx, hN]
  have IM : Hid (∀ w', Rd w' a xs → Calls Try.prog 49 #[.agg #[.int .i64 r, .int .i64 c, .slice a N m]] w' (Gives (.bool true) w')) := fun w' h' => by
    have := iIsMat r c a m xs w' h' (by omega)
    rw [hx, hm] at this
    exact this
  have RW : Hid (∀ i w', i < r → Calls Try.prog 52 #[.agg #[.int .i64 r, .int .i64 c, .slice a N m], .int .i64 i] w' (RowAt a (i * c) c w')) := fun i w' hi => iRowIn r c i (i * c) N m a w' ha rfl (by rw [hN, ← Nat.succ_mul]; exact Nat.mul_le_mul_right _ hi) ham haz (by omega) (by omega)
  have RD : Hid (∀ i w' q', i < r → Rd w' a xs → (∀ g o : Nat, a = some ⟨g, o, none⟩ → 0 < c → q' = some ⟨g, o + i * c, none⟩) → Rd w' q' (rwL c (mxC c xs i))) := fun i w' q' hi h' hq => h'.row hl hi hq
  have VN : Hid (∀ i j, i < r → j < c → NumP (mxC c xs i j)) := fun i j hi hj => mx_nums hl nx hi hj
  have AL : Hid (∀ i l w' b, i < r → l < c → Rd w' a xs → (b = true ↔ ∀ k, k < r → k ≠ i → mxC c xs k l = 0) → Calls Try.prog 59 #[.agg #[.int .i64 r, .int .i64 c, .slice a N m], .int .i64 i, .int .i64 l] w' (Gives (.bool b) w')) := fun i l w' b hi hl' h' hb => iAlone r c N i l a m xs w' h' hx hN hr hc hl' b hb
  have ST : Hid (IsSt w r c a N m xs (w.alloc (.cells #[.int .i64 r, .int .i64 c, .slice a N m] 26))) := ⟨Blk3.at_ _ _ _ _ rfl, h.below ((Below.refl _ _).alloc (Nat.le_refl _) _), (Below.refl _ _).alloc (Nat.le_refl _) _⟩
  have HB := Lib.hid hPB
  clear hN hx nx hm h hPB hl ha ham haz
  go_enter Try.func25, Try.ntmps25
  go_wp2_with fail
  generalize w.alloc (.cells #[.int .i64 r, .int .i64 c, .slice a N m] 26) = W at ST ⊢
  obtain ⟨p0, p1, p2, -, -, -⟩ := ST.out.blk.all
  go_wp2_with fail
  refine (IM.out _ ST.out.rd).mono ?_
  rintro e w1 ⟨rfl, hb⟩
  have ST := Lib.hid (ST.out.step hb)
  clear hb p0 p1 p2
  obtain ⟨p0, p1, p2, -, -, -⟩ := ST.out.blk.all
  go_wp2_with fail
  clear p0 p1 p2
  go_loopw [2, 3, 4, 5, 6, 12, 20, 24] (fun _ v3 _ _ _ v12 _ _ wr => ∃ (i k : Nat) (last : Int), v12 = .int .i64 i ∧ v3 = .int .i64 last ∧ i + k = r ∧ (-1 ≤ last ∧ last ≤ c) ∧ (EchB r c xs k i last ↔ PB = true) ∧ IsSt w r c a N m xs wr) (fun _ _ _ _ _ v12 _ _ _ => r - (intOf v12).toNat)
  case atStart => exact ⟨0, r, -1, rfl, rfl, by omega, ⟨by omega, by omega⟩, HB.out, ST.out⟩
  case round =>
    clear ST HB
    obtain ⟨i, k, last, rfl, rfl, hik, ⟨la1, la2⟩, hB, hst⟩ := hrel
    have ST := Lib.hid hst
    have HB := Lib.hid hB
    clear hst hB
    obtain ⟨p0, p1, p2, -, -, -⟩ := ST.out.blk.all
    by_cases hir : i < r
    · obtain ⟨k, rfl⟩ : ∃ k', k = k' + 1 := ⟨k - 1, by omega⟩
      go_wp2_with fail
      refine (RW.out i _ hir).mono ?_
      rintro e w2 ⟨q', m', rfl, -, hq', -, hb⟩
      have ST := Lib.hid (ST.out.step hb)
      have R2 := Lib.hid (RD.out i _ q' hir ST.out.rd hq')
      clear hb hq' p0 p1 p2
      obtain ⟨p0, p1, p2, -, -, -⟩ := ST.out.blk.all
      have LD : Hid (Calls Try.prog 58 #[.slice q' c m'] w2 (fun e w' => e = .returned (.int .i64 (leadC c (mxC c xs i) : Int)) ∧ w' = w2)) := iLead c m' q' _ w2 R2.out hc
      have SG : Hid (Calls Try.prog 53 #[.slice q' c m'] w2 (fun e w' => e = .returned (.int .i64 (sgD c (mxC c xs i))) ∧ ∃ n, w' = w2.drewN n)) := iSgD c m' q' _ w2 R2.out hc (fun j hj => VN.out i j hir hj)
      obtain ⟨l1, -, -⟩ := leadC_says c (mxC c xs i)
      have H1 : Hid (sgD c (mxC c xs i) ≠ 1 → PB = false) := fun h => by
        cases hp : PB with
        | false => rfl
        | true =>
          have h1 := HB.out.mpr hp
          have h2 := Classical.not_not.mp (fun h3 => h (sgD_one.mpr h3))
          exact absurd ⟨h2.1, .inr (.inr h2.2)⟩ h1.1
      have H2 : Hid (leadC c (mxC c xs i) < c → (leadC c (mxC c xs i) : Int) ≤ last → PB = false) := fun h h2 => by
        cases hp : PB with
        | false => rfl
        | true => exact absurd ⟨h, .inr (.inl h2)⟩ (HB.out.mpr hp).1
      have H3 : Hid (leadC c (mxC c xs i) < c → ¬ (∀ p, p < r → p ≠ i → mxC c xs p (leadC c (mxC c xs i)) = 0) → PB = false) := fun h h2 => by
        cases hp : PB with
        | false => rfl
        | true =>
          refine absurd (fun p hp1 hp2 => ?_) h2
          exact Classical.byContradiction fun h3 => (HB.out.mpr hp).2.1 ⟨h, p, hp1, hp2, h3⟩
      have H4 : Hid (sgD c (mxC c xs i) = 1 → (leadC c (mxC c xs i) < c → ¬ (leadC c (mxC c xs i) : Int) ≤ last ∧ ∀ p, p < r → p ≠ i → mxC c xs p (leadC c (mxC c xs i)) = 0) → (EchB r c xs k (i + 1) (leadC c (mxC c xs i)) ↔ PB = true)) := fun h1 h2 => by
        rw [← HB.out, EchB_step]
        refine ⟨fun h3 => ⟨fun h4 => ?_, fun h4 => ?_, h3⟩, fun h3 => h3.2.2⟩
        · obtain ⟨h5, h6 | h6 | h6⟩ := h4
          · have := (h2 h5).1; omega
          · exact (h2 h5).1 h6
          · exact sgD_one.mp h1 ⟨h5, h6⟩
        · obtain ⟨h5, p, h6, h7, h8⟩ := h4
          exact h8 ((h2 h5).2 p h6 h7)
      have AI : Hid (∀ w' b, leadC c (mxC c xs i) < c → Rd w' a xs → (b = true ↔ ∀ p, p < r → p ≠ i → mxC c xs p (leadC c (mxC c xs i)) = 0) → Calls Try.prog 59 #[.agg #[.int .i64 r, .int .i64 c, .slice a N m], .int .i64 i, .int .i64 (leadC c (mxC c xs i) : Int)] w' (Gives (.bool b) w')) := fun w' b hl' h' hb => AL.out i _ w' b hir hl' h' hb
      generalize sgD c (mxC c xs i) = d at SG H1 H4
      generalize leadC c (mxC c xs i) = l at LD l1 H2 H3 H4 AI
      clear R2 HB
      go_wp2_with fail
      refine LD.out.mono ?_
      rintro e w3 ⟨rfl, rfl⟩
      go_wp2_with fail
      refine SG.out.mono ?_
      rintro e w4 ⟨rfl, n, rfl⟩
      have ST := Lib.hid (ST.out.drewN n)
      clear p0 p1 p2 LD SG
      generalize w3.drewN n = w4 at ST ⊢
      obtain ⟨p0, p1, p2, -, -, -⟩ := ST.out.blk.all
      by_cases hd : d = 1
      · have n1 : (d != 1) = false := by simp [hd]
        have n2 : (d == 1) = true := by simp [hd]
        by_cases hlc : l < c
        · have n3 : decide ((l : Int) < (c : Int)) = true := decide_eq_true (by omega)
          by_cases hla : (l : Int) ≤ last
          · have n4 : decide ((l : Int) ≤ last) = true := decide_eq_true hla
            have F := Lib.hid (H2.out hlc hla)
            clear hd hla
            go_wp2_with fail
            exact bodyPost_ret (v := .bool false) (by simp [results, Try.results25, go_sem]) rfl ⟨by rw [F.out], ST.out.bel⟩
          · have n4 : decide ((l : Int) ≤ last) = false := decide_eq_false hla
            by_cases hal : ∀ p, p < r → p ≠ i → mxC c xs p l = 0
            · have AT : Hid (∀ w', Rd w' a xs → Calls Try.prog 59 #[.agg #[.int .i64 r, .int .i64 c, .slice a N m], .int .i64 i, .int .i64 l] w' (Gives (.bool true) w')) := fun w' h' => AI.out w' true hlc h' ⟨fun _ => hal, fun _ => rfl⟩
              have HE := Lib.hid (H4.out hd (fun _ => ⟨by omega, hal⟩))
              clear hd hla hal
              go_wp2_with fail
              refine (AT.out _ ST.out.rd).mono ?_
              rintro e w5 ⟨rfl, hb⟩
              have ST := Lib.hid (ST.out.step hb)
              clear hb p0 p1 p2
              go_wp2_with fail
              go_roundw
              case rel => exact ⟨i + 1, k, l, by go_num, rfl, by omega, ⟨by omega, by omega⟩, HE.out, ST.out⟩
              case measure => simp [intOf]; omega
            · have AF : Hid (∀ w', Rd w' a xs → Calls Try.prog 59 #[.agg #[.int .i64 r, .int .i64 c, .slice a N m], .int .i64 i, .int .i64 l] w' (Gives (.bool false) w')) := fun w' h' => AI.out w' false hlc h' ⟨fun h => (by cases h), fun h => absurd h hal⟩
              have F := Lib.hid (H3.out hlc hal)
              clear hd hla hal
              go_wp2_with fail
              refine (AF.out _ ST.out.rd).mono ?_
              rintro e w5 ⟨rfl, hb⟩
              have ST := Lib.hid (ST.out.step hb)
              clear hb p0 p1 p2
              go_wp2_with fail
              exact bodyPost_ret (v := .bool false) (by simp [results, Try.results25, go_sem]) rfl ⟨by rw [F.out], ST.out.bel⟩
        · have n3 : decide ((l : Int) < (c : Int)) = false := decide_eq_false (by omega)
          have HE := Lib.hid (H4.out hd (fun h => absurd h hlc))
          clear hd
          go_wp2_with fail
          go_roundw
          case rel => exact ⟨i + 1, k, l, by go_num, rfl, by omega, ⟨by omega, by omega⟩, HE.out, ST.out⟩
          case measure => simp [intOf]; omega
      · have n1 : (d != 1) = true := by simpa using hd
        have n2 : (d == 1) = false := by simpa using hd
        have F := Lib.hid (H1.out hd)
        clear hd
        go_wp2_with fail
        exact bodyPost_ret (v := .bool false) (by simp [results, Try.results25, go_sem]) rfl ⟨by rw [F.out], ST.out.bel⟩
    · obtain rfl : k = 0 := by omega
      have T : Hid (PB = true) := HB.out.mp trivial
      clear hir
      go_wp2_with fail
      exact bodyPost_ret (v := .bool true) (by simp [results, Try.results25, go_sem]) rfl ⟨by rw [T.out], ST.out.bel⟩
theorem iIsEch_f (r c : Int) (a : Option Addr) (m : Nat) (xs : List Int) (w : World) (h : Rd w a xs) (hn : xs.length ≤ 16777216) (hm : isMat r c xs = false) :
    Calls Try.prog 25 #[.agg #[.int .i64 r, .int .i64 c, .slice a xs.length m]] w (Gives (.bool false) w) := by
  have IM : Hid (∀ w', Rd w' a xs → Calls Try.prog 49 #[.agg #[.int .i64 r, .int .i64 c, .slice a xs.length m]] w' (Gives (.bool false) w')) := fun w' h' => by
    have := iIsMat r c a m xs w' h' hn
    rw [hm] at this
    exact this
  clear hm hn
  generalize xs.length = L at IM ⊢
  have K : Hid (Blk3 (w.alloc (.cells #[.int .i64 r, .int .i64 c, .slice a L m] 26)) w.heap.size 26 (.int .i64 r) (.int .i64 c) (.slice a L m)) := Blk3.at_ _ _ _ _ rfl
  have RX := Lib.hid (h.below ((Below.refl _ _).alloc (Nat.le_refl _) (.cells #[.int .i64 r, .int .i64 c, .slice a L m] 26)))
  have BX : Hid (Below w.heap.size w (w.alloc (.cells #[.int .i64 r, .int .i64 c, .slice a L m] 26))) := (Below.refl _ _).alloc (Nat.le_refl _) _
  clear h
  go_enter Try.func25, Try.ntmps25
  go_wp2_with fail
  generalize w.alloc (.cells #[.int .i64 r, .int .i64 c, .slice a L m] 26) = W at K RX BX ⊢
  obtain ⟨p0, p1, p2, -, -, -⟩ := K.out.all
  go_wp2_with fail
  refine (IM.out _ RX.out).mono ?_
  rintro e w0 ⟨rfl, hb⟩
  have B2 := Lib.hid (BX.out.trans (hb.mono BX.out.size))
  clear hb p0 p1 p2
  go_wp2_with fail
  exact bodyPost_ret (v := .bool false) (by simp [results, Try.results25, go_sem]) rfl ⟨rfl, B2.out⟩
theorem iIsEchelon (r c : Int) (a : Option Addr) (m : Nat) (xs : List Int) (w : World) (h : Rd w a xs) (hn : xs.length ≤ 16777216) (ha : Spot a) (ham : xs.length ≤ m) (haz : a = none → m = 0) :
    Calls Try.prog 25 #[.agg #[.int .i64 r, .int .i64 c, .slice a xs.length m]] w (Gives (.bool (echIs r c xs)) w) := by
  rcases Bool.eq_false_or_eq_true (isMat r c xs) with hm | hm
  · obtain ⟨⟨r0, r1⟩, ⟨c0, c1⟩, hl, nx⟩ := isMat_says hm
    obtain ⟨R, rfl⟩ := Int.eq_ofNat_of_zero_le r0
    obtain ⟨C, rfl⟩ := Int.eq_ofNat_of_zero_le c0
    have hx : xs.length = R * C := by rw [← Int.natCast_mul] at hl; omega
    refine iIsEch_t R C xs.length a m xs w h ha ham haz rfl hx (by omega) (by omega) nx hm _ ?_
    rw [EchB_iff hx nx]
    unfold echIs
    rw [hm, Bool.true_and]
    show _ ↔ (match echM R C xs with | some (ys, _) => decide (ys = xs) | none => false) = true
    cases he : echM R C xs with
    | none => exact ⟨fun ⟨pv, h⟩ => (by cases h), fun h => (by cases h)⟩
    | some o =>
      obtain ⟨ys, pv⟩ := o
      show _ ↔ decide (ys = xs) = true
      rw [decide_eq_true_eq]
      exact ⟨fun ⟨qv, h⟩ => (by injection h with h; injection h), fun h => ⟨pv, by rw [h]⟩⟩
  · have e : echIs r c xs = false := by unfold echIs; rw [hm]; rfl
    rw [e]
    exact iIsEch_f r c a m xs w h hn hm
end Go.Proofs.Ytbdofgkcedpamaa
end
