/-
  Texts of this seat, joined: BndS
-/
import Derived.Test.YtgemkfcapkfdbaaPk3
import Derived.Test.YtgemkfcapkfdbaaPk5

section
/-
  Chapter 9, in the model: RowBound.
-/
namespace Go.Proofs.Ytgemkfcapkfdbaa
set_option maxRecDepth 100000
open Go.RowKit

/-- A sum, or the mark where it is beyond the limit. -/
def sumV (n : Nat) (xs : List Int) (i j : Nat) : Int := if rowA n xs i j ≤ 400000000 then rowA n xs i j else badN
def bndV (n : Nat) (xs : List Int) (i : Nat) : Int := match bndTo n xs i with | some P => P | none => badN
theorem addB_badl (a : Int) : addB badN a = badN := by unfold addB; rw [if_pos (.inl rfl)]
theorem mulB_badl (a : Int) : mulB badN a = badN := by unfold mulB; rw [if_pos (.inl rfl)]
theorem mulB_badr (a : Int) : mulB a badN = badN := by unfold mulB; rw [if_pos (.inr rfl)]
theorem sumV_zero (n : Nat) (xs : List Int) (i : Nat) : sumV n xs i 0 = 0 := rfl
theorem sumV_step {n : Nat} {xs : List Int} {i j : Nat} {x : Int} (hx : xs.getD (i * n + j) 0 = x) (h : NumP x) : addB (sumV n xs i j) (x.natAbs : Int) = sumV n xs i (j + 1) := by
  have r0 := rowA_nonneg n xs i j
  have e : rowA n xs i (j + 1) = rowA n xs i j + (x.natAbs : Int) := by rw [rowA_step, hx]
  obtain ⟨x0, x1⟩ := h
  unfold sumV
  rw [e]
  by_cases h1 : rowA n xs i j ≤ 400000000
  · rw [if_pos h1, addB_num ⟨by omega, h1⟩ ⟨by omega, by omega⟩]
    by_cases h2 : rowA n xs i j + (x.natAbs : Int) ≤ 400000000
    · rw [if_pos h2, fitB_num ⟨by omega, h2⟩]
    · rw [if_neg h2]
      unfold fitB
      exact if_neg fun h => h2 h.2
  · rw [if_neg h1, addB_badl, if_neg (by omega)]
theorem bndV_zero (n : Nat) (xs : List Int) : bndV n xs 0 = 1 := rfl
theorem bndV_step {n : Nat} {xs : List Int} {i : Nat} : mulB (bndV n xs i) (sumV n xs i n) = bndV n xs (i + 1) := by
  have r0 := rowA_nonneg n xs i n
  unfold bndV sumV
  cases hb : bndTo n xs i with
  | none =>
    rw [bndTo_none hb (i + 1) (by omega)]
    exact mulB_badl _
  | some P =>
    obtain ⟨p0, p1, -⟩ := bndTo_says hb
    show mulB P _ = _
    by_cases h1 : rowA n xs i n ≤ 400000000
    · rw [if_pos h1, mulB_pos ⟨p0, p1⟩ ⟨r0, h1⟩]
      by_cases h2 : P * rowA n xs i n ≤ 400000000
      · rw [if_pos h2, bndTo_yes hb h1 h2]
      · rw [if_neg h2, bndTo_no hb (.inr (by omega))]
    · rw [if_neg h1, bndTo_no hb (.inl (by omega)), mulB_badr]
theorem bndV_end {n : Nat} {xs : List Int} (h : isSq n n xs = true) : (bndV n xs n = badN ∧ bndX n n xs = (0, false)) ∨ (∃ P, bndV n xs n = P ∧ 0 ≤ P ∧ P ≤ 400000000 ∧ bndX n n xs = (P, true)) := by
  unfold bndV
  cases hb : bndTo n xs n with
  | none => exact .inl ⟨rfl, bndX_no h hb⟩
  | some P => exact .inr ⟨P, rfl, (bndTo_says hb).1, (bndTo_says hb).2.1, bndX_yes h hb⟩
set_option maxHeartbeats 2000000 in
theorem sBnd (r c : Int) (a : Option Addr) (m : Nat) (xs : List Int) (w : World) (h : Rd w a xs) (hn : xs.length ≤ 16777216) :
    Calls Try.prog 29 #[.agg #[.int .i64 r, .int .i64 c, .slice a xs.length m]] w (Gives (.tuple #[.int .i64 (bndX r c xs).1, .bool (bndX r c xs).2]) w) := by
  have SQ : Hid (∀ w', Below w.heap.size w w' → Calls Try.prog 49 #[.agg #[.int .i64 r, .int .i64 c, .slice a xs.length m]] w' (Gives (.bool (isSq r c xs)) w')) := fun w' hb => sIsSq r c a m xs w' (h.below hb) hn
  have B0 : Hid (Below w.heap.size w (w.alloc (.cells #[.int .i64 r, .int .i64 c, .slice a xs.length m] 34))) := (Below.refl _ _).alloc (Nat.le_refl _) _
  have K0 : Hid (Blk3 (w.alloc (.cells #[.int .i64 r, .int .i64 c, .slice a xs.length m] 34)) w.heap.size 34 (.int .i64 r) (.int .i64 c) (.slice a xs.length m)) := Blk3.at_ _ _ _ _ rfl
  rcases Bool.eq_false_or_eq_true (isSq r c xs) with hs | hs
  · have HS := hs
    rw [hs] at SQ
    obtain ⟨n, rfl, rfl, h6, hl, hnum⟩ := isSq_says hs
    have hle : n * n ≤ 6 * 6 := Nat.mul_le_mul h6 h6
    have RD := Lib.hid h
    have EN := Lib.hid (bndV_end HS)
    have IX : Hid (∀ i j, i < n → j < n → ∃ P : Nat, i * n + j = P ∧ P < n * n ∧ IntKind.i64.wrap ((i : Int) * (n : Int)) = (i : Int) * (n : Int) ∧ IntKind.i64.wrap ((i : Int) * (n : Int) + (j : Int)) = (P : Int)) := fun i j hi hj => by
      have h1 : i * n + j < n * n := idx_lt hi hj
      have c1 : (i : Int) * (n : Int) = ((i * n : Nat) : Int) := (Int.natCast_mul _ _).symm
      refine ⟨i * n + j, rfl, by omega, IntWalk.i64_in _ (by rw [c1]; omega), ?_⟩
      rw [show (i : Int) * (n : Int) + (j : Int) = ((i * n + j : Nat) : Int) by rw [c1]; omega]
      exact IntWalk.i64_in _ (by omega)
    have CX : Hid (∀ i j wr, i < n → j < n → Below w.heap.size w wr → ∀ P, i * n + j = P → ∃ (b o : Nat) (x : Int), a = some ⟨b, o, none⟩ ∧ wr.cell? ⟨b, o + P, none⟩ = some (.int .i64 x) ∧ NumP x ∧ addB (sumV n xs i j) (x.natAbs : Int) = sumV n xs i (j + 1)) := fun i j wr hi hj hb P hP => by
      subst hP
      have h1 : i * n + j < xs.length := by rw [hl]; exact idx_lt hi hj
      obtain ⟨b, o, ha, hc⟩ := (h.below hb) _ h1
      exact ⟨b, o, _, ha, hc, nums_at hnum h1, sumV_step rfl (nums_at hnum h1)⟩
    have SZ : Hid (∀ i, sumV n xs i 0 = 0) := fun i => sumV_zero n xs i
    have BZ : Hid (bndV n xs 0 = 1) := bndV_zero n xs
    have BS : Hid (∀ i, mulB (bndV n xs i) (sumV n xs i n) = bndV n xs (i + 1)) := fun i => bndV_step
    rw [hl] at SQ B0 K0 ⊢
    obtain ⟨N, hN⟩ : ∃ N, n * n = N := ⟨_, rfl⟩
    rw [hN] at SQ B0 K0 IX hle ⊢
    generalize bndV n xs = BV at EN BZ BS
    generalize sumV n xs = SV at CX SZ BS
    generalize bndX n n xs = RES at EN ⊢
    clear h hs HS hl hnum hN
    go_enter Try.func29, Try.ntmps29
    go_wp2_with fail
    refine (SQ.out _ B0.out).mono ?_
    rintro e w1 ⟨rfl, hb⟩
    have K1 := Lib.hid (K0.out.step hb)
    have B1 := Lib.hid (B0.out.trans (hb.mono (by simp)))
    clear hb K0 B0 SQ
    obtain ⟨p0, p1, p2, -, -, -⟩ := K1.out.all
    go_wp2_with fail
    go_loopw [4, 5, 6, 7] (fun v4 v5 _ _ wr => ∃ i : Nat, v4 = .int .i64 (BV i) ∧ v5 = .int .i64 i ∧ i ≤ n ∧ ∃ k, wr = w1.drewN k) (fun _ v5 _ _ _ => n - (intOf v5).toNat)
    case atStart => exact ⟨0, by rw [BZ.out], rfl, by omega, 0, rfl⟩
    case round =>
      obtain ⟨i, rfl, rfl, hi, k, rfl⟩ := hrel
      have K2 := Lib.hid (K1.out.drewN k)
      have B2 := Lib.hid (below_drewN B1.out k)
      clear p0 p1 p2
      obtain ⟨p0, p1, p2, -, -, -⟩ := K2.out.all
      by_cases hlt : i < n
      · go_wp2_with fail
        clear p0 p1 p2 K2 B2
        go_loopw [6, 7] (fun v6 v7 wr => ∃ j : Nat, v6 = .int .i64 (SV i j) ∧ v7 = .int .i64 j ∧ j ≤ n ∧ ∃ k, wr = w1.drewN k) (fun _ v7 _ => n - (intOf v7).toNat)
        case atStart => exact ⟨0, by rw [SZ.out], rfl, by omega, k, rfl⟩
        case round =>
          obtain ⟨j, rfl, rfl, hj, k, rfl⟩ := hrel
          have K2 := Lib.hid (K1.out.drewN k)
          have B2 := Lib.hid (below_drewN B1.out k)
          obtain ⟨p0, p1, p2, -, -, -⟩ := K2.out.all
          by_cases hlj : j < n
          · obtain ⟨P, hP, hPN, u1, u2⟩ := IX.out i j hlt hlj
            have Pa : (0 : Int) ≤ (P : Int) := by omega
            have Pb : (P : Int) < (N : Int) := by omega
            obtain ⟨b, o, x, rfl, hcell, ⟨x0, x1⟩, hs⟩ := CX.out i j _ hlt hlj B2.out P hP
            have HS := Lib.hid hs
            clear hP hs
            go_wp2_with fail
            refine (sAbs x _ (by omega) (by omega)).mono ?_
            rintro e w2 ⟨rfl, rfl⟩
            go_wp2_with fail
            refine (sAddB _ _ _).mono ?_
            rintro e w2 ⟨rfl, rfl⟩
            rw [HS.out]
            go_wp2_with fail
            go_roundw
            case rel => exact ⟨j + 1, rfl, by go_num, by omega, _, rfl⟩
            case measure => simp [intOf]; omega
          · obtain rfl : j = n := by omega
            go_wp2_with fail
            refine (sMulB _ _ _).mono ?_
            rintro e w2 ⟨rfl, rfl⟩
            rw [BS.out]
            go_wp2_with fail
            go_roundw
            case rel => exact ⟨i + 1, rfl, by go_num, by omega, k, rfl⟩
            case measure => simp [intOf]; omega
      · obtain rfl : i = n := by omega
        rcases EN.out with ⟨e1, e2⟩ | ⟨P, e1, q0, q1, e2⟩
        · rw [e1]
          have E2 := Lib.hid e2
          clear EN e1 e2
          go_wp2_with fail
          exact bodyPost_ret (v := .tuple #[.int .i64 0, .bool false]) (by simp [results, Try.results29, go_sem]) rfl ⟨by rw [E2.out], B2.out⟩
        · rw [e1]
          have E2 := Lib.hid e2
          have n0 : (P == -4611686018427387904) = false := by simp; omega
          clear EN e1 e2
          go_wp2_with fail
          exact bodyPost_ret (v := .tuple #[.int .i64 P, .bool true]) (by simp [results, Try.results29, go_sem]) rfl ⟨by rw [E2.out], B2.out⟩
  · have V := Lib.hid (bndX_sq hs)
    rw [hs] at SQ
    generalize xs.length = L at SQ B0 ⊢
    clear h hn K0 hs
    go_enter Try.func29, Try.ntmps29
    go_wp2_with fail
    refine (SQ.out _ B0.out).mono ?_
    rintro e w1 ⟨rfl, hb⟩
    have B1 := Lib.hid (B0.out.trans (hb.mono (by simp)))
    go_wp2_with fail
    rw [V.out]
    exact bodyPost_ret (v := .tuple #[.int .i64 0, .bool false]) (by simp [results, Try.results29, go_sem]) rfl ⟨rfl, B1.out⟩
end Go.Proofs.Ytgemkfcapkfdbaa
end
