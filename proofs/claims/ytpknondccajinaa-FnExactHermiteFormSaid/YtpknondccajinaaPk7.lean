/-
  Texts of this seat, joined: HmI
-/
import Derived.Test.YtpknondccajinaaPk4
import Derived.Test.YtpknondccajinaaPk6

section
/-
  Chapter 12, in the model: IsHermite.
-/
namespace Go.Proofs.Ytpknondccajinaa
set_option maxRecDepth 100000
open Go.RowKit

set_option maxHeartbeats 4000000 in
theorem sIsHer_t (r c N : Nat) (a : Option Addr) (m : Nat) (xs : List Int) (w : World) (h : Rd w a xs) (hx : xs.length = N) (hN : N = r * c) (hr : r ≤ 24) (hc : c ≤ 24) (nx : nums xs = true) (hm : isMat r c xs = true) (PB : Bool) (hPB : HmB r c xs r 0 (-1) ↔ PB = true) :
    Calls Try.prog 25 #[.agg #[.int .i64 r, .int .i64 c, .slice a N m]] w (Gives (.bool PB) w) := by
  have hle : r * c ≤ 24 * 24 := Nat.mul_le_mul hr hc
  rw [← hN] at hle
  have IM : Hid (∀ w', Rd w' a xs → Calls Try.prog 44 #[.agg #[.int .i64 r, .int .i64 c, .slice a N m]] w' (Gives (.bool true) w')) := fun w' h' => by
    have := sIsMat r c a m xs w' h' (by omega)
    rw [hx, hm] at this
    exact this
  have CE : Hid (∀ i j w', i < r → j < c → Rd w' a xs → Calls Try.prog 62 #[.agg #[.int .i64 r, .int .i64 c, .slice a N m], .int .i64 i, .int .i64 j] w' (Gives (.int .i64 (mxC c xs i j)) w')) := fun i j w' hi hj h' => sCel r c a N m i j xs w' h' hx hN hr hc hi hj
  have VN : Hid (∀ i j, i < r → j < c → NumP (mxC c xs i j)) := fun i j hi hj => mx_nums (by rw [hx, hN]) nx hi hj
  have ST : Hid (IsSt w r c a N m xs (w.alloc (.cells #[.int .i64 r, .int .i64 c, .slice a N m] 26))) := ⟨Blk3.at_ _ _ _ _ rfl, h.below ((Below.refl _ _).alloc (Nat.le_refl _) _), (Below.refl _ _).alloc (Nat.le_refl _) _⟩
  have HB := Lib.hid hPB
  clear hN hx nx hm h hPB
  go_enter Try.func25, Try.ntmps25
  go_wp2_with fail
  generalize w.alloc (.cells #[.int .i64 r, .int .i64 c, .slice a N m] 26) = W at ST ⊢
  go_loopw [2, 3, 4, 5, 6, 7] (fun _ v3 v4 _ _ _ wr => ∃ (i k : Nat) (last : Int), v3 = .int .i64 last ∧ v4 = .int .i64 i ∧ i + k = r ∧ (HmB r c xs k i last ↔ PB = true) ∧ IsSt w r c a N m xs wr) (fun _ _ v4 _ _ _ _ => r - (intOf v4).toNat)
  case atStart => exact ⟨0, r, -1, rfl, rfl, by omega, HB.out, ST.out⟩
  case round =>
    clear ST HB
    obtain ⟨i, k, last, rfl, rfl, hik, hB, hst⟩ := hrel
    have ST := Lib.hid hst
    have HB := Lib.hid hB
    clear hst hB
    obtain ⟨p0, p1, p2, -, -, -⟩ := ST.out.blk.all
    by_cases hir : i < r
    rotate_left
    · obtain rfl : k = 0 := by omega
      have PY : Hid (PB = true) := HB.out.mp trivial
      have IM1 := Lib.hid (IM.out _ ST.out.rd)
      go_wp2_with fail
      refine IM1.out.mono ?_
      rintro e w1 ⟨rfl, hb⟩
      have B1 := Lib.hid (ST.out.bel.trans (hb.mono ST.out.bel.size))
      clear hb
      go_wp2_with fail
      exact bodyPost_ret (v := .bool true) (by simp [results, Try.results25, go_sem]) rfl ⟨by rw [PY.out], B1.out⟩
    obtain ⟨k, rfl⟩ : ∃ k', k = k' + 1 := ⟨k - 1, by omega⟩
    have HB := Lib.hid (HmB_step.symm.trans HB.out)
    go_wp2_with fail
    refine (IM.out _ ST.out.rd).mono ?_
    rintro e w1 ⟨rfl, hb⟩
    have ST := Lib.hid (ST.out.step hb)
    clear hb p0 p1 p2
    obtain ⟨p0, p1, p2, -, -, -⟩ := ST.out.blk.all
    go_wp2_with fail
    clear p0 p1 p2
    go_loopw [5] (fun v5 wq => ∃ p : Nat, v5 = .int .i64 p ∧ p ≤ c ∧ (∀ q, q < p → mxC c xs i q = 0) ∧ IsSt w r c a N m xs wq) (fun v5 _ => c - (intOf v5).toNat)
    case atStart => exact ⟨0, rfl, by omega, fun q hq => by omega, ST.out⟩
    case round =>
      clear ST
      obtain ⟨p, rfl, hp, hz, hst⟩ := hrel
      have ST := Lib.hid hst
      have HZ := Lib.hid hz
      clear hst hz
      obtain ⟨p0, p1, p2, -, -, -⟩ := ST.out.blk.all
      by_cases hpc : p < c
      rotate_left
      · obtain rfl : c = p := by omega
        have LC : Hid (leadC c (mxC c xs i) = c) := leadF_eq (Nat.zero_le _) (by omega) (fun q _ hq => HZ.out q hq) (fun h1 => by omega)
        have HN2 : Hid (HmB r c xs k (i + 1) (c : Int) ↔ PB = true) := by
          have h := HB.out
          rw [LC.out] at h
          exact ⟨fun h1 => h.mp ⟨fun hh => by have := hh.1; rw [LC.out] at this; omega, fun hh => by have := hh.1; rw [LC.out] at this; omega, h1⟩, fun e => (h.mpr e).2.2⟩
        clear LC HZ HB
        go_wp2_with fail
        clear p0 p1 p2
        go_loopw [2, 6, 7] (fun _ v6 _ wk => v6 = .int .i64 0 ∧ IsSt w r c a N m xs wk) (fun _ _ _ _ => 0)
        case atStart => exact ⟨rfl, ST.out⟩
        case round =>
          clear ST
          obtain ⟨rfl, hst⟩ := hrel
          have ST := Lib.hid hst
          clear hst
          obtain ⟨p0, p1, p2, -, -, -⟩ := ST.out.blk.all
          have r1 : (0 : Int) < (r : Int) := by omega
          go_wp2_with fail
          go_roundw
          case rel => exact ⟨i + 1, k, (c : Int), rfl, by go_num, by omega, HN2.out, ST.out⟩
          case measure => simp [intOf]; omega
      have CX := Lib.hid (CE.out i p _ hir hpc ST.out.rd)
      have nX := VN.out i p hir hpc
      obtain ⟨x, hx⟩ : ∃ x, mxC c xs i p = x := ⟨_, rfl⟩
      have X := Lib.hid hx
      rw [hx] at CX nX
      clear hx
      go_wp2_with fail
      refine CX.out.mono ?_
      rintro e w2 ⟨rfl, hb⟩
      have ST := Lib.hid (ST.out.step hb)
      clear hb CX p0 p1 p2
      by_cases hx0 : x = 0
      · have HZ2 : Hid (∀ q, q < p + 1 → mxC c xs i q = 0) := fun q hq => by
          rcases Nat.lt_or_ge q p with h3 | h3
          · exact HZ.out q h3
          · obtain rfl : q = p := by omega
            rw [X.out]; exact hx0
        have n1 : (x == 0) = true := by simpa using hx0
        clear hx0
        go_wp2_with fail
        go_roundw
        case rel => exact ⟨p + 1, by go_num, by omega, HZ2.out, ST.out⟩
        case measure => simp [intOf]; omega
      have n1 : (x == 0) = false := by simpa using hx0
      have LC : Hid (leadC c (mxC c xs i) = p) := leadF_eq (Nat.zero_le _) (by omega) (fun q _ hq => HZ.out q hq) (fun _ e => hx0 (by rw [← X.out]; exact e))
      clear hx0 HZ
      obtain ⟨p0, p1, p2, -, -, -⟩ := ST.out.blk.all
      by_cases h1 : last = (c : Int)
      · have m1 : (last == (c : Int)) = true := by simp [h1]
        have PN : Hid (PB = false) := Bool.eq_false_iff.mpr (fun e => (HB.out.mpr e).1 ⟨by rw [LC.out]; exact hpc, .inl h1⟩)
        clear h1
        go_wp2_with fail
        exact bodyPost_ret (v := .bool false) (by simp [results, Try.results25, go_sem]) rfl ⟨by rw [PN.out], ST.out.bel⟩
      have m1 : (last == (c : Int)) = false := by simpa using h1
      by_cases h2 : (p : Int) ≤ last
      · have m2 : decide ((p : Int) ≤ last) = true := by simpa using h2
        have PN : Hid (PB = false) := Bool.eq_false_iff.mpr (fun e => (HB.out.mpr e).1 ⟨by rw [LC.out]; exact hpc, .inr (.inl (by rw [LC.out]; exact h2))⟩)
        clear h1
        go_wp2_with fail
        exact bodyPost_ret (v := .bool false) (by simp [results, Try.results25, go_sem]) rfl ⟨by rw [PN.out], ST.out.bel⟩
      have m2 : decide ((p : Int) ≤ last) = false := by simpa using h2
      have CX := Lib.hid (CE.out i p _ hir hpc ST.out.rd)
      rw [X.out] at CX
      have HR1 : Hid (¬ last = (c : Int)) := h1
      have HR2 : Hid (¬ (p : Int) ≤ last) := h2
      clear h1 h2
      go_wp2_with fail
      refine CX.out.mono ?_
      rintro e w3 ⟨rfl, hb⟩
      have ST := Lib.hid (ST.out.step hb)
      clear hb CX p0 p1 p2
      obtain ⟨p0, p1, p2, -, -, -⟩ := ST.out.blk.all
      by_cases h3 : x < 0
      · have PN : Hid (PB = false) := Bool.eq_false_iff.mpr (fun e => (HB.out.mpr e).1 ⟨by rw [LC.out]; exact hpc, .inr (.inr (by rw [LC.out, X.out]; exact h3))⟩)
        go_wp2_with fail
        exact bodyPost_ret (v := .bool false) (by simp [results, Try.results25, go_sem]) rfl ⟨by rw [PN.out], ST.out.bel⟩
      have GR : Hid (¬ hrBad c xs i last) := fun ⟨_, h⟩ => by
        rw [LC.out, X.out] at h
        rcases h with h | h | h
        · exact HR1.out h
        · exact absurd h (by have := HR2.out; omega)
        · exact h3 h
      go_wp2_with fail
      clear p0 p1 p2 m1 m2 HR1 HR2 n1
      obtain ⟨nX1, nX2⟩ := nX
      have v1 : IntKind.i64.wrap (x - 1) = x - 1 := IntWalk.i64_in _ (by omega)
      go_loopw [2, 6, 7] (fun _ v6 _ wk => ∃ k2 : Nat, v6 = .int .i64 k2 ∧ k2 ≤ r ∧ (∀ q, q < k2 → (q < i → 0 ≤ mxC c xs q p ∧ mxC c xs q p ≤ x - 1) ∧ (i < q → mxC c xs q p = 0)) ∧ IsSt w r c a N m xs wk) (fun _ v6 _ _ => r - (intOf v6).toNat)
      case atStart => exact ⟨0, rfl, by omega, fun q hq => by omega, ST.out⟩
      case round =>
        clear ST
        obtain ⟨k2, rfl, hk2, hk0, hst⟩ := hrel
        have ST := Lib.hid hst
        have K0 := Lib.hid hk0
        clear hst hk0
        obtain ⟨p0, p1, p2, -, -, -⟩ := ST.out.blk.all
        by_cases hkr : k2 < r
        rotate_left
        · obtain rfl : r = k2 := by omega
          have NC : Hid (¬ hcBad r c xs i) := fun ⟨_, q, hq, h⟩ => by
            rw [LC.out, X.out] at h
            rcases h with ⟨h5, h6⟩ | ⟨h5, h6⟩
            · exact h6 ((K0.out q hq).1 h5)
            · exact h6 ((K0.out q hq).2 h5)
          have HN2 : Hid (HmB r c xs k (i + 1) (p : Int) ↔ PB = true) := by
            have h := HB.out
            rw [LC.out] at h
            exact ⟨fun h1 => h.mp ⟨GR.out, NC.out, h1⟩, fun e => (h.mpr e).2.2⟩
          clear NC GR HB K0
          go_wp2_with fail
          go_roundw
          case rel => exact ⟨i + 1, k, (p : Int), rfl, by go_num, by omega, HN2.out, ST.out⟩
          case measure => simp [intOf]; omega
        have CY := Lib.hid (CE.out k2 p _ hkr hpc ST.out.rd)
        obtain ⟨y, hy⟩ : ∃ y, mxC c xs k2 p = y := ⟨_, rfl⟩
        have Y := Lib.hid hy
        rw [hy] at CY
        have KS : Hid ((k2 < i → 0 ≤ y ∧ y ≤ x - 1) → (i < k2 → y = 0) → ∀ q, q < k2 + 1 → (q < i → 0 ≤ mxC c xs q p ∧ mxC c xs q p ≤ x - 1) ∧ (i < q → mxC c xs q p = 0)) := fun e1 e2 q hq => by
          rcases Nat.lt_or_ge q k2 with h3 | h3
          · exact K0.out q h3
          · obtain rfl : q = k2 := by omega
            rw [Y.out]
            exact ⟨e1, e2⟩
        clear hy K0
        go_wp2_with fail
        refine CY.out.mono ?_
        rintro e w4 ⟨rfl, hb⟩
        have ST := Lib.hid (ST.out.step hb)
        clear hb CY p0 p1 p2
        obtain ⟨p0, p1, p2, -, -, -⟩ := ST.out.blk.all
        by_cases hki : k2 < i
        · have k9 : ¬ i < k2 := by omega
          have CX := Lib.hid (CE.out i p _ hir hpc ST.out.rd)
          rw [X.out] at CX
          go_wp2_with fail
          refine CX.out.mono ?_
          rintro e w5 ⟨rfl, hb⟩
          have ST := Lib.hid (ST.out.step hb)
          clear hb CX p0 p1 p2
          by_cases hin : 0 ≤ y ∧ y ≤ x - 1
          · have KN := Lib.hid (KS.out (fun _ => hin) (fun h => by omega))
            have IN : Hid (∀ w', Calls Try.prog 63 #[.int .i64 y, .int .i64 0, .int .i64 (x - 1)] w' fun e w2 => e = .returned (.bool true) ∧ w' = w2) := fun w' => sIn_t y 0 (x - 1) w' hin.1 hin.2
            clear hin KS
            go_wp2_with fail
            with_reducible refine (IN.out _).mono ?_
            rintro e w6 ⟨rfl, rfl⟩
            go_wp2_with fail
            go_roundw
            case rel => exact ⟨k2 + 1, by go_num, by omega, KN.out, ST.out⟩
            case measure => simp [intOf]; omega
          · have PN : Hid (PB = false) := Bool.eq_false_iff.mpr (fun e => (HB.out.mpr e).2.1 ⟨by rw [LC.out]; exact hpc, k2, hkr, .inl ⟨hki, by rw [LC.out, X.out, Y.out]; exact hin⟩⟩)
            have IN : Hid (∀ w', Calls Try.prog 63 #[.int .i64 y, .int .i64 0, .int .i64 (x - 1)] w' fun e w2 => e = .returned (.bool false) ∧ w' = w2) := fun w' => sIn_f y 0 (x - 1) w' (by omega)
            clear hin KS
            go_wp2_with fail
            with_reducible refine (IN.out _).mono ?_
            rintro e w6 ⟨rfl, rfl⟩
            go_wp2_with fail
            exact bodyPost_ret (v := .bool false) (by simp [results, Try.results25, go_sem]) rfl ⟨by rw [PN.out], ST.out.bel⟩
        · by_cases hik2 : i < k2
          · by_cases hy0 : y = 0
            · have n6 : (y != 0) = false := by simp [hy0]
              have KN := Lib.hid (KS.out (fun h => absurd h hki) (fun _ => hy0))
              clear hy0 KS
              go_wp2_with fail
              go_roundw
              case rel => exact ⟨k2 + 1, by go_num, by omega, KN.out, ST.out⟩
              case measure => simp [intOf]; omega
            · have n6 : (y != 0) = true := by simpa using hy0
              have PN : Hid (PB = false) := Bool.eq_false_iff.mpr (fun e => (HB.out.mpr e).2.1 ⟨by rw [LC.out]; exact hpc, k2, hkr, .inr ⟨hik2, by rw [LC.out, Y.out]; exact hy0⟩⟩)
              clear hy0 KS
              go_wp2_with fail
              exact bodyPost_ret (v := .bool false) (by simp [results, Try.results25, go_sem]) rfl ⟨by rw [PN.out], ST.out.bel⟩
          · have KN := Lib.hid (KS.out (fun h => absurd h hki) (fun h => absurd h hik2))
            clear KS
            go_wp2_with fail
            go_roundw
            case rel => exact ⟨k2 + 1, by go_num, by omega, KN.out, ST.out⟩
            case measure => simp [intOf]; omega

theorem sIsHer_f (r c : Int) (a : Option Addr) (m : Nat) (xs : List Int) (w : World) (h : Rd w a xs) (hn : xs.length ≤ 16777216) (hm : isMat r c xs = false) :
    Calls Try.prog 25 #[.agg #[.int .i64 r, .int .i64 c, .slice a xs.length m]] w (Gives (.bool false) w) := by
  have IM : Hid (∀ w', Rd w' a xs → Calls Try.prog 44 #[.agg #[.int .i64 r, .int .i64 c, .slice a xs.length m]] w' (Gives (.bool false) w')) := fun w' h' => by
    have := sIsMat r c a m xs w' h' hn
    rw [hm] at this
    exact this
  clear hm hn
  generalize xs.length = L at IM ⊢
  have K : Hid (Blk3 (w.alloc (.cells #[.int .i64 r, .int .i64 c, .slice a L m] 26)) w.heap.size 26 (.int .i64 r) (.int .i64 c) (.slice a L m)) := Blk3.at_ _ _ _ _ rfl
  have RX := Lib.hid (h.below ((Below.refl _ _).alloc (Nat.le_refl _) (.cells #[.int .i64 r, .int .i64 c, .slice a L m] 26)))
  have BX : Hid (Below w.heap.size w (w.alloc (.cells #[.int .i64 r, .int .i64 c, .slice a L m] 26))) := (Below.refl _ _).alloc (Nat.le_refl _) _
  clear h
  go_enter Try.func25, Try.ntmps25
  go_wp2_with fail
  generalize w.alloc (.cells #[.int .i64 r, .int .i64 c, .slice a L m] 26) = W at K RX BX ⊢
  go_loopw [2, 3, 4, 5, 6, 7] (fun _ _ v4 _ _ _ wr => v4 = .int .i64 0 ∧ Blk3 wr w.heap.size 26 (.int .i64 r) (.int .i64 c) (.slice a L m) ∧ Rd wr a xs ∧ Below w.heap.size w wr) (fun _ _ _ _ _ _ _ => 0)
  case atStart => exact ⟨rfl, K.out, RX.out, BX.out⟩
  case round =>
    clear K RX BX
    obtain ⟨rfl, hk, hr, hb⟩ := hrel
    have K := Lib.hid hk
    have RX := Lib.hid hr
    have BX := Lib.hid hb
    clear hk hr hb
    obtain ⟨p0, p1, p2, -, -, -⟩ := K.out.all
    by_cases h0 : 0 < r
    · go_wp2_with fail
      refine (IM.out _ RX.out).mono ?_
      rintro e w0 ⟨rfl, hb⟩
      have K := Lib.hid (K.out.step hb)
      have RX := Lib.hid (RX.out.below hb)
      have BX := Lib.hid (BX.out.trans (hb.mono BX.out.size))
      clear hb p0 p1 p2
      obtain ⟨p0, p1, p2, -, -, -⟩ := K.out.all
      go_wp2_with fail
      refine (IM.out _ RX.out).mono ?_
      rintro e w1 ⟨rfl, hb⟩
      have B2 := Lib.hid (BX.out.trans (hb.mono BX.out.size))
      clear hb p0 p1 p2
      go_wp2_with fail
      exact bodyPost_ret (v := .bool false) (by simp [results, Try.results25, go_sem]) rfl ⟨rfl, B2.out⟩
    · go_wp2_with fail
      refine (IM.out _ RX.out).mono ?_
      rintro e w1 ⟨rfl, hb⟩
      have B2 := Lib.hid (BX.out.trans (hb.mono BX.out.size))
      clear hb p0 p1 p2
      go_wp2_with fail
      exact bodyPost_ret (v := .bool false) (by simp [results, Try.results25, go_sem]) rfl ⟨rfl, B2.out⟩
/-- IsHermite: whether it is a matrix in Hermite form. -/
theorem sIsHermite (r c : Int) (a : Option Addr) (m : Nat) (xs : List Int) (w : World) (h : Rd w a xs) (hn : xs.length ≤ 16777216) :
    Calls Try.prog 25 #[.agg #[.int .i64 r, .int .i64 c, .slice a xs.length m]] w (Gives (.bool (herIs r c xs)) w) := by
  rcases Bool.eq_false_or_eq_true (isMat r c xs) with hm | hm
  · obtain ⟨⟨r0, r1⟩, ⟨c0, c1⟩, hl, nx⟩ := isMat_says hm
    obtain ⟨R, rfl⟩ := Int.eq_ofNat_of_zero_le r0
    obtain ⟨C, rfl⟩ := Int.eq_ofNat_of_zero_le c0
    have hx : xs.length = R * C := by rw [← Int.natCast_mul] at hl; omega
    exact sIsHer_t R C xs.length a m xs w h rfl hx (by omega) (by omega) nx hm _ (herIs_iff hm)
  · rw [herIs_no hm]
    exact sIsHer_f r c a m xs w h hn hm
end Go.Proofs.Ytpknondccajinaa
end
