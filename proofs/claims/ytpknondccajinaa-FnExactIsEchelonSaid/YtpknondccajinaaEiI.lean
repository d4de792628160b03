/-
  Chapter 7, in the program: IsEchelon.
-/
import Derived.Test.YtpknondccajinaaAlI
namespace Go.Proofs.Ytpknondccajinaa
set_option maxRecDepth 100000
open Go.RowKit

set_option maxHeartbeats 2000000 in
theorem iIsEch_t (r c N : Nat) (a : Option Addr) (m : Nat) (xs : List Int) (w : World) (h : Rd w a xs) (ha : Spot a) (ham : N ≤ m) (haz : a = none → m = 0) (hx : xs.length = N) (hN : N = r * c) (hr : r ≤ 24) (hc : c ≤ 24) (nx : nums xs = true) (hm : isMat r c xs = true) (PB : Bool) (hPB : EchB r c xs r 0 (-1) ↔ PB = true) :
    Calls Try.prog 17 #[.agg #[.int .i64 r, .int .i64 c, .slice a N m]] w (Gives (.bool PB) w) := by
  have hle : r * c ≤ 24 * 24 := Nat.mul_le_mul hr hc
  rw [← hN] at hle
  have hl : xs.length = r * c := by rw [hx, hN]
  have IM : Hid (∀ w', Rd w' a xs → Calls Try.prog 36 #[.agg #[.int .i64 r, .int .i64 c, .slice a N m]] w' (Gives (.bool true) w')) := fun w' h' => by
    have := iIsMat r c a m xs w' h' (by omega)
    rw [hx, hm] at this
    exact this
  have RW : Hid (∀ i w', i < r → Calls Try.prog 39 #[.agg #[.int .i64 r, .int .i64 c, .slice a N m], .int .i64 i] w' (RowAt a (i * c) c w')) := fun i w' hi => iRowIn r c i (i * c) N m a w' ha rfl (by rw [hN, ← Nat.succ_mul]; exact Nat.mul_le_mul_right _ hi) ham haz (by omega) (by omega)
  have RD : Hid (∀ i w' q', i < r → Rd w' a xs → (∀ g o : Nat, a = some ⟨g, o, none⟩ → 0 < c → q' = some ⟨g, o + i * c, none⟩) → Rd w' q' (rwL c (mxC c xs i))) := fun i w' q' hi h' hq => h'.row hl hi hq
  have VN : Hid (∀ i j, i < r → j < c → NumP (mxC c xs i j)) := fun i j hi hj => mx_nums hl nx hi hj
  have AL : Hid (∀ i l w' b, i < r → l < c → Rd w' a xs → (b = true ↔ ∀ k, k < r → k ≠ i → mxC c xs k l = 0) → Calls Try.prog 53 #[.agg #[.int .i64 r, .int .i64 c, .slice a N m], .int .i64 0, .int .i64 i, .int .i64 l] w' (Gives (.bool b) w')) := fun i l w' b hi hl' h' hb => iAloneF r c N 0 i l a m xs w' h' hx hN hr hc hl' (Nat.zero_le _) b ⟨fun e k _ => hb.mp e k, fun e => hb.mpr fun k => e k (Nat.zero_le _)⟩
  have ST : Hid (IsSt w r c a N m xs (w.alloc (.cells #[.int .i64 r, .int .i64 c, .slice a N m] 26))) := ⟨Blk3.at_ _ _ _ _ rfl, h.below ((Below.refl _ _).alloc (Nat.le_refl _) _), (Below.refl _ _).alloc (Nat.le_refl _) _⟩
  have HB := Lib.hid hPB
  clear hN hx nx hm h hPB hl ha ham haz
  go_enter Try.func17, Try.ntmps17
  go_wp2_with fail
  generalize w.alloc (.cells #[.int .i64 r, .int .i64 c, .slice a N m] 26) = W at ST ⊢
  obtain ⟨p0, p1, p2, -, -, -⟩ := ST.out.blk.all
  go_wp2_with fail
  refine (IM.out _ ST.out.rd).mono ?_
  rintro e w1 ⟨rfl, hb⟩
  have ST := Lib.hid (ST.out.step hb)
  clear hb p0 p1 p2
  obtain ⟨p0, p1, p2, -, -, -⟩ := ST.out.blk.all
  go_wp2_with fail
  clear p0 p1 p2
  go_loopw [2, 3, 4, 5, 6, 12, 20, 24] (fun _ v3 _ _ _ v12 _ _ wr => ∃ (i k : Nat) (last : Int), v12 = .int .i64 i ∧ v3 = .int .i64 last ∧ i + k = r ∧ (-1 ≤ last ∧ last ≤ c) ∧ (EchB r c xs k i last ↔ PB = true) ∧ IsSt w r c a N m xs wr) (fun _ _ _ _ _ v12 _ _ _ => r - (intOf v12).toNat)
  case atStart => exact ⟨0, r, -1, rfl, rfl, by omega, ⟨by omega, by omega⟩, HB.out, ST.out⟩
  case round =>
    clear ST HB
    obtain ⟨i, k, last, rfl, rfl, hik, ⟨la1, la2⟩, hB, hst⟩ := hrel
    have ST := Lib.hid hst
    have HB := Lib.hid hB
    clear hst hB
    obtain ⟨p0, p1, p2, -, -, -⟩ := ST.out.blk.all
    by_cases hir : i < r
    · obtain ⟨k, rfl⟩ : ∃ k', k = k' + 1 := ⟨k - 1, by omega⟩
      go_wp2_with fail
      refine (RW.out i _ hir).mono ?_
      rintro e w2 ⟨q', m', rfl, -, hq', -, hb⟩
      have ST := Lib.hid (ST.out.step hb)
      have R2 := Lib.hid (RD.out i _ q' hir ST.out.rd hq')
      clear hb hq' p0 p1 p2
      obtain ⟨p0, p1, p2, -, -, -⟩ := ST.out.blk.all
      have LD : Hid (Calls Try.prog 52 #[.slice q' c m'] w2 (fun e w' => e = .returned (.int .i64 (leadC c (mxC c xs i) : Int)) ∧ w' = w2)) := iLead c m' q' _ w2 R2.out hc
      have SG : Hid (Calls Try.prog 40 #[.slice q' c m'] w2 (fun e w' => e = .returned (.int .i64 (sgD c (mxC c xs i))) ∧ ∃ n, w' = w2.drewN n)) := iSgD c m' q' _ w2 R2.out hc (fun j hj => VN.out i j hir hj)
      obtain ⟨l1, -, -⟩ := leadC_says c (mxC c xs i)
      have H1 : Hid (sgD c (mxC c xs i) ≠ 1 → PB = false) := fun h => by
        cases hp : PB with
        | false => rfl
        | true =>
          have h1 := HB.out.mpr hp
          have h2 := Classical.not_not.mp (fun h3 => h (sgD_one.mpr h3))
          exact absurd ⟨h2.1, .inr (.inr h2.2)⟩ h1.1
      have H2 : Hid (leadC c (mxC c xs i) < c → (leadC c (mxC c xs i) : Int) ≤ last → PB = false) := fun h h2 => by
        cases hp : PB with
        | false => rfl
        | true => exact absurd ⟨h, .inr (.inl h2)⟩ (HB.out.mpr hp).1
      have H3 : Hid (leadC c (mxC c xs i) < c → ¬ (∀ p, p < r → p ≠ i → mxC c xs p (leadC c (mxC c xs i)) = 0) → PB = false) := fun h h2 => by
        cases hp : PB with
        | false => rfl
        | true =>
          refine absurd (fun p hp1 hp2 => ?_) h2
          exact Classical.byContradiction fun h3 => (HB.out.mpr hp).2.1 ⟨h, p, hp1, hp2, h3⟩
      have H4 : Hid (sgD c (mxC c xs i) = 1 → (leadC c (mxC c xs i) < c → ¬ (leadC c (mxC c xs i) : Int) ≤ last ∧ ∀ p, p < r → p ≠ i → mxC c xs p (leadC c (mxC c xs i)) = 0) → (EchB r c xs k (i + 1) (leadC c (mxC c xs i)) ↔ PB = true)) := fun h1 h2 => by
        rw [← HB.out, EchB_step]
        refine ⟨fun h3 => ⟨fun h4 => ?_, fun h4 => ?_, h3⟩, fun h3 => h3.2.2⟩
        · obtain ⟨h5, h6 | h6 | h6⟩ := h4
          · have := (h2 h5).1; omega
          · exact (h2 h5).1 h6
          · exact sgD_one.mp h1 ⟨h5, h6⟩
        · obtain ⟨h5, p, h6, h7, h8⟩ := h4
          exact h8 ((h2 h5).2 p h6 h7)
      have AI : Hid (∀ w' b, leadC c (mxC c xs i) < c → Rd w' a xs → (b = true ↔ ∀ p, p < r → p ≠ i → mxC c xs p (leadC c (mxC c xs i)) = 0) → Calls Try.prog 53 #[.agg #[.int .i64 r, .int .i64 c, .slice a N m], .int .i64 0, .int .i64 i, .int .i64 (leadC c (mxC c xs i) : Int)] w' (Gives (.bool b) w')) := fun w' b hl' h' hb => AL.out i _ w' b hir hl' h' hb
      generalize sgD c (mxC c xs i) = d at SG H1 H4
      generalize leadC c (mxC c xs i) = l at LD l1 H2 H3 H4 AI
      clear R2 HB
      go_wp2_with fail
      refine LD.out.mono ?_
      rintro e w3 ⟨rfl, rfl⟩
      go_wp2_with fail
      refine SG.out.mono ?_
      rintro e w4 ⟨rfl, n, rfl⟩
      have ST := Lib.hid (ST.out.drewN n)
      clear p0 p1 p2 LD SG
      generalize w3.drewN n = w4 at ST ⊢
      obtain ⟨p0, p1, p2, -, -, -⟩ := ST.out.blk.all
      by_cases hd : d = 1
      · have n1 : (d != 1) = false := by simp [hd]
        have n2 : (d == 1) = true := by simp [hd]
        by_cases hlc : l < c
        · have n3 : decide ((l : Int) < (c : Int)) = true := decide_eq_true (by omega)
          by_cases hla : (l : Int) ≤ last
          · have n4 : decide ((l : Int) ≤ last) = true := decide_eq_true hla
            have F := Lib.hid (H2.out hlc hla)
            clear hd hla
            go_wp2_with fail
            exact bodyPost_ret (v := .bool false) (by simp [results, Try.results17, go_sem]) rfl ⟨by rw [F.out], ST.out.bel⟩
          · have n4 : decide ((l : Int) ≤ last) = false := decide_eq_false hla
            by_cases hal : ∀ p, p < r → p ≠ i → mxC c xs p l = 0
            · have AT : Hid (∀ w', Rd w' a xs → Calls Try.prog 53 #[.agg #[.int .i64 r, .int .i64 c, .slice a N m], .int .i64 0, .int .i64 i, .int .i64 l] w' (Gives (.bool true) w')) := fun w' h' => AI.out w' true hlc h' ⟨fun _ => hal, fun _ => rfl⟩
              have HE := Lib.hid (H4.out hd (fun _ => ⟨by omega, hal⟩))
              clear hd hla hal
              go_wp2_with fail
              refine (AT.out _ ST.out.rd).mono ?_
              rintro e w5 ⟨rfl, hb⟩
              have ST := Lib.hid (ST.out.step hb)
              clear hb p0 p1 p2
              go_wp2_with fail
              go_roundw
              case rel => exact ⟨i + 1, k, l, by go_num, rfl, by omega, ⟨by omega, by omega⟩, HE.out, ST.out⟩
              case measure => simp [intOf]; omega
            · have AF : Hid (∀ w', Rd w' a xs → Calls Try.prog 53 #[.agg #[.int .i64 r, .int .i64 c, .slice a N m], .int .i64 0, .int .i64 i, .int .i64 l] w' (Gives (.bool false) w')) := fun w' h' => AI.out w' false hlc h' ⟨fun h => (by cases h), fun h => absurd h hal⟩
              have F := Lib.hid (H3.out hlc hal)
              clear hd hla hal
              go_wp2_with fail
              refine (AF.out _ ST.out.rd).mono ?_
              rintro e w5 ⟨rfl, hb⟩
              have ST := Lib.hid (ST.out.step hb)
              clear hb p0 p1 p2
              go_wp2_with fail
              exact bodyPost_ret (v := .bool false) (by simp [results, Try.results17, go_sem]) rfl ⟨by rw [F.out], ST.out.bel⟩
        · have n3 : decide ((l : Int) < (c : Int)) = false := decide_eq_false (by omega)
          have HE := Lib.hid (H4.out hd (fun h => absurd h hlc))
          clear hd
          go_wp2_with fail
          go_roundw
          case rel => exact ⟨i + 1, k, l, by go_num, rfl, by omega, ⟨by omega, by omega⟩, HE.out, ST.out⟩
          case measure => simp [intOf]; omega
      · have n1 : (d != 1) = true := by simpa using hd
        have n2 : (d == 1) = false := by simpa using hd
        have F := Lib.hid (H1.out hd)
        clear hd
        go_wp2_with fail
        exact bodyPost_ret (v := .bool false) (by simp [results, Try.results17, go_sem]) rfl ⟨by rw [F.out], ST.out.bel⟩
    · obtain rfl : k = 0 := by omega
      have T : Hid (PB = true) := HB.out.mp trivial
      clear hir
      go_wp2_with fail
      exact bodyPost_ret (v := .bool true) (by simp [results, Try.results17, go_sem]) rfl ⟨by rw [T.out], ST.out.bel⟩
theorem iIsEch_f (r c : Int) (a : Option Addr) (m : Nat) (xs : List Int) (w : World) (h : Rd w a xs) (hn : xs.length ≤ 16777216) (hm : isMat r c xs = false) :
    Calls Try.prog 17 #[.agg #[.int .i64 r, .int .i64 c, .slice a xs.length m]] w (Gives (.bool false) w) := by
  have IM : Hid (∀ w', Rd w' a xs → Calls Try.prog 36 #[.agg #[.int .i64 r, .int .i64 c, .slice a xs.length m]] w' (Gives (.bool false) w')) := fun w' h' => by
    have := iIsMat r c a m xs w' h' hn
    rw [hm] at this
    exact this
  clear hm hn
  generalize xs.length = L at IM ⊢
  have K : Hid (Blk3 (w.alloc (.cells #[.int .i64 r, .int .i64 c, .slice a L m] 26)) w.heap.size 26 (.int .i64 r) (.int .i64 c) (.slice a L m)) := Blk3.at_ _ _ _ _ rfl
  have RX := Lib.hid (h.below ((Below.refl _ _).alloc (Nat.le_refl _) (.cells #[.int .i64 r, .int .i64 c, .slice a L m] 26)))
  have BX : Hid (Below w.heap.size w (w.alloc (.cells #[.int .i64 r, .int .i64 c, .slice a L m] 26))) := (Below.refl _ _).alloc (Nat.le_refl _) _
  clear h
  go_enter Try.func17, Try.ntmps17
  go_wp2_with fail
  generalize w.alloc (.cells #[.int .i64 r, .int .i64 c, .slice a L m] 26) = W at K RX BX ⊢
  obtain ⟨p0, p1, p2, -, -, -⟩ := K.out.all
  go_wp2_with fail
  refine (IM.out _ RX.out).mono ?_
  rintro e w0 ⟨rfl, hb⟩
  have B2 := Lib.hid (BX.out.trans (hb.mono BX.out.size))
  clear hb p0 p1 p2
  go_wp2_with fail
  exact bodyPost_ret (v := .bool false) (by simp [results, Try.results17, go_sem]) rfl ⟨rfl, B2.out⟩
theorem iIsEchelon (r c : Int) (a : Option Addr) (m : Nat) (xs : List Int) (w : World) (h : Rd w a xs) (hn : xs.length ≤ 16777216) (ha : Spot a) (ham : xs.length ≤ m) (haz : a = none → m = 0) :
    Calls Try.prog 17 #[.agg #[.int .i64 r, .int .i64 c, .slice a xs.length m]] w (Gives (.bool (echIs r c xs)) w) := by
  rcases Bool.eq_false_or_eq_true (isMat r c xs) with hm | hm
  · obtain ⟨⟨r0, r1⟩, ⟨c0, c1⟩, hl, nx⟩ := isMat_says hm
    obtain ⟨R, rfl⟩ := Int.eq_ofNat_of_zero_le r0
    obtain ⟨C, rfl⟩ := Int.eq_ofNat_of_zero_le c0
    have hx : xs.length = R * C := by rw [← Int.natCast_mul] at hl; omega
    refine iIsEch_t R C xs.length a m xs w h ha ham haz rfl hx (by omega) (by omega) nx hm _ ?_
    rw [EchB_iff hx nx]
    unfold echIs
    rw [hm, Bool.true_and]
    show _ ↔ (match echM R C xs with | some (ys, _) => decide (ys = xs) | none => false) = true
    cases he : echM R C xs with
    | none => exact ⟨fun ⟨pv, h⟩ => (by cases h), fun h => (by cases h)⟩
    | some o =>
      obtain ⟨ys, pv⟩ := o
      show _ ↔ decide (ys = xs) = true
      rw [decide_eq_true_eq]
      exact ⟨fun ⟨qv, h⟩ => (by injection h with h; injection h), fun h => ⟨pv, by rw [h]⟩⟩
  · have e : echIs r c xs = false := by unfold echIs; rw [hm]; rfl
    rw [e]
    exact iIsEch_f r c a m xs w h hn hm
end Go.Proofs.Ytpknondccajinaa
