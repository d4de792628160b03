/-
  Texts of this seat, joined: SgMath · NumGD · LdI · EchJ
-/
import Derived.Test.YtpknondccajinaaRows
import Derived.WalkKit
import Derived.BigQuiet
import Derived.Deep.QuietTactic
import Derived.Lib.Hide
import Derived.Deep.DeepCutAuto
import Derived.IntWalk
import Derived.Test.YtpknondccajinaaPk1
import Derived.Test.YtpknondccajinaaPk2
import Derived.Test.YtpknondccajinaaPk4

section
/-
  Plain mathematics of chapter 7: what a row is divided by in the program. Nothing of a program is used.
-/
namespace Go.Proofs.Ytpknondccajinaa

/-- What a row is divided by. -/
def sgD (c : Nat) (v : Nat → Int) : Int := if gcdN c v = 0 then 1 else sgnN c v * gcdN c v
theorem sgD_div {c : Nat} {v : Nat → Int} (j : Nat) : (v j).tdiv (sgD c v) = prV c v j := by
  unfold sgD prV
  by_cases h : gcdN c v = 0
  · rw [if_pos h, if_pos h, Int.tdiv_one]
  · rw [if_neg h, if_neg h]
    rcases sgnN_or c v with hs | hs | hs
    · exact absurd hs (sgnN_ne h)
    · rw [hs, Int.one_mul, Int.one_mul]
    · rw [hs, Int.neg_mul, Int.neg_mul, Int.one_mul, Int.one_mul, Int.tdiv_neg, Int.neg_tdiv]
theorem sgD_ne (c : Nat) (v : Nat → Int) : sgD c v ≠ 0 := by
  unfold sgD
  by_cases h : gcdN c v = 0
  · rw [if_pos h]; decide
  · rw [if_neg h]
    exact Int.mul_ne_zero (sgnN_ne h) h
theorem sgD_num {c : Nat} {v : Nat → Int} (h : ∀ j, j < c → NumP (v j)) : NumP (sgD c v) := by
  have hg := gcdN_num h
  unfold sgD
  split
  · exact ⟨by decide, by decide⟩
  · unfold NumP at hg ⊢
    rcases sgnN_or c v with hs | hs | hs <;> rw [hs] <;> omega
theorem lead_zero {c : Nat} {v : Nat → Int} : leadC c v = c ↔ gcdN c v = 0 := by
  obtain ⟨h1, h2, h3⟩ := leadC_says c v
  constructor
  · intro h
    exact gcdN_all fun j hj => h2 j (by omega)
  · intro h
    rcases Nat.lt_or_ge (leadC c v) c with h4 | h4
    · exact absurd (gcdN_none h _ h4) (h3 h4)
    · omega
theorem sgD_end {c : Nat} {v : Nat → Int} (h : leadC c v = c) : sgD c v = 1 := by
  unfold sgD
  rw [if_pos (lead_zero.mp h)]
theorem sgD_lead {c : Nat} {v : Nat → Int} (h : leadC c v < c) : sgD c v = if v (leadC c v) < 0 then -gcdN c v else gcdN c v := by
  obtain ⟨h1, h2, h3⟩ := leadC_says c v
  unfold sgD
  rw [if_neg (fun e => by have := lead_zero.mpr e; omega), sgnN_first h h2 (h3 h)]
  split
  · rw [Int.neg_mul, Int.one_mul]
  · rw [Int.one_mul]
/-- The divisor is 1 for a row as an echelon form has it. -/
theorem sgD_one {c : Nat} {v : Nat → Int} : sgD c v = 1 ↔ ¬ (leadC c v < c ∧ (v (leadC c v) < 0 ∨ gcdN c v ≠ 1)) := by
  have g0 := gcdN_nonneg c v
  obtain ⟨h1, h2, h3⟩ := leadC_says c v
  rcases Nat.lt_or_ge (leadC c v) c with h | h
  · rw [sgD_lead h]
    by_cases hn : v (leadC c v) < 0
    · rw [if_pos hn]
      constructor
      · intro e; omega
      · intro e; exact absurd ⟨h, .inl hn⟩ e
    · rw [if_neg hn]
      constructor
      · rintro e ⟨-, h4 | h4⟩
        · exact hn h4
        · exact h4 e
      · intro e
        exact Classical.byContradiction fun h4 => e ⟨h, .inr h4⟩
  · rw [sgD_end (by omega)]
    exact ⟨fun _ h4 => by omega, fun _ => rfl⟩
/-- A row that is primitive has no other divisor. -/
theorem prL_norm {r c i : Nat} {xs : List Int} (hx : xs.length = r * c) (h : i < r → Norm c (mxC c xs i)) : prL r c i xs = xs := by
  rw [prL_row]
  exact rowL_self hx fun hi q hq => prV_id (h hi) hq
/-- A row with 0 in the pivot's column stays as it is. -/
theorem rdV_skip {u v : Nat → Int} {j : Nat} (hu : u j = 0) (hv : 0 < v j) (k : Nat) : rdV j u v k = u k := by
  unfold rdV
  rw [hu, Int.gcd_zero_left, Int.natAbs_of_nonneg (by omega), Int.tdiv_self (by omega), Int.zero_tdiv]
  omega
theorem rdL_skip {r c t j i : Nat} {xs : List Int} (hx : xs.length = r * c) (hu : mxC c xs i j = 0) (hv : 0 < mxC c xs t j) (hn : i < r → Norm c (mxC c xs i)) : rdL r c t j i xs = xs := by
  rw [rdL_row]
  refine rowL_self hx fun hi q hq => ?_
  have e : prV c (rdV j (mxC c xs i) (mxC c xs t)) q = prV c (mxC c xs i) q := prV_congr (fun k _ => rdV_skip hu hv k) q hq
  rw [e, prV_id (hn hi) hq]
theorem rowN_skip {c t j i r : Nat} {xs : List Int} (hx : xs.length = r * c) (nx : nums xs = true) (hi : i < r) (hu : mxC c xs i j = 0) (hv : 0 < mxC c xs t j) : rowN c (rdV j (mxC c xs i) (mxC c xs t)) = true :=
  rowN_iff.mpr fun q hq => by rw [rdV_skip hu hv]; exact mx_nums hx nx hi hq
/-- One row of the elimination as the program does it: rows with 0 are not left out. -/
theorem elimR_go {r c t j k i : Nat} {xs : List Int} (hx : xs.length = r * c) (nx : nums xs = true) (hi : i < r) (hit : i ≠ t) (hv : 0 < mxC c xs t j) (hn : Norm c (mxC c xs i)) :
    (rowN c (rdV j (mxC c xs i) (mxC c xs t)) = true → elimR r c t j (k + 1) i xs = elimR r c t j k (i + 1) (rdL r c t j i xs)) ∧ (rowN c (rdV j (mxC c xs i) (mxC c xs t)) ≠ true → elimR r c t j (k + 1) i xs = none) := by
  by_cases h0 : mxC c xs i j = 0
  · refine ⟨fun _ => ?_, fun h => absurd (rowN_skip hx nx hi h0 hv) h⟩
    rw [elimR_skip (.inr h0), rdL_skip hx h0 hv fun _ => hn]
  · have h1 : ¬ (i = t ∨ mxC c xs i j = 0) := fun e => e.elim hit h0
    exact ⟨fun h => elimR_on h1 h, fun h => elimR_bad h1 h⟩
/-- Where all rows have their pivots, nothing is left to do. -/
theorem echC_full {r c : Nat} {xs : List Int} {pv : List Nat} (h : ¬ pv.length < r) (k j : Nat) : echC r c k j xs pv = some (xs, pv) := by
  cases k with
  | zero => rfl
  | succ k => exact if_neg h
end Go.Proofs.Ytpknondccajinaa
end

section
/-
  Chapter 1, in the program: greatestDivisor.
-/
namespace Go.Proofs.Ytpknondccajinaa
open Go.RowKit

set_option maxHeartbeats 400000 in
/-- The program's Euclid, of any two ints but the two smallest. -/
theorem iGD (a b : Int) (w : World) (ha : -9000000000000000000 ≤ a ∧ a ≤ 9000000000000000000) (hb : -9000000000000000000 ≤ b ∧ b ≤ 9000000000000000000) :
    Calls Try.prog 82 #[.int .i64 a, .int .i64 b] w fun e w' => e = .returned (.int .i64 (Int.gcd a b : Int)) ∧ ∃ n, w' = w.drewN n := by
  obtain ⟨ha1, ha2⟩ := ha
  obtain ⟨hb1, hb2⟩ := hb
  go_enter Try.func82, Try.ntmps82
  go_wp2_with fail
  go_loopw [0, 1] (fun x y wr => ∃ p q : Int, x = .int .i64 p ∧ y = .int .i64 q ∧ -9000000000000000000 ≤ p ∧ p ≤ 9000000000000000000 ∧ -9000000000000000000 ≤ q ∧ q ≤ 9000000000000000000 ∧ Int.gcd p q = Int.gcd a b ∧ ∃ n, wr = w.drewN n) (fun _ y _ => (intOf y).natAbs)
  case atStart => exact ⟨a, b, rfl, rfl, ha1, ha2, hb1, hb2, rfl, 0, rfl⟩
  case round =>
    obtain ⟨p, q, rfl, rfl, p1, p2, q1, q2, hg, n, rfl⟩ := hrel
    have HG := Lib.hid hg
    clear hg
    by_cases hq : q = 0
    · subst hq
      go_wp2
      all_goals
        go_ret
        exact ⟨by rw [← HG.out, Int.gcd_zero_right]; exact ret_int (by omega), n, rfl⟩
    · have t1 := tmod_small p q hq
      have t2 := gcd_round p q
      have b1 : -9000000000000000000 ≤ p.tmod q := by omega
      have b2 : p.tmod q ≤ 9000000000000000000 := by omega
      have T1 := Lib.hid t1
      have T2 := Lib.hid t2
      clear t1 t2
      have hq' : (q == 0) = false := by simpa using hq
      go_wp2
      go_quiet (fail)
      go_wp2
      go_roundw
      case rel => exact ⟨q, p.tmod q, rfl, rfl, q1, q2, b1, b2, T2.out.trans HG.out, _, by rw [World.drewN_drewN]⟩
      case measure => simpa [intOf] using T1.out
end Go.Proofs.Ytpknondccajinaa
end

section
/-
  Chapter 7, in the program: a row's first cell with something, and what the row is divided by.
-/
namespace Go.Proofs.Ytpknondccajinaa
set_option maxRecDepth 100000
open Go.RowKit

theorem iLead (c cap : Nat) (q : Option Addr) (v : Nat → Int) (w : World) (h : Rd w q (rwL c v)) (hc : c ≤ 24) :
    Calls Try.prog 52 #[.slice q c cap] w (fun e w' => e = .returned (.int .i64 (leadC c v : Int)) ∧ w' = w) := by
  have RX : Hid (∀ j, j < c → ∃ b o : Nat, q = some ⟨b, o, none⟩ ∧ w.cell? ⟨b, o + j, none⟩ = some (.int .i64 (v j))) := fun j hj => by
    have := h j (by rw [rwL_length]; exact hj)
    rw [rwL_at hj] at this
    exact this
  clear h
  go_enter Try.func52, Try.ntmps52
  go_wp2_with fail
  go_loopw [3, 4, 7] (fun _ _ v7 wr => ∃ j : Nat, v7 = .int .i64 j ∧ j ≤ c ∧ (∀ i, i < j → v i = 0) ∧ wr = w) (fun _ _ v7 _ => c - (intOf v7).toNat)
  case atStart => exact ⟨0, rfl, by omega, fun i hi => by omega, rfl⟩
  case round =>
    obtain ⟨j, rfl, hj, hz, rfl⟩ := hrel
    have Z := Lib.hid hz
    clear hz
    by_cases hlt : j < c
    · obtain ⟨b, o, rfl, hcell⟩ := RX.out j hlt
      obtain ⟨x, hx⟩ : ∃ x, v j = x := ⟨_, rfl⟩
      have X := Lib.hid hx
      rw [hx] at hcell
      clear hx
      by_cases h0 : x = 0
      · have n1 : (x != 0) = false := by simp [h0]
        have n2 : (x == 0) = true := by simp [h0]
        have Z1 : Hid (∀ i, i < j + 1 → v i = 0) := fun i hi => by
          rcases Nat.lt_or_ge i j with h1 | h1
          · exact Z.out i h1
          · obtain rfl : i = j := by omega
            rw [X.out, h0]
        clear h0
        go_wp2_with fail
        go_roundw
        case rel => exact ⟨j + 1, by go_num, by omega, Z1.out, trivial⟩
        case measure => simp [intOf]; omega
      · have n1 : (x != 0) = true := by simpa using h0
        have n2 : (x == 0) = false := by simpa using h0
        have L : Hid (leadC c v = j) := leadF_eq (Nat.zero_le _) (by omega) (fun i _ hi => Z.out i hi) (fun _ => by rw [X.out]; exact h0)
        clear h0
        go_wp2_with fail
        go_ret
        exact ⟨by rw [L.out]; rfl, rfl⟩
    · obtain rfl : c = j := by omega
      have L : Hid (leadC c v = c) := leadF_eq (Nat.zero_le _) (by omega) (fun i _ hi => Z.out i hi) (fun h => by omega)
      go_wp2_with fail
      go_ret
      exact ⟨by rw [L.out]; rfl, rfl⟩
theorem iSgD (c cap : Nat) (q : Option Addr) (v : Nat → Int) (w : World) (h : Rd w q (rwL c v)) (hc : c ≤ 24) (hv : ∀ j, j < c → NumP (v j)) :
    Calls Try.prog 40 #[.slice q c cap] w (fun e w' => e = .returned (.int .i64 (sgD c v)) ∧ ∃ n, w' = w.drewN n) := by
  have LD : Hid (Calls Try.prog 52 #[.slice q c cap] w (fun e w' => e = .returned (.int .i64 (leadC c v : Int)) ∧ w' = w)) := iLead c cap q v w h hc
  have RX : Hid (∀ j n, j < c → ∃ b o : Nat, q = some ⟨b, o, none⟩ ∧ (w.drewN n).cell? ⟨b, o + j, none⟩ = some (.int .i64 (v j))) := fun j n hj => by
    have := h.drewN n j (by rw [rwL_length]; exact hj)
    rw [rwL_at hj] at this
    exact this
  have VN := Lib.hid hv
  obtain ⟨l1, -, -⟩ := leadC_says c v
  have SE : Hid (leadC c v = c → sgD c v = 1) := sgD_end
  have SL : Hid (leadC c v < c → sgD c v = if v (leadC c v) < 0 then -gcdN c v else gcdN c v) := sgD_lead
  have GB := gcdN_num (n := c) (f := v) hv
  unfold NumP at GB
  generalize leadC c v = l at LD l1 SE SL
  clear h hv
  go_enter Try.func40, Try.ntmps40
  go_wp2_with fail
  refine LD.out.mono ?_
  rintro e w1 ⟨rfl, rfl⟩
  by_cases hl : l = c
  · have n1 : ((l : Int) == (c : Int)) = true := by simp [hl]
    have S1 := Lib.hid (SE.out hl)
    clear hl
    go_wp2_with fail
    go_ret
    exact ⟨by rw [S1.out]; rfl, 0, rfl⟩
  · have n1 : ((l : Int) == (c : Int)) = false := by simp; omega
    have hlc : l < c := by omega
    have S1 := Lib.hid (SL.out hlc)
    clear hl SE SL
    go_wp2_with fail
    go_loopw [4, 6, 15] (fun v4 _ v15 wr => ∃ j n : Nat, v15 = .int .i64 j ∧ j ≤ c ∧ v4 = .int .i64 (gcdN j v) ∧ wr = w1.drewN n) (fun _ _ v15 _ => c - (intOf v15).toNat)
    case atStart => exact ⟨0, 0, rfl, by omega, rfl, rfl⟩
    case round =>
      obtain ⟨j, n, rfl, hj, rfl, rfl⟩ := hrel
      by_cases hlt : j < c
      · obtain ⟨b, o, rfl, hcell⟩ := RX.out j n hlt
        have hb := VN.out j hlt
        have hg := gcdN_num (n := j) (f := v) (fun k hk => VN.out k (by omega))
        have GS : Hid (gcdN (j + 1) v = ((gcdN j v).gcd (v j) : Int)) := rfl
        generalize gcdN j v = gg at hg GS
        generalize v j = x at hcell hb GS
        unfold NumP at hb hg
        go_wp2_with fail
        refine (iGD gg x _ (by omega) (by omega)).mono ?_
        rintro e w2 ⟨rfl, k, rfl⟩
        go_wp2_with fail
        go_roundw
        case rel => exact ⟨j + 1, n + k, by go_num, by omega, by first | (rw [GS.out]; done) | (rw [GS.out]; simp), by first | rfl | rw [World.drewN_drewN]⟩
        case measure => simp [intOf]; omega
      · obtain rfl : c = j := by omega
        clear hlt
        obtain ⟨b, o, rfl, hcell⟩ := RX.out l n hlc
        obtain ⟨x, hx⟩ : ∃ x, v l = x := ⟨_, rfl⟩
        rw [hx] at hcell S1
        clear hx
        obtain ⟨gg, hgg⟩ : ∃ gg, gcdN c v = gg := ⟨_, rfl⟩
        rw [hgg] at S1 GB
        rw [hgg]
        clear hgg
        have v1 : IntKind.i64.wrap (-gg) = -gg := IntWalk.i64_in _ (by omega)
        have l0 : (0 : Int) ≤ (l : Int) := by omega
        have l2 : (l : Int) < (c : Int) := by omega
        by_cases hneg : x < 0
        · rw [if_pos hneg] at S1
          have n2 : decide (x < 0) = true := decide_eq_true hneg
          go_wp2_with fail
          go_ret
          exact ⟨by rw [S1.out]; rfl, n, rfl⟩
        · rw [if_neg hneg] at S1
          have n2 : decide (x < 0) = false := decide_eq_false hneg
          go_wp2_with fail
          go_ret
          exact ⟨by rw [S1.out]; rfl, n, rfl⟩
end Go.Proofs.Ytpknondccajinaa
end

section
/-
  Chapter 7, in the model: IsEchelon of what is no matrix, and of all.
-/
namespace Go.Proofs.Ytpknondccajinaa
set_option maxRecDepth 100000
open Go.RowKit

theorem sIsEch_f (r c : Int) (a : Option Addr) (m : Nat) (xs : List Int) (w : World) (h : Rd w a xs) (hn : xs.length ≤ 16777216) (hm : isMat r c xs = false) :
    Calls Try.prog 18 #[.agg #[.int .i64 r, .int .i64 c, .slice a xs.length m]] w (Gives (.bool false) w) := by
  have IM : Hid (∀ w', Rd w' a xs → Calls Try.prog 44 #[.agg #[.int .i64 r, .int .i64 c, .slice a xs.length m]] w' (Gives (.bool false) w')) := fun w' h' => by
    have := sIsMat r c a m xs w' h' hn
    rw [hm] at this
    exact this
  clear hm hn
  generalize xs.length = L at IM ⊢
  have K : Hid (Blk3 (w.alloc (.cells #[.int .i64 r, .int .i64 c, .slice a L m] 26)) w.heap.size 26 (.int .i64 r) (.int .i64 c) (.slice a L m)) := Blk3.at_ _ _ _ _ rfl
  have RX := Lib.hid (h.below ((Below.refl _ _).alloc (Nat.le_refl _) (.cells #[.int .i64 r, .int .i64 c, .slice a L m] 26)))
  have BX : Hid (Below w.heap.size w (w.alloc (.cells #[.int .i64 r, .int .i64 c, .slice a L m] 26))) := (Below.refl _ _).alloc (Nat.le_refl _) _
  clear h
  go_enter Try.func18, Try.ntmps18
  go_wp2_with fail
  generalize w.alloc (.cells #[.int .i64 r, .int .i64 c, .slice a L m] 26) = W at K RX BX ⊢
  go_loopw [2, 3, 4, 5, 6, 7, 8] (fun _ _ v4 _ _ _ _ wr => v4 = .int .i64 0 ∧ Blk3 wr w.heap.size 26 (.int .i64 r) (.int .i64 c) (.slice a L m) ∧ Rd wr a xs ∧ Below w.heap.size w wr) (fun _ _ _ _ _ _ _ _ => 0)
  case atStart => exact ⟨rfl, K.out, RX.out, BX.out⟩
  case round =>
    clear K RX BX
    obtain ⟨rfl, hk, hr, hb⟩ := hrel
    have K := Lib.hid hk
    have RX := Lib.hid hr
    have BX := Lib.hid hb
    clear hk hr hb
    obtain ⟨p0, p1, p2, -, -, -⟩ := K.out.all
    by_cases h0 : 0 < r
    · go_wp2_with fail
      refine (IM.out _ RX.out).mono ?_
      rintro e w0 ⟨rfl, hb⟩
      have K := Lib.hid (K.out.step hb)
      have RX := Lib.hid (RX.out.below hb)
      have BX := Lib.hid (BX.out.trans (hb.mono BX.out.size))
      clear hb p0 p1 p2
      obtain ⟨p0, p1, p2, -, -, -⟩ := K.out.all
      go_wp2_with fail
      refine (IM.out _ RX.out).mono ?_
      rintro e w1 ⟨rfl, hb⟩
      have B2 := Lib.hid (BX.out.trans (hb.mono BX.out.size))
      clear hb p0 p1 p2
      go_wp2_with fail
      exact bodyPost_ret (v := .bool false) (by simp [results, Try.results18, go_sem]) rfl ⟨rfl, B2.out⟩
    · go_wp2_with fail
      refine (IM.out _ RX.out).mono ?_
      rintro e w1 ⟨rfl, hb⟩
      have B2 := Lib.hid (BX.out.trans (hb.mono BX.out.size))
      clear hb p0 p1 p2
      go_wp2_with fail
      exact bodyPost_ret (v := .bool false) (by simp [results, Try.results18, go_sem]) rfl ⟨rfl, B2.out⟩
/-- IsEchelon: whether the elimination ends where it began. -/
theorem sIsEchelon (r c : Int) (a : Option Addr) (m : Nat) (xs : List Int) (w : World) (h : Rd w a xs) (hn : xs.length ≤ 16777216) :
    Calls Try.prog 18 #[.agg #[.int .i64 r, .int .i64 c, .slice a xs.length m]] w (Gives (.bool (echIs r c xs)) w) := by
  rcases Bool.eq_false_or_eq_true (isMat r c xs) with hm | hm
  · obtain ⟨⟨r0, r1⟩, ⟨c0, c1⟩, hl, nx⟩ := isMat_says hm
    obtain ⟨R, rfl⟩ := Int.eq_ofNat_of_zero_le r0
    obtain ⟨C, rfl⟩ := Int.eq_ofNat_of_zero_le c0
    have hx : xs.length = R * C := by rw [← Int.natCast_mul] at hl; omega
    refine sIsEch_t R C xs.length a m xs w h rfl hx (by omega) (by omega) nx hm _ ?_
    rw [EchB_iff hx nx]
    unfold echIs
    rw [hm, Bool.true_and]
    show _ ↔ (match echM R C xs with | some (ys, _) => decide (ys = xs) | none => false) = true
    cases he : echM R C xs with
    | none => exact ⟨fun ⟨pv, h⟩ => (by cases h), fun h => (by cases h)⟩
    | some o =>
      obtain ⟨ys, pv⟩ := o
      show _ ↔ decide (ys = xs) = true
      rw [decide_eq_true_eq]
      exact ⟨fun ⟨qv, h⟩ => (by injection h with h; injection h), fun h => ⟨pv, by rw [h]⟩⟩
  · have e : echIs r c xs = false := by unfold echIs; rw [hm]; rfl
    rw [e]
    exact sIsEch_f r c a m xs w h hn hm
end Go.Proofs.Ytpknondccajinaa
end
