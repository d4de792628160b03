/-
  Texts of this seat, joined: HmU · HmT · NumFloor · NumDiv · HmV · Draw · Fr · Draw3 · Draw4 · Code · AnyM
-/
import Derived.Test.YtpelnfenfeoeeaaRows
import Derived.WalkKit
import Derived.BigQuiet
import Derived.Deep.QuietTactic
import Derived.Lib.Hide
import Derived.Deep.LoopGhost
import Derived.Deep.CutBlock
import Derived.Deep.DeepCutAuto
import Derived.Deep.RegionHeld3
import Derived.StillTailTactics
import Derived.IntWalk
import Derived.ProofKit
import Derived.OpenShut
import Derived.Test.YtpelnfenfeoeeaaPk1
import Derived.Test.YtpelnfenfeoeeaaPk2
import Derived.Test.YtpelnfenfeoeeaaPk4

section
/-
  Chapter 12: what a walk of HermiteForm needs of its steps. Nothing of a program is used.
-/
namespace Go.Proofs.Ytpelnfenfeoeeaa
open Go.RowKit

theorem mulB_neg {x : Int} (h : NumP x) : NumP (mulB x (-1)) := by
  have h' := h
  unfold NumP at h'
  rw [mulB_num h (show NumP (-1) by unfold NumP; omega), fitB_num (show NumP (x * -1) by unfold NumP; omega)]
  unfold NumP
  omega
/-- Rows that are not operated on stay. -/
theorem celS_other {R C I J i j : Nat} {z : Int} {s : HSt} (h : Siz R C s) (hi : i < R) (hj : j < C) (hne : i ≠ I) : celS C (op2 R C 2 I J z s) i j = celS C s i j := by
  have hp : i * C + j < s.1.length := by rw [h.l1]; exact idx_lt hi hj
  show (opL 2 I J z C s.1).getD (i * C + j) 0 = _
  rw [opL_getD hp]
  unfold opAt
  rw [if_neg (by decide), if_neg (by decide), idx_div hj, if_neg hne]
  rfl
/-- A swap and a change of signs make no marks. -/
theorem ok_plain {R C I J : Nat} {k z : Int} {s : HSt} (hk : k = 0 ∨ k = 1) (ho : okS s = true) : okS (op2 R C k I J z s) = true := by
  obtain ⟨a, b⟩ := okS_and ho
  have key : ∀ (D : Nat) (xs : List Int), nums xs = true → nums (opL k I J z D xs) = true := fun D xs hx => nums_true fun p hp => by
    rw [opL_length] at hp
    rw [opL_getD hp]
    unfold opAt
    rcases hk with rfl | rfl
    · rw [if_pos rfl]
      split
      · exact nums_def hx _
      · split
        · exact nums_def hx _
        · exact nums_def hx _
    · rw [if_neg (by decide), if_pos rfl]
      split
      · exact mulB_neg (nums_def hx _)
      · exact nums_def hx _
  unfold okS
  show (nums (opL k I J z C s.1) && nums (opL k I J z R s.2)) = true
  rw [key C _ a, key R _ b]; rfl
theorem ok_sw {R C p t : Nat} {s : HSt} (ho : okS s = true) : okS (swS R C p t s) = true := by
  unfold swS; split
  · exact ok_plain (.inl rfl) ho
  · exact ho
theorem ok_ng {R C j t : Nat} {s : HSt} (ho : okS s = true) : okS (ngS R C j t s) = true := by
  unfold ngS; split
  · exact ok_plain (.inr rfl) ho
  · exact ho
section
variable {R C j t p : Nat} {s : HSt}
theorem rndF_keep (h : Siz R C s) (hj : j < C) : ∀ n, t + n ≤ R → (p < R → celS C (rndF R C p j t s n) p j = celS C s p j) ∧ ∀ i, i < R → t + n ≤ i → celS C (rndF R C p j t s n) i j = celS C s i j
  | 0, _ => ⟨fun _ => rfl, fun _ _ _ => rfl⟩
  | n + 1, hn => by
    obtain ⟨g1, g2⟩ := rndF_keep h hj n (by omega)
    have hs := rndF_siz (p := p) (j := j) (t := t) h n
    by_cases hc : t + n ≠ p ∧ celS C (rndF R C p j t s n) (t + n) j ≠ 0
    · rw [show rndF R C p j t s (n + 1) = op2 R C 2 (t + n) p (-(celS C (rndF R C p j t s n) (t + n) j / celS C (rndF R C p j t s n) p j)) (rndF R C p j t s n) from if_pos hc]
      exact ⟨fun hp => (celS_other hs hp hj (fun e => hc.1 e.symm)).trans (g1 hp), fun i hi h2 => (celS_other hs hi hj (by omega)).trans (g2 i hi (by omega))⟩
    · rw [show rndF R C p j t s (n + 1) = rndF R C p j t s n from if_neg hc]
      exact ⟨g1, fun i hi h2 => g2 i hi (by omega)⟩
theorem rnd_skip {n : Nat} (h : Siz R C s) (hj : j < C) (hn : t + n < R) (hc : t + n = p ∨ celS C s (t + n) j = 0) : rndF R C p j t s (n + 1) = rndF R C p j t s n := by
  have e := (rndF_keep (p := p) h hj n (by omega)).2 (t + n) hn (Nat.le_refl _)
  show (if _ then _ else _) = _
  rw [if_neg]
  rw [e]
  rintro ⟨h1, h2⟩
  rcases hc with h3 | h3
  · exact h1 h3
  · exact h2 h3
theorem rnd_do {n : Nat} (h : Siz R C s) (hj : j < C) (hp : p < R) (hn : t + n < R) (h1 : t + n ≠ p) (h2 : celS C s (t + n) j ≠ 0) : rndF R C p j t s (n + 1) = op2 R C 2 (t + n) p (-(celS C s (t + n) j / celS C s p j)) (rndF R C p j t s n) := by
  have e := (rndF_keep (p := p) (t := t) h hj n (by omega)).2 (t + n) hn (Nat.le_refl _)
  have e2 := (rndF_keep (p := p) (t := t) h hj n (by omega)).1 hp
  show (if _ then _ else _) = _
  rw [if_pos ⟨h1, by rw [e]; exact h2⟩, e, e2]
theorem upF_keep (h : Siz R C s) (hj : j < C) (ht : t < R) : ∀ n, n ≤ t → celS C (upF R C j t s n) t j = celS C s t j ∧ ∀ i, i < R → n ≤ i → celS C (upF R C j t s n) i j = celS C s i j
  | 0, _ => ⟨rfl, fun _ _ _ => rfl⟩
  | n + 1, hn => by
    obtain ⟨g1, g2⟩ := upF_keep h hj ht n (by omega)
    have hs := upF_siz (j := j) (t := t) h n
    exact ⟨(celS_other hs ht hj (by omega)).trans g1, fun i hi h2 => (celS_other hs hi hj (by omega)).trans (g2 i hi (by omega))⟩
theorem up_do {n : Nat} (h : Siz R C s) (hj : j < C) (ht : t < R) (hn : n < t) : upF R C j t s (n + 1) = op2 R C 2 n t (-(celS C s n j / celS C s t j)) (upF R C j t s n) := by
  obtain ⟨g1, g2⟩ := upF_keep h hj ht n (by omega)
  show op2 R C 2 n t (-(celS C (upF R C j t s n) n j / celS C (upF R C j t s n) t j)) _ = _
  rw [g1, g2 n (by omega) (Nat.le_refl _)]
/-! ### The columns -/
theorem all_full {n : Nat} (h : ¬ t < R) : allF R C n j t s = some s := by
  cases n with
  | zero => rfl
  | succ n => exact if_neg h
theorem all_none {n : Nat} (h : t < R) (hc : colF R C j t s = none) : allF R C (n + 1) j t s = none := by
  show (if _ then _ else _) = _
  rw [if_pos h, hc]
theorem all_some {n : Nat} {s' : HSt} {t' : Nat} (h : t < R) (hc : colF R C j t s = some (s', t')) : allF R C (n + 1) j t s = allF R C n (j + 1) t' s' := by
  show (if _ then _ else _) = _
  rw [if_pos h, hc]
theorem col_skip (h : leastS R C j t s = -1) : colF R C j t s = some (s, t) := if_pos (by omega)
theorem col_go (h : leastS R C j t s = (p : Int)) : colF R C j t s = match loopF R C j t ((celS C s p j).natAbs + 1) s p with
    | none => none
    | some (s1, p) => if okS (pvS R C j t p s1) = true then some (pvS R C j t p s1, t + 1) else none := by
  unfold colF
  rw [if_neg (by omega), h, Int.toNat_natCast]
  first | done | rfl
theorem col_none (h : leastS R C j t s = (p : Int)) (hl : loopF R C j t ((celS C s p j).natAbs + 1) s p = none) : colF R C j t s = none := by rw [col_go h, hl]
theorem col_bad {s1 : HSt} {p1 : Nat} (h : leastS R C j t s = (p : Int)) (hl : loopF R C j t ((celS C s p j).natAbs + 1) s p = some (s1, p1)) (ho : okS (pvS R C j t p1 s1) = false) : colF R C j t s = none := by
  rw [col_go h, hl]
  show (if _ then _ else _) = _
  rw [if_neg (by rw [ho]; decide)]
theorem col_ok {s1 : HSt} {p1 : Nat} (h : leastS R C j t s = (p : Int)) (hl : loopF R C j t ((celS C s p j).natAbs + 1) s p = some (s1, p1)) (ho : okS (pvS R C j t p1 s1) = true) : colF R C j t s = some (pvS R C j t p1 s1, t + 1) := by
  rw [col_go h, hl]
  show (if _ then _ else _) = _
  rw [if_pos ho]
end
theorem herX_start {R C : Nat} {xs : List Int} (hl : xs.length = R * C) (hn : nums xs = true) : Fin2 R C (mxC C xs) (xs, idL R R) := by
  refine ⟨⟨hl, idL_length R R, MkOr.of_nums hn, MkOr.of_nums (idL_nums R)⟩, ?_, ?_⟩
  · unfold okS; rw [hn, idL_nums]; rfl
  · exact (Acc.start R C (mxC C xs)).congr (mxL_idL R).symm fun _ _ _ _ => rfl
end Go.Proofs.Ytpelnfenfeoeeaa
end

section
/-
  Chapter 12, in the model: marks in a list, an operation on a matrix and its account.
-/
namespace Go.Proofs.Ytpelnfenfeoeeaa
set_option maxRecDepth 100000
open Go.RowKit

theorem nums_bad_at {xs : List Int} {i : Nat} (hi : i < xs.length) (h : xs.getD i 0 = badN) : nums xs = false := by
  cases hn : nums xs with
  | false => rfl
  | true =>
    have := nums_at hn hi
    rw [h] at this
    exact absurd this (by unfold NumP badN; omega)
set_option maxHeartbeats 1000000 in
theorem sBads (a : Option Addr) (n m : Nat) (xs : List Int) (w : World) (h : Rd w a xs) (hx : xs.length = n) (hn : n ≤ 16777216) (hm : MkOr xs) :
    Calls Try.prog 111 #[.slice a n m] w (Gives (.bool (!nums xs)) w) := by
  have VB : Hid (∀ i, i < n → xs.getD i 0 = badN → nums xs = false) := fun i h1 h2 => nums_bad_at (by omega) h2
  have VT : Hid ((∀ i, i < n → xs.getD i 0 ≠ badN) → nums xs = true) := fun h2 => nums_true fun p hp => (hm p).resolve_left (h2 p (by omega))
  have RA : Hid (Rd w a xs) := h
  have XL := Lib.hid hx
  generalize nums xs = bb at VB VT ⊢
  clear h hx hm
  go_enter Try.func111, Try.ntmps111
  go_wp2_with fail
  go_loopw [2, 3] (fun _ v3 wr => ∃ i : Nat, v3 = .int .i64 i ∧ i ≤ n ∧ (∀ k, k < i → xs.getD k 0 ≠ badN) ∧ Below w.heap.size w wr) (fun _ v3 _ => n - (intOf v3).toNat)
  case atStart => exact ⟨0, rfl, Nat.zero_le _, fun k hk => by omega, Below.refl _ _⟩
  case round =>
    obtain ⟨i, rfl, hi, hk, hB⟩ := hrel
    have HK := Lib.hid hk
    have B := Lib.hid hB
    clear hk hB
    by_cases hlt : i < n
    · obtain ⟨b, o, rfl, hc⟩ := (RA.out.below B.out) i (by rw [XL.out]; exact hlt)
      have VBi : Hid (xs.getD i 0 = badN → bb = false) := fun h => VB.out i hlt h
      have HK2 : Hid (xs.getD i 0 ≠ badN → ∀ k, k < i + 1 → xs.getD k 0 ≠ badN) := fun h0 k h1 => by
        rcases Nat.lt_or_ge k i with h4 | h4
        · exact HK.out k h4
        · obtain rfl : k = i := by omega
          exact h0
      generalize xs.getD i 0 = z at hc VBi HK2
      have i1 : (i : Int) < (n : Int) := by omega
      by_cases hz : z = badN
      · have V := Lib.hid (VBi.out hz)
        have n2 : (z == -4611686018427387904) = true := by rw [hz]; rfl
        clear hz
        go_wp2_with fail
        go_ret
        exact ⟨by rw [V.out]; rfl, B.out⟩
      · have n2 : (z == -4611686018427387904) = false := by rw [beq_eq_false_iff_ne]; exact hz
        have HK3 := Lib.hid (HK2.out hz)
        clear hz
        go_wp2_with fail
        go_roundw
        case rel => exact ⟨i + 1, by go_num, by omega, HK3.out, B.out⟩
        case measure => simp [intOf]; omega
    · obtain rfl : i = n := by omega
      have V := Lib.hid (VT.out HK.out)
      go_wp2_with fail
      go_ret
      exact ⟨by rw [V.out]; rfl, B.out⟩
set_option maxHeartbeats 2000000 in
theorem sOps (R C Iq J ga gu na nu ca cu : Nat) (k z : Int) (s : HSt) (w : World) (ha : Ints w ga s.1) (hu : Ints w gu s.2) (hne : ga ≠ gu) (hx : s.1.length = na) (hna : na = R * C) (hy : s.2.length = nu) (hnu : nu = R * R) (hR : R ≤ 24) (hC : C ≤ 24) (hI : Iq < R) (hJ : J < R) (hk : k = 0 ∨ k = 1 ∨ k = 2) (hIJ : k = 0 → Iq ≠ J) :
    Calls Try.prog 108 #[.agg #[.int .i64 R, .int .i64 C, .slice (some ⟨ga, 0, none⟩) na ca], .agg #[.int .i64 R, .int .i64 R, .slice (some ⟨gu, 0, none⟩) nu cu], .agg #[.int .i64 k, .int .i64 Iq, .int .i64 J, .int .i64 z]] w
      (fun e w' => Void e ∧ Ints w' ga (op2 R C k Iq J z s).1 ∧ Ints w' gu (op2 R C k Iq J z s).2 ∧ FrS (fun b => b = ga ∨ b = gu) w w') := by
  have D1 : Hid (∀ w', Ints w' ga s.1 → Calls Try.prog 144 #[.agg #[.int .i64 R, .int .i64 C, .slice (some ⟨ga, 0, none⟩) na ca], .agg #[.int .i64 k, .int .i64 Iq, .int .i64 J, .int .i64 z]] w' (fun e w2 => Void e ∧ Ints w2 ga (opL k Iq J z C s.1) ∧ w'.grownBy w2 (some ga))) := fun w' hi => sDo R C Iq J ga na ca k z s.1 w' hi hx hna hR hC hI hJ hk hIJ
  have D2 : Hid (∀ w', Ints w' gu s.2 → Calls Try.prog 144 #[.agg #[.int .i64 R, .int .i64 R, .slice (some ⟨gu, 0, none⟩) nu cu], .agg #[.int .i64 k, .int .i64 Iq, .int .i64 J, .int .i64 z]] w' (fun e w2 => Void e ∧ Ints w2 gu (opL k Iq J z R s.2) ∧ w'.grownBy w2 (some gu))) := fun w' hi => sDo R R Iq J gu nu cu k z s.2 w' hi hy hnu hR hR hI hJ hk hIJ
  have la := ha.lt
  have lu := hu.lt
  have A0 := Lib.hid (((ha.old (.cells #[.int .i64 R, .int .i64 C, .slice (some ⟨ga, 0, none⟩) na ca] 26)).old (.cells #[.int .i64 R, .int .i64 R, .slice (some ⟨gu, 0, none⟩) nu cu] 26)).old (.cells #[.int .i64 k, .int .i64 Iq, .int .i64 J, .int .i64 z] 97))
  have U0 := Lib.hid (((hu.old (.cells #[.int .i64 R, .int .i64 C, .slice (some ⟨ga, 0, none⟩) na ca] 26)).old (.cells #[.int .i64 R, .int .i64 R, .slice (some ⟨gu, 0, none⟩) nu cu] 26)).old (.cells #[.int .i64 k, .int .i64 Iq, .int .i64 J, .int .i64 z] 97))
  have F0 : Hid (FrS (fun b => b = ga ∨ b = gu) w (((w.alloc (.cells #[.int .i64 R, .int .i64 C, .slice (some ⟨ga, 0, none⟩) na ca] 26)).alloc (.cells #[.int .i64 R, .int .i64 R, .slice (some ⟨gu, 0, none⟩) nu cu] 26)).alloc (.cells #[.int .i64 k, .int .i64 Iq, .int .i64 J, .int .i64 z] 97))) := (((FrS.refl _ _).alloc _).alloc _).alloc _
  have K3 : Hid (Blk3 (((w.alloc (.cells #[.int .i64 R, .int .i64 C, .slice (some ⟨ga, 0, none⟩) na ca] 26)).alloc (.cells #[.int .i64 R, .int .i64 R, .slice (some ⟨gu, 0, none⟩) nu cu] 26)).alloc (.cells #[.int .i64 k, .int .i64 Iq, .int .i64 J, .int .i64 z] 97)) (w.heap.size + 1) 26 (.int .i64 R) (.int .i64 R) (.slice (some ⟨gu, 0, none⟩) nu cu)) := (Blk3.at_ _ _ _ _ (by simp)).old _
  have K4 : Hid (Blk4 (((w.alloc (.cells #[.int .i64 R, .int .i64 C, .slice (some ⟨ga, 0, none⟩) na ca] 26)).alloc (.cells #[.int .i64 R, .int .i64 R, .slice (some ⟨gu, 0, none⟩) nu cu] 26)).alloc (.cells #[.int .i64 k, .int .i64 Iq, .int .i64 J, .int .i64 z] 97)) (w.heap.size + 2) 97 (.int .i64 k) (.int .i64 Iq) (.int .i64 J) (.int .i64 z)) := Blk4.at_ _ _ _ _ _ (by simp)
  show Calls Try.prog _ _ w (fun e w' => Void e ∧ Ints w' ga (opL k Iq J z C s.1) ∧ Ints w' gu (opL k Iq J z R s.2) ∧ FrS (fun b => b = ga ∨ b = gu) w w')
  have n1 : w.heap.size + 1 ≠ ga := by omega
  have n2 : w.heap.size + 2 ≠ ga := by omega
  clear ha hu hx hy hna hnu
  go_enter Try.func108, Try.ntmps108
  go_wp2_with fail
  generalize ((w.alloc (.cells #[.int .i64 R, .int .i64 C, .slice (some ⟨ga, 0, none⟩) na ca] 26)).alloc (.cells #[.int .i64 R, .int .i64 R, .slice (some ⟨gu, 0, none⟩) nu cu] 26)).alloc (.cells #[.int .i64 k, .int .i64 Iq, .int .i64 J, .int .i64 z] 97) = W at A0 U0 F0 K3 K4 ⊢
  refine (D1.out W A0.out).mono ?_
  rintro e w1 ⟨rfl, hi, hg⟩
  have A1 := Lib.hid hi
  have U1 := Lib.hid (U0.out.one hg (Ne.symm hne))
  have F1 := Lib.hid (F0.out.trans (FrS.of_one (p := fun b => b = ga ∨ b = gu) hg (.inl rfl)))
  have K31 := Lib.hid (K3.out.keepOne hg n1)
  have K41 := Lib.hid (K4.out.keepOne hg n2)
  obtain ⟨p0, p1, p2, -, -, -⟩ := K31.out.all
  have q0 := K41.out.cell0
  have q1 := K41.out.cell1
  have q2 := K41.out.cell2
  have q3 := K41.out.cell3
  clear hi hg A0 U0 F0 K3 K4
  go_wp2_with fail
  refine (D2.out w1 U1.out).mono ?_
  rintro e w2 ⟨rfl, hi, hg⟩
  have A2 := Lib.hid (A1.out.one hg hne)
  have U2 := Lib.hid hi
  have F2 := Lib.hid (F1.out.trans (FrS.of_one (p := fun b => b = ga ∨ b = gu) hg (.inr rfl)))
  clear hi hg
  go_wp2_with fail
  go_end0
  exact ⟨rfl, A2.out, U2.out, F2.out⟩
end Go.Proofs.Ytpelnfenfeoeeaa
end

section
/-
  The model's quotient rounded down.
-/
namespace Go.Proofs.Ytpelnfenfeoeeaa
open Go.RowKit

/-- Rounded down. -/
theorem sFloor (n d : Int) (w : World) (hn1 : -4000000000000000000 ≤ n) (hn2 : n ≤ 4000000000000000000) (hd1 : 0 < d) (hd2 : d ≤ 4000000000000000000) :
    Calls Try.prog 160 #[.int .i64 n, .int .i64 d] w fun e w' => e = .returned (.int .i64 (n / d)) ∧ w = w' := by
  obtain ⟨b1, b2⟩ := tdiv_bdw n d hn1 hn2
  have hd0 : (d == 0) = false := by simp; omega
  by_cases h : n.tmod d < 0
  · have E := Lib.hid (tdiv_down n d hd1 h).1
    have hn : n < 0 := by
      rcases Int.lt_or_le n 0 with h' | h'
      · exact h'
      · have := Int.tmod_nonneg d h'; omega
    go_enter Try.func160, Try.ntmps160
    go_wp2
    go_ret
    exact ⟨ret_int E.out.symm, rfl⟩
  · have E := Lib.hid (tdiv_up n d hd1 (by omega)).1
    by_cases hn : 0 ≤ n
    · have e1 := Int.emod_nonneg n (show d ≠ 0 by omega)
      have e2 : decide (n % d < 0) = false := by simp; omega
      clear h
      go_enter Try.func160, Try.ntmps160
      go_wp2
      go_ret
      exact ⟨ret_int E.out.symm, rfl⟩
    · go_enter Try.func160, Try.ntmps160
      go_wp2
      go_ret
      exact ⟨ret_int E.out.symm, rfl⟩


end Go.Proofs.Ytpelnfenfeoeeaa
end

section
/-
  Chapter 1, in the model: DivideFloor.
-/
namespace Go.Proofs.Ytpelnfenfeoeeaa
open Go.RowKit

set_option maxHeartbeats 400000 in
theorem sDiv (n d : Int) (w : World) (hn1 : -400000000 ≤ n) (hn2 : n ≤ 400000000) (hd1 : -400000000 ≤ d) (hd2 : d ≤ 400000000) (hd0 : d ≠ 0) :
    Calls Try.prog 139 #[.int .i64 n, .int .i64 d] w fun e w' => e = .returned (.tuple #[.int .i64 (n / d), .int .i64 (n % d), .bool true]) ∧ w = w' := by
  have hz : (d == 0) = false := by simpa using hd0
  by_cases hd : 0 < d
  · obtain ⟨m1, m2⟩ := mul_ediv_bd n d hd
    have E := Lib.hid (Int.emod_def n d)
    go_enter Try.func139, Try.ntmps139
    go_wp2_with (first | (go_at_call 105; refine (sIsNum_t _ _ (by omega) (by omega)).mono ?_; rintro e w' ⟨rfl, rfl⟩) | (go_at_call 100; refine (sAbs_p _ _ (by omega) (by omega)).mono ?_; rintro e w' ⟨rfl, rfl⟩) | (go_at_call 160; refine (sFloor _ _ _ (by omega) (by omega) (by omega) (by omega)).mono ?_; rintro e w' ⟨rfl, rfl⟩))
    go_ret3
    exact ⟨by rw [E.out]; rfl, rfl⟩
  · obtain ⟨c, rfl⟩ : ∃ c, d = -c := ⟨-d, by omega⟩
    have hc : 0 < c := by omega
    obtain ⟨m1, m2⟩ := mul_ediv_bd n c hc
    obtain ⟨m3, m4⟩ := ediv_bd n c hc hn1 hn2
    have E := Lib.hid (Int.emod_def n c)
    have E2 := Lib.hid (Int.ediv_neg n c)
    have E3 := Lib.hid (Int.emod_neg n c)
    go_enter Try.func139, Try.ntmps139
    go_wp2_with (first | (go_at_call 105; refine (sIsNum_t _ _ (by omega) (by omega)).mono ?_; rintro e w' ⟨rfl, rfl⟩) | (go_at_call 100; refine (sAbs_n _ _ (by omega) (by omega)).mono ?_; rintro e w' ⟨rfl, rfl⟩) | (go_at_call 160; refine (sFloor _ _ _ (by omega) (by omega) (by omega) (by omega)).mono ?_; rintro e w' ⟨rfl, rfl⟩))
    go_ret3
    exact ⟨by rw [E2.out, E3.out, E.out]; rfl, rfl⟩


theorem sDiv_f (n d : Int) (w : World) (h : ¬ ((-400000000 ≤ n ∧ n ≤ 400000000) ∧ (-400000000 ≤ d ∧ d ≤ 400000000) ∧ d ≠ 0)) :
    Calls Try.prog 139 #[.int .i64 n, .int .i64 d] w fun e w' => e = .returned (.tuple #[.int .i64 0, .int .i64 0, .bool false]) ∧ w = w' := by
  by_cases hn : -400000000 ≤ n ∧ n ≤ 400000000
  · by_cases hd : -400000000 ≤ d ∧ d ≤ 400000000
    · have h0 : d = 0 := by omega
      subst h0
      clear h hd
      go_enter Try.func139, Try.ntmps139
      go_wp2_with fail
      refine (sIsNum_t _ _ hn.1 hn.2).mono ?_
      rintro e w' ⟨rfl, rfl⟩
      go_wp2_with fail
      refine (sIsNum_t _ _ (by omega) (by omega)).mono ?_
      rintro e w' ⟨rfl, rfl⟩
      go_wp2_with fail
      go_ret3
      exact ⟨rfl, rfl⟩
    · have hd' : d < -400000000 ∨ 400000000 < d := by omega
      clear h hd
      go_enter Try.func139, Try.ntmps139
      go_wp2_with fail
      refine (sIsNum_t _ _ hn.1 hn.2).mono ?_
      rintro e w' ⟨rfl, rfl⟩
      go_wp2_with fail
      refine (sIsNum_f _ _ hd').mono ?_
      rintro e w' ⟨rfl, rfl⟩
      go_wp2_with fail
      go_ret3
      exact ⟨rfl, rfl⟩
  · have hn' : n < -400000000 ∨ 400000000 < n := by omega
    clear h hn
    go_enter Try.func139, Try.ntmps139
    go_wp2_with fail
    refine (sIsNum_f _ _ hn').mono ?_
    rintro e w' ⟨rfl, rfl⟩
    go_wp2_with fail
    go_ret3
    exact ⟨rfl, rfl⟩



end Go.Proofs.Ytpelnfenfeoeeaa
end

section
/-
  Chapter 12, in the model: the work of HermiteForm on a matrix and its account.
-/
namespace Go.Proofs.Ytpelnfenfeoeeaa
set_option maxRecDepth 100000
open Go.RowKit

/-- The matrix, its account and their boxes, somewhere in the work. -/
structure HmW (R C ga gu na nu ca cu : Nat) (w0 : World) (s : HSt) (w : World) : Prop where
  a : Ints w ga s.1
  u : Ints w gu s.2
  k2 : Blk3 w w0.heap.size 26 (.int .i64 R) (.int .i64 C) (.slice (some ⟨ga, 0, none⟩) na ca)
  k3 : Blk3 w (w0.heap.size + 1) 26 (.int .i64 R) (.int .i64 R) (.slice (some ⟨gu, 0, none⟩) nu cu)
  f : FrS (fun b => b = ga ∨ b = gu) w0 w
theorem HmW.step {R C ga gu na nu ca cu : Nat} {w0 w w' : World} {s : HSt} (h : HmW R C ga gu na nu ca cu w0 s w) (hb : Below w.heap.size w w') : HmW R C ga gu na nu ca cu w0 s w' :=
  ⟨h.a.keep hb h.a.lt, h.u.keep hb h.u.lt, h.k2.step hb, h.k3.step hb, h.f.trans (FrS.of_below hb)⟩
theorem HmW.next {R C ga gu na nu ca cu : Nat} {w0 w w' : World} {s s' : HSt} (h : HmW R C ga gu na nu ca cu w0 s w) (la : ga < w0.heap.size) (lu : gu < w0.heap.size) (ha : Ints w' ga s'.1) (hu : Ints w' gu s'.2) (hf : FrS (fun b => b = ga ∨ b = gu) w w') : HmW R C ga gu na nu ca cu w0 s' w' :=
  ⟨ha, hu, h.k2.frs hf (by omega), h.k3.frs hf (by omega), h.f.trans hf⟩
/-- What one region reads. -/
theorem HmW.box {R C ga gu na nu ca cu : Nat} {w0 w w' : World} {s : HSt} (h : HmW R C ga gu na nu ca cu w0 s w) (hb : Below w.heap.size w w') : w'.cell? ⟨w0.heap.size, 0, none⟩ = some (.int .i64 R) ∧ w'.cell? ⟨w0.heap.size, 1, none⟩ = some (.int .i64 C) ∧ w'.cell? ⟨w0.heap.size, 2, none⟩ = some (.slice (some ⟨ga, 0, none⟩) na ca) := by
  obtain ⟨a1, a2, a3, -, -, -⟩ := (h.k2.step hb).all
  exact ⟨a1, a2, a3⟩
/-- What is answered, and what the blocks hold then. -/
def HerRes (ga gu : Nat) (o : Option HSt) (w : World) (e : Ending) (w' : World) : Prop := e = .returned (.bool o.isSome) ∧ FrS (fun b => b = ga ∨ b = gu) w w' ∧ ∀ s, o = some s → Ints w' ga s.1 ∧ Ints w' gu s.2
set_option maxHeartbeats 8000000 in
theorem sHer (R C ga gu na nu ca cu : Nat) (xs : List Int) (w : World) (ha : Ints w ga xs) (hu : Ints w gu (idL R R)) (hne : ga ≠ gu) (hx : xs.length = na) (hna : na = R * C) (hnu : nu = R * R) (hR : R ≤ 24) (hC : C ≤ 24) (hno : nums xs = true) :
    Calls Try.prog 88 #[.agg #[.int .i64 R, .int .i64 C, .slice (some ⟨ga, 0, none⟩) na ca], .agg #[.int .i64 R, .int .i64 R, .slice (some ⟨gu, 0, none⟩) nu cu]] w (HerRes ga gu (herX R C xs) w) := by
  have la := ha.lt
  have lu := hu.lt
  have F0 := Lib.hid (herX_start (by rw [hx, hna]) hno)
  have X0 : Hid (herX R C xs = allF R C (C - 0) 0 0 (xs, idL R R)) := rfl
  have ln : na ≤ 16777216 := by have : R * C ≤ 24 * 24 := Nat.mul_le_mul hR hC; omega
  have lm : nu ≤ 16777216 := by have : R * R ≤ 24 * 24 := Nat.mul_le_mul hR hR; omega
  have W0 : Hid (HmW R C ga gu na nu ca cu w (xs, idL R R) ((w.alloc (.cells #[.int .i64 R, .int .i64 C, .slice (some ⟨ga, 0, none⟩) na ca] 26)).alloc (.cells #[.int .i64 R, .int .i64 R, .slice (some ⟨gu, 0, none⟩) nu cu] 26))) :=
    ⟨(ha.old _).old _, (hu.old _).old _, (Blk3.at_ _ _ _ _ rfl).old _, Blk3.at_ _ _ _ _ (by simp), ((FrS.refl _ _).alloc _).alloc _⟩
  have LE : Hid (∀ (s : HSt) w' (t j : Nat), HmW R C ga gu na nu ca cu w s w' → Siz R C s → okS s = true → t ≤ R → j < C → Calls Try.prog 137 #[.agg #[.int .i64 R, .int .i64 C, .slice (some ⟨ga, 0, none⟩) na ca], .int .i64 t, .int .i64 j] w' (Gives (.int .i64 (leastS R C j t s)) w')) := fun s w' t j h1 h2 h3 h4 h5 => sLeast R C _ na ca j t s w' h1.a.rd (by rw [h2.l1, hna]) hna hR hC h5 h4 (okS_and h3).1
  have AL : Hid (∀ (s : HSt) w' (t j p : Nat), HmW R C ga gu na nu ca cu w s w' → Siz R C s → t ≤ R → j < C → p < R → Calls Try.prog 138 #[.agg #[.int .i64 R, .int .i64 C, .slice (some ⟨ga, 0, none⟩) na ca], .int .i64 t, .int .i64 j, .int .i64 p] w' (Gives (.bool (aloneB R C p j t s)) w')) := fun s w' t j p h1 h2 h3 h4 h5 => sAlone R C _ na ca p j t s w' h1.a.rd (by rw [h2.l1, hna]) hna hR hC h4 h3 h5
  have CE : Hid (∀ (s : HSt) w' (i j : Nat), HmW R C ga gu na nu ca cu w s w' → Siz R C s → i < R → j < C → Calls Try.prog 63 #[.agg #[.int .i64 R, .int .i64 C, .slice (some ⟨ga, 0, none⟩) na ca], .int .i64 i, .int .i64 j] w' (Gives (.int .i64 (celS C s i j)) w')) := fun s w' i j h1 h2 h3 h4 => sCel R C _ na ca i j s.1 w' h1.a.rd (by rw [h2.l1, hna]) hna hR hC h3 h4
  have OP : Hid (∀ (s : HSt) w' (k z : Int) (I J : Nat), HmW R C ga gu na nu ca cu w s w' → Siz R C s → I < R → J < R → (k = 0 ∨ k = 1 ∨ k = 2) → (k = 0 → I ≠ J) → Calls Try.prog 108 #[.agg #[.int .i64 R, .int .i64 C, .slice (some ⟨ga, 0, none⟩) na ca], .agg #[.int .i64 R, .int .i64 R, .slice (some ⟨gu, 0, none⟩) nu cu], .agg #[.int .i64 k, .int .i64 I, .int .i64 J, .int .i64 z]] w' (fun e w2 => Void e ∧ HmW R C ga gu na nu ca cu w (op2 R C k I J z s) w2)) := fun s w' k z I J h1 h2 h3 h4 h5 h6 => by
    refine (sOps R C I J ga gu na nu ca cu k z s w' h1.a h1.u hne (by rw [h2.l1, hna]) hna (by rw [h2.l2, hnu]) hnu hR hC h3 h4 h5 h6).mono ?_
    rintro e w2 ⟨r1, r2, r3, r4⟩
    exact ⟨r1, h1.next la lu r2 r3 r4⟩
  have BA : Hid (∀ (s : HSt) w', HmW R C ga gu na nu ca cu w s w' → Siz R C s → Calls Try.prog 111 #[.slice (some ⟨ga, 0, none⟩) na ca] w' (Gives (.bool (!nums s.1)) w')) := fun s w' h1 h2 => sBads _ na ca s.1 w' h1.a.rd (by rw [h2.l1, hna]) ln h2.m1
  have BU : Hid (∀ (s : HSt) w', HmW R C ga gu na nu ca cu w s w' → Siz R C s → Calls Try.prog 111 #[.slice (some ⟨gu, 0, none⟩) nu cu] w' (Gives (.bool (!nums s.2)) w')) := fun s w' h1 h2 => sBads _ nu cu s.2 w' h1.u.rd (by rw [h2.l2, hnu]) lm h2.m2
  have DV : Hid (∀ (x y : Int) w', NumP x → NumP y → y ≠ 0 → Calls Try.prog 139 #[.int .i64 x, .int .i64 y] w' (Gives (.tuple #[.int .i64 (x / y), .int .i64 (x % y), .bool true]) w')) := fun x y w' h1 h2 h3 => by
    refine (sDiv x y w' h1.1 h1.2 h2.1 h2.2 h3).mono ?_
    rintro e w2 ⟨rfl, rfl⟩
    exact ⟨rfl, Below.refl _ _⟩
  generalize herX R C xs = X at X0 ⊢
  obtain ⟨M, hM⟩ : ∃ M, mxC C xs = M := ⟨_, rfl⟩
  rw [hM] at F0
  have H0 : Hid (HInv R C (mxC C xs) (fun _ => 0) 0 0) := HInv.start _ _ _ _
  clear ha hu hx hna hnu hno ln lm hM
  go_enter Try.func88, Try.ntmps88
  go_wp2_with fail
  generalize (w.alloc (.cells #[.int .i64 R, .int .i64 C, .slice (some ⟨ga, 0, none⟩) na ca] 26)).alloc (.cells #[.int .i64 R, .int .i64 R, .slice (some ⟨gu, 0, none⟩) nu cu] 26) = W0' at W0 ⊢
  go_loopw [4, 5, 6, 7, 8, 9, 10, 11, 12, 13, 14, 15] (fun _ v5 v6 _ _ _ _ _ _ _ _ _ wq => ∃ (j t : Nat) (s : HSt) (q : Nat → Nat), v5 = .int .i64 t ∧ v6 = .int .i64 j ∧ t ≤ R ∧ j ≤ C ∧ Fin2 R C M s ∧ HInv R C (mxC C s.1) q t j ∧ X = allF R C (C - j) j t s ∧ HmW R C ga gu na nu ca cu w s wq) (fun _ _ v6 _ _ _ _ _ _ _ _ _ _ => C - (intOf v6).toNat)
  case atStart => exact ⟨0, 0, (xs, idL R R), fun _ => 0, rfl, rfl, Nat.zero_le _, Nat.zero_le _, F0.out, H0.out, X0.out, W0.out⟩
  case round =>
    clear W0 F0 X0 H0
    obtain ⟨j, t, s, q, rfl, rfl, ht, hj, hF, hI, hX, hW⟩ := hrel
    have FN := Lib.hid hF
    have IN := Lib.hid hI
    have EX := Lib.hid hX
    have WS := Lib.hid hW
    clear hF hI hX hW
    obtain ⟨p0, p1, p2, -, -, -⟩ := WS.out.k2.all
    by_cases hjC : j < C
    rotate_left
    · obtain rfl : j = C := by omega
      have V : Hid (X = some s) := by refine Lib.hid ?_; rw [EX.out, Nat.sub_self]; rfl
      go_wp2_with fail
      rw [V.out]
      exact bodyPost_ret (v := .bool true) (by simp [results, Try.results88, go_sem]) rfl ⟨rfl, WS.out.f, fun s' h => by cases h; exact ⟨WS.out.a, WS.out.u⟩⟩
    by_cases htR : t < R
    rotate_left
    · have V : Hid (X = some s) := by refine Lib.hid ?_; rw [EX.out, all_full htR]
      go_wp2_with fail
      rw [V.out]
      exact bodyPost_ret (v := .bool true) (by simp [results, Try.results88, go_sem]) rfl ⟨rfl, WS.out.f, fun s' h => by cases h; exact ⟨WS.out.a, WS.out.u⟩⟩
    obtain ⟨m, hm⟩ : ∃ m, C - j = m + 1 := ⟨C - j - 1, by omega⟩
    have EX : Hid (X = allF R C (m + 1) j t s) := by rw [← hm]; exact EX.out
    have EM : Hid (C - (j + 1) = m) := by show _ = _; omega
    clear hm
    have LE1 := Lib.hid (LE.out s wr t j WS.out FN.out.siz FN.out.ok ht hjC)
    go_wp2_with fail
    refine LE1.out.mono ?_
    rintro e w3 ⟨rfl, hb3⟩
    have W3 := Lib.hid (WS.out.step hb3)
    clear hb3 LE1 WS p0 p1 p2
    rcases leastS_says R C j t s ht with ⟨hl, hz⟩ | ⟨p, hL⟩
    · have EX : Hid (X = allF R C m (j + 1) t s) := by refine Lib.hid ?_; rw [EX.out, all_some htR (col_skip hl)]
      have I2 := Lib.hid (IN.out.skip hjC hz)
      rw [hl]
      clear hl hz
      go_wp2_with fail
      go_roundw
      case rel => exact ⟨j + 1, t, s, q, rfl, by go_num, ht, by omega, FN.out, I2.out, by rw [EM.out]; exact EX.out, W3.out⟩
      case measure => simp [intOf]; omega
    have hlp := hL.1
    have LP := Lib.hid hL
    rw [hlp]
    have ELP := Lib.hid hlp
    clear hL hlp
    have n5 : ¬ (p : Int) < 0 := by omega
    obtain ⟨f0, hf0⟩ : ∃ f0, (celS C s p j).natAbs + 1 = f0 := ⟨_, rfl⟩
    have FU : Hid (Fuel R C j t f0 s p) := by rw [← hf0]; exact Fuel.start R C j t s p
    obtain ⟨LF, hLF⟩ : ∃ LF, loopF R C j t f0 s p = LF := ⟨_, rfl⟩
    have CN : Hid (LF = none → X = none) := fun h => by rw [EX.out]; exact all_none htR (col_none ELP.out (by rw [hf0, hLF, h]))
    have CB : Hid (∀ s1 p1, LF = some (s1, p1) → okS (pvS R C j t p1 s1) = false → X = none) := fun s1 p1 h ho => by rw [EX.out]; exact all_none htR (col_bad ELP.out (by rw [hf0, hLF, h]) ho)
    have CO : Hid (∀ s1 p1, LF = some (s1, p1) → okS (pvS R C j t p1 s1) = true → X = allF R C m (j + 1) (t + 1) (pvS R C j t p1 s1)) := fun s1 p1 h ho => by rw [EX.out]; exact all_some htR (col_ok ELP.out (by rw [hf0, hLF, h]) ho)
    have CS : Hid (∀ s1 p1, LF = some (s1, p1) → okS (pvS R C j t p1 s1) = true → Fin2 R C M (pvS R C j t p1 s1) ∧ ∃ q', HInv R C (mxC C (pvS R C j t p1 s1).1) q' (t + 1) (j + 1)) := fun s1 p1 h ho => colF_says FN.out IN.out hjC htR (col_ok ELP.out (by rw [hf0, hLF, h]) ho)
    clear hf0
    go_wp2_with fail
    go_loopg [4, 7, 8, 9, 10, 11] f0 (fun gk _ v7 _ _ _ _ wq => ∃ (s1 : HSt) (p1 : Nat), v7 = .int .i64 p1 ∧ Fuel R C j t gk s1 p1 ∧ loopF R C j t gk s1 p1 = LF ∧ Fin2 R C M s1 ∧ HInv R C (mxC C s1.1) q t j ∧ t ≤ p1 ∧ p1 < R ∧ celS C s1 p1 j ≠ 0 ∧ HmW R C ga gu na nu ca cu w s1 wq)
    case atStart => exact ⟨s, p, rfl, FU.out, hLF, FN.out, IN.out, LP.out.2.1, LP.out.2.2.1, LP.out.2.2.2.1, W3.out⟩
    case round =>
      clear FU W3 n5 hLF ELP EX LP FN IN
      obtain ⟨s1, p1, rfl, hfu, hlf, hF, hI, htp, hpR, hpz, hW⟩ := hrel
      have FU := Lib.hid hfu
      have EL := Lib.hid hlf
      have FN := Lib.hid hF
      have IN := Lib.hid hI
      have PZ := Lib.hid hpz
      have WS := Lib.hid hW
      clear hfu hlf hF hI hpz hW
      obtain ⟨p0, p1', p2, -, -, -⟩ := WS.out.k2.all
      have AL1 := Lib.hid (AL.out s1 wr t j p1 WS.out FN.out.siz ht hjC hpR)
      obtain ⟨al, hal⟩ : ∃ al, aloneB R C p1 j t s1 = al := ⟨_, rfl⟩
      rw [hal] at AL1
      have HAL := Lib.hid hal
      clear hal
      go_wp2_with fail
      refine AL1.out.mono ?_
      rintro e w4 ⟨rfl, hb4⟩
      have W4 := Lib.hid (WS.out.step hb4)
      clear hb4 AL1 WS p0 p1' p2
      cases al with
      | true =>
        have EL : Hid (LF = some (s1, p1)) := by refine Lib.hid ?_; rw [← EL.out]; exact loopF_alone FU.out.1 HAL.out
        have O1 := Lib.hid (ok_sw (C := C) (R := R) (p := p1) (t := t) FN.out.ok)
        obtain ⟨F1, I1, Z1, Y1⟩ := swS_says FN.out IN.out hjC hpR htp PZ.out HAL.out O1.out
        have O2 := Lib.hid (ok_ng (R := R) (C := C) (j := j) (t := t) O1.out)
        obtain ⟨F2, I2, Z2, Y2⟩ := ngS_says F1 I1 hjC htR Z1 Y1 O2.out
        have SZ0 := Lib.hid FN.out.siz
        have SZ1 := Lib.hid F1.siz
        have SW1 : Hid (p1 ≠ t → op2 R C 0 p1 t 0 s1 = swS R C p1 t s1) := fun h => by unfold swS; rw [if_pos h]
        have SW2 : Hid (p1 = t → s1 = swS R C p1 t s1) := fun h => by unfold swS; rw [if_neg (fun h2 => h2 h)]
        have NG1 : Hid (celS C (swS R C p1 t s1) t j < 0 → op2 R C 1 t t 0 (swS R C p1 t s1) = ngS R C j t (swS R C p1 t s1)) := fun h => by unfold ngS; rw [if_pos h]
        have NG2 : Hid (¬ celS C (swS R C p1 t s1) t j < 0 → swS R C p1 t s1 = ngS R C j t (swS R C p1 t s1)) := fun h => by unfold ngS; rw [if_neg h]
        have FG := Lib.hid F2
        have ZG := Lib.hid Z2
        have PV : Hid (pvS R C j t p1 s1 = upF R C j t (ngS R C j t (swS R C p1 t s1)) t) := rfl
        have CB1 := Lib.hid (CB.out s1 p1 EL.out)
        have CO1 := Lib.hid (CO.out s1 p1 EL.out)
        have CS1 := Lib.hid (CS.out s1 p1 EL.out)
        rw [PV.out] at CB1 CO1 CS1
        clear F1 I1 Z1 Y1 F2 I2 Z2 Y2 PV CB CO CS CN EL IN FN PZ O1 O2 FU HAL
        generalize ngS R C j t (swS R C p1 t s1) = st2 at NG1 NG2 FG ZG CB1 CO1 CS1
        generalize swS R C p1 t s1 = st1 at SZ1 SW1 SW2 NG1 NG2
        go_upto_if 92 with fail
        go_cut [] (fun wx => HmW R C ga gu na nu ca cu w st1 wx)
        case first =>
          by_cases hpt : p1 = t
          · have n2 : ((p1 : Int) != (t : Int)) = false := by simp [hpt]
            have S2 : Hid (HmW R C ga gu na nu ca cu w st1 w4) := by refine Lib.hid ?_; rw [← SW2.out hpt]; exact W4.out
            clear hpt
            go_wp2_with fail
            go_meet
            exact S2.out
          · have n2 : ((p1 : Int) != (t : Int)) = true := by simp; omega
            have OPN := Lib.hid (OP.out s1 w4 0 0 p1 t W4.out SZ0.out hpR htR (.inl rfl) (fun _ => hpt))
            rw [SW1.out hpt] at OPN
            obtain ⟨p0, p1', p2, -, -, -⟩ := W4.out.k2.all
            obtain ⟨u0, u1, u2, -, -, -⟩ := W4.out.k3.all
            clear hpt
            go_wp2_with fail
            refine OPN.out.mono ?_
            rintro e w5 ⟨rfl, h5⟩
            have W5 := Lib.hid h5
            clear h5
            go_wp2_with fail
            go_meet
            exact W5.out
        case rest =>
          have WA := Lib.hid hcut
          clear hcut W4 SW1 SW2 SZ0
          rename World => wa
          have CE1 := Lib.hid (CE.out st1 wa t j WA.out SZ1.out htR hjC)
          obtain ⟨p0, p1', p2, -, -, -⟩ := WA.out.k2.all
          obtain ⟨x, hx⟩ : ∃ x, celS C st1 t j = x := ⟨_, rfl⟩
          rw [hx] at CE1 NG1 NG2
          clear hx
          go_wp2_with fail
          refine CE1.out.mono ?_
          rintro e w5 ⟨rfl, hb5⟩
          have W5 := Lib.hid (WA.out.step hb5)
          clear hb5 CE1 WA p0 p1' p2
          go_upto_if 103 with fail
          go_cut [] (fun wx => HmW R C ga gu na nu ca cu w st2 wx)
          case first =>
            by_cases hx0 : x < 0
            · have OPN := Lib.hid (OP.out st1 w5 1 0 t t W5.out SZ1.out htR htR (.inr (.inl rfl)) (fun h => by cases h))
              rw [NG1.out hx0] at OPN
              obtain ⟨p0, p1', p2, -, -, -⟩ := W5.out.k2.all
              obtain ⟨u0, u1, u2, -, -, -⟩ := W5.out.k3.all
              go_wp2_with fail
              refine OPN.out.mono ?_
              rintro e w6 ⟨rfl, h6⟩
              have W6 := Lib.hid h6
              clear h6
              go_wp2_with fail
              go_meet
              exact W6.out
            · have S2 : Hid (HmW R C ga gu na nu ca cu w st2 w5) := by refine Lib.hid ?_; rw [← NG2.out (by omega)]; exact W5.out
              go_wp2_with fail
              go_meet
              exact S2.out
          case rest =>
            have WA := Lib.hid hcut
            clear hcut W5 NG1 NG2 SZ1
            go_wp2_with fail
            go_loopw [12, 13, 14, 15] (fun v12 _ _ _ wq => ∃ n : Nat, v12 = .int .i64 n ∧ n ≤ t ∧ HmW R C ga gu na nu ca cu w (upF R C j t st2 n) wq) (fun v12 _ _ _ _ => t - (intOf v12).toNat)
            case atStart => exact ⟨0, rfl, Nat.zero_le _, WA.out⟩
            case round =>
              clear WA
              obtain ⟨n, rfl, hn, hW⟩ := hrel
              have WR := Lib.hid hW
              clear hW
              have SZ := Lib.hid (upF_siz (j := j) (t := t) FG.out.siz n)
              by_cases hlt : n < t
              · have KP := upF_keep FG.out.siz hjC htR n hn
                have CX := Lib.hid (KP.2 n (by omega) (Nat.le_refl _))
                have CY := Lib.hid KP.1
                clear KP
                have ES := Lib.hid (up_do FG.out.siz hjC htR hlt)
                have NX := FG.out.num n j
                have NY := FG.out.num t j
                have yz : celS C st2 t j ≠ 0 := by have := ZG.out; omega
                have C1 : Hid (∀ w', Below wr.heap.size wr w' → Calls Try.prog 63 #[.agg #[.int .i64 R, .int .i64 C, .slice (some ⟨ga, 0, none⟩) na ca], .int .i64 n, .int .i64 j] w' (Gives (.int .i64 (celS C st2 n j)) w')) := fun w' h => by rw [← CX.out]; exact CE.out _ w' n j (WR.out.step h) SZ.out (by omega) hjC
                have C2 : Hid (∀ w', Below wr.heap.size wr w' → Calls Try.prog 63 #[.agg #[.int .i64 R, .int .i64 C, .slice (some ⟨ga, 0, none⟩) na ca], .int .i64 t, .int .i64 j] w' (Gives (.int .i64 (celS C st2 t j)) w')) := fun w' h => by rw [← CY.out]; exact CE.out _ w' t j (WR.out.step h) SZ.out htR hjC
                have OPH : Hid (∀ (z : Int) w', HmW R C ga gu na nu ca cu w (upF R C j t st2 n) w' → Calls Try.prog 108 #[.agg #[.int .i64 R, .int .i64 C, .slice (some ⟨ga, 0, none⟩) na ca], .agg #[.int .i64 R, .int .i64 R, .slice (some ⟨gu, 0, none⟩) nu cu], .agg #[.int .i64 2, .int .i64 n, .int .i64 t, .int .i64 z]] w' (fun e w2 => Void e ∧ HmW R C ga gu na nu ca cu w (op2 R C 2 n t z (upF R C j t st2 n)) w2)) := fun z w' h => OP.out _ w' 2 z n t h SZ.out (by omega) htR (.inr (.inr rfl)) (fun h => by cases h)
                obtain ⟨x, hx⟩ : ∃ x, celS C st2 n j = x := ⟨_, rfl⟩
                obtain ⟨y, hy⟩ : ∃ y, celS C st2 t j = y := ⟨_, rfl⟩
                rw [hx] at ES NX C1
                rw [hy] at ES NY C2 yz
                clear hx hy CX CY
                have NQ := quot_num (x := x) (y := y) NX yz
                have DW : Hid (∀ w', Calls Try.prog 139 #[.int .i64 x, .int .i64 y] w' (Gives (.tuple #[.int .i64 (x / y), .int .i64 (x % y), .bool true]) w')) := fun w' => DV.out x y w' NX NY yz
                generalize x % y = rm at DW
                obtain ⟨qq, hqq⟩ : ∃ qq, x / y = qq := ⟨_, rfl⟩
                rw [hqq] at ES NQ DW
                obtain ⟨q1, q2⟩ := NQ
                obtain ⟨z, hz⟩ : ∃ z, -qq = z := ⟨_, rfl⟩
                have v1 : IntKind.i64.wrap (-qq) = z := by rw [hz]; exact IntWalk.i64_in _ (by omega)
                rw [hz] at ES
                clear hqq hz NX NY yz q1 q2
                go_wp2_with fail
                refine wp_region_T (S := fun w' => Below wr.heap.size wr w') (T := fun _ => false) (by kernel_rfl) (Below.refl _ _).drew (fun hH => ?_)
                refine wpAnyT_take (i := 0) (v := ?_) (by simp only [List.getElem?_toArray, List.getElem?_cons_zero]; rfl) (by kernel_rfl) (by kernel_rfl) (by kernel_rfl) (by kernel_rfl) (fun _ hj => by cases hj) (by exact fun _ _ _ h => h) (Or.inl ⟨by rfl, ?_⟩) hH ?_
                rotate_left
                · (intro wS hS; (try dsimp only at hS); obtain ⟨k1, k2, k3⟩ := WR.out.box hS; go_simp; try rfl)
                try simp only [Act.put, List.setIfInBounds_toArray, List.set_cons_zero, List.set_cons_succ]
                refine wpAnyT_take (i := 1) (v := ?_) (by simp only [List.getElem?_toArray, List.getElem?_cons_succ, List.getElem?_cons_zero]; rfl) (by kernel_rfl) (by kernel_rfl) (by kernel_rfl) (by kernel_rfl) (fun _ hj => by cases hj) (by exact fun _ _ _ h => h) (Or.inl ⟨by rfl, ?_⟩) hH ?_
                rotate_left
                · (intro wS hS; clear hS; go_simp; try rfl)
                try simp only [Act.put, List.setIfInBounds_toArray, List.set_cons_zero, List.set_cons_succ]
                refine wpAnyT_take (i := 2) (v := ?_) (by simp only [List.getElem?_toArray, List.getElem?_cons_succ, List.getElem?_cons_zero]; rfl) (by kernel_rfl) (by kernel_rfl) (by kernel_rfl) (by kernel_rfl) (fun _ hj => by cases hj) (by exact fun _ _ _ h => h) (Or.inl ⟨by rfl, ?_⟩) hH ?_
                rotate_left
                · (intro wS hS; clear hS; go_simp; try rfl)
                try simp only [Act.put, List.setIfInBounds_toArray, List.set_cons_zero, List.set_cons_succ]
                refine wpAnyT_take (i := 4) (v := ?_) (by simp only [List.getElem?_toArray, List.getElem?_cons_succ, List.getElem?_cons_zero]; rfl) (by kernel_rfl) (by kernel_rfl) (by kernel_rfl) (by kernel_rfl) (fun _ hj => by cases hj) (by exact fun _ _ _ h => h) (Or.inl ⟨by rfl, ?_⟩) hH ?_
                rotate_left
                · (intro wS hS; (try dsimp only at hS); obtain ⟨k1, k2, k3⟩ := WR.out.box hS; go_simp; try rfl)
                try simp only [Act.put, List.setIfInBounds_toArray, List.set_cons_zero, List.set_cons_succ]
                refine wpAnyT_take (i := 5) (v := ?_) (by simp only [List.getElem?_toArray, List.getElem?_cons_succ, List.getElem?_cons_zero]; rfl) (by kernel_rfl) (by kernel_rfl) (by kernel_rfl) (by kernel_rfl) (fun _ hj => by cases hj) (by exact fun _ _ _ h => h) (Or.inl ⟨by rfl, ?_⟩) hH ?_
                rotate_left
                · (intro wS hS; clear hS; go_simp; try rfl)
                try simp only [Act.put, List.setIfInBounds_toArray, List.set_cons_zero, List.set_cons_succ]
                refine wpAnyT_take (i := 6) (v := ?_) (by simp only [List.getElem?_toArray, List.getElem?_cons_succ, List.getElem?_cons_zero]; rfl) (by kernel_rfl) (by kernel_rfl) (by kernel_rfl) (by kernel_rfl) (fun _ hj => by cases hj) (by exact fun _ _ _ h => h) (Or.inl ⟨by rfl, ?_⟩) hH ?_
                rotate_left
                · (intro wS hS; clear hS; go_simp; try rfl)
                try simp only [Act.put, List.setIfInBounds_toArray, List.set_cons_zero, List.set_cons_succ]
                refine wpAnyT_ready (rs := [3]) (by kernel_rfl) (by simp) ?_
                refine AllReadyT.cons (by simp only [List.getElem?_toArray, List.getElem?_cons_succ, List.getElem?_cons_zero]; rfl) (fun K hK => ?_) AllReadyT.nil
                go_simp
                (with_reducible refine (C1.out _ hH).mono ?_)
                rintro e v1 ⟨rfl, hb1⟩
                try dsimp only
                refine hK.out _ _ (fun _ => hH.trans (hb1.mono hH.size)) ?_
                clear hK K
                have hH := hH.trans (hb1.mono hH.size)
                clear hb1
                try simp only [Act.put, List.setIfInBounds_toArray, List.set_cons_zero, List.set_cons_succ]
                refine wpAnyT_ready (rs := [7]) (by kernel_rfl) (by simp) ?_
                refine AllReadyT.cons (by simp only [List.getElem?_toArray, List.getElem?_cons_succ, List.getElem?_cons_zero]; rfl) (fun K hK => ?_) AllReadyT.nil
                go_simp
                (with_reducible refine (C2.out _ hH).mono ?_)
                rintro e v2 ⟨rfl, hb2⟩
                try dsimp only
                refine hK.out _ _ (fun _ => hH.trans (hb2.mono hH.size)) ?_
                clear hK K
                have hH := hH.trans (hb2.mono hH.size)
                clear hb2
                try simp only [Act.put, List.setIfInBounds_toArray, List.set_cons_zero, List.set_cons_succ]
                refine wpAnyT_ready (rs := [8]) (by kernel_rfl) (by simp) ?_
                refine AllReadyT.cons (by simp only [List.getElem?_toArray, List.getElem?_cons_succ, List.getElem?_cons_zero]; rfl) (fun K hK => ?_) AllReadyT.nil
                go_simp
                (with_reducible refine (DW.out _).mono ?_)
                rintro e v3 ⟨rfl, hb3⟩
                try dsimp only
                refine hK.out _ _ (fun _ => hH.trans (hb3.mono hH.size)) ?_
                clear hK K
                have hH := hH.trans (hb3.mono hH.size)
                clear hb3
                try simp only [Act.put, List.setIfInBounds_toArray, List.set_cons_zero, List.set_cons_succ]
                refine wpAnyT_take (i := 9) (v := ?_) (by simp only [List.getElem?_toArray, List.getElem?_cons_succ, List.getElem?_cons_zero]; rfl) (by kernel_rfl) (by kernel_rfl) (by kernel_rfl) (by kernel_rfl) (fun _ hj => by cases hj) (by exact fun _ _ _ h => h) (Or.inl ⟨by rfl, ?_⟩) hH ?_
                rotate_left
                · (intro wS hS; clear hS; go_simp; try rfl)
                try simp only [Act.put, List.setIfInBounds_toArray, List.set_cons_zero, List.set_cons_succ]
                refine wpAnyT_take (i := 10) (v := ?_) (by simp only [List.getElem?_toArray, List.getElem?_cons_succ, List.getElem?_cons_zero]; rfl) (by kernel_rfl) (by kernel_rfl) (by kernel_rfl) (by kernel_rfl) (fun _ hj => by cases hj) (by exact fun _ _ _ h => h) (Or.inl ⟨by rfl, ?_⟩) hH ?_
                rotate_left
                · (intro wS hS; clear hS; go_simp; try rfl)
                try simp only [Act.put, List.setIfInBounds_toArray, List.set_cons_zero, List.set_cons_succ]
                refine wpAnyT_take (i := 11) (v := ?_) (by simp only [List.getElem?_toArray, List.getElem?_cons_succ, List.getElem?_cons_zero]; rfl) (by kernel_rfl) (by kernel_rfl) (by kernel_rfl) (by kernel_rfl) (fun _ hj => by cases hj) (by exact fun _ _ _ h => h) (Or.inl ⟨by rfl, ?_⟩) hH ?_
                rotate_left
                · (intro wS hS; clear hS; go_simp; try rfl)
                try simp only [Act.put, List.setIfInBounds_toArray, List.set_cons_zero, List.set_cons_succ]
                refine wpAnyT_take (i := 12) (v := ?_) (by simp only [List.getElem?_toArray, List.getElem?_cons_succ, List.getElem?_cons_zero]; rfl) (by kernel_rfl) (by kernel_rfl) (by kernel_rfl) (by kernel_rfl) (fun _ hj => by cases hj) (by exact fun _ _ _ h => h) (Or.inl ⟨by rfl, ?_⟩) hH ?_
                rotate_left
                · (intro wS hS; clear hS; go_simp; try rfl)
                try simp only [Act.put, List.setIfInBounds_toArray, List.set_cons_zero, List.set_cons_succ]
                refine wpAnyT_take (i := 13) (v := ?_) (by simp only [List.getElem?_toArray, List.getElem?_cons_succ, List.getElem?_cons_zero]; rfl) (by kernel_rfl) (by kernel_rfl) (by kernel_rfl) (by kernel_rfl) (fun _ hj => by cases hj) (by exact fun _ _ _ h => h) (Or.inl ⟨by rfl, ?_⟩) hH ?_
                rotate_left
                · (intro wS hS; clear hS; go_simp; try rfl)
                try simp only [Act.put, List.setIfInBounds_toArray, List.set_cons_zero, List.set_cons_succ]
                refine wpAnyT_take (i := 14) (v := ?_) (by simp only [List.getElem?_toArray, List.getElem?_cons_succ, List.getElem?_cons_zero]; rfl) (by kernel_rfl) (by kernel_rfl) (by kernel_rfl) (by kernel_rfl) (fun _ hj => by cases hj) (by exact fun _ _ _ h => h) (Or.inl ⟨by rfl, ?_⟩) hH ?_
                rotate_left
                · (intro wS hS; clear hS; go_simp; try rfl)
                try simp only [Act.put, List.setIfInBounds_toArray, List.set_cons_zero, List.set_cons_succ]
                refine wpAnyT_take (i := 15) (v := ?_) (by simp only [List.getElem?_toArray, List.getElem?_cons_succ, List.getElem?_cons_zero]; rfl) (by kernel_rfl) (by kernel_rfl) (by kernel_rfl) (by kernel_rfl) (fun _ hj => by cases hj) (by exact fun _ _ _ h => h) (Or.inl ⟨by rfl, ?_⟩) hH ?_
                rotate_left
                · (intro wS hS; clear hS; go_simp; try rfl)
                try simp only [Act.put, List.setIfInBounds_toArray, List.set_cons_zero, List.set_cons_succ]
                refine wpAnyT_done (by kernel_rfl) ?_ _
                have W6 := Lib.hid (WR.out.step hH)
                obtain ⟨p0, p1', p2, -, -, -⟩ := W6.out.k2.all
                obtain ⟨u0, u1, u2, -, -, -⟩ := W6.out.k3.all
                go_wp2_with fail
                refine (OPH.out z _ W6.out).mono ?_
                rintro e w7 ⟨rfl, h7⟩
                have W7 := Lib.hid h7
                clear h7 W6 p0 p1' p2 u0 u1 u2 hH
                go_wp2_with fail
                go_roundw
                case rel => exact ⟨n + 1, by go_num, by omega, by rw [ES.out]; exact W7.out⟩
                case measure => simp [intOf]; omega
              · obtain rfl : n = t := by omega
                obtain ⟨p0, p1', p2, -, -, -⟩ := WR.out.k2.all
                have BA1 := Lib.hid (BA.out _ wr WR.out SZ.out)
                have CBX : Hid (okS (upF R C j n st2 n) = false → X = none) := fun h => CB1.out h
                have COX : Hid (okS (upF R C j n st2 n) = true → X = allF R C m (j + 1) (n + 1) (upF R C j n st2 n)) := fun h => CO1.out h
                have CSX : Hid (okS (upF R C j n st2 n) = true → Fin2 R C M (upF R C j n st2 n) ∧ ∃ q', HInv R C (mxC C (upF R C j n st2 n).1) q' (n + 1) (j + 1)) := fun h => CS1.out h
                clear CB1 CO1 CS1
                generalize upF R C j n st2 n = s2 at SZ WR BA1 CBX COX CSX
                have OK0 : Hid (okS s2 = (nums s2.1 && nums s2.2)) := rfl
                obtain ⟨n1, hn1⟩ : ∃ b, nums s2.1 = b := ⟨_, rfl⟩
                obtain ⟨n2, hn2⟩ : ∃ b, nums s2.2 = b := ⟨_, rfl⟩
                rw [hn1] at BA1
                rw [hn1, hn2] at OK0
                go_wp2_with fail
                refine BA1.out.mono ?_
                rintro e w5 ⟨rfl, hb5⟩
                have W5 := Lib.hid (WR.out.step hb5)
                clear hb5 BA1 WR p0 p1' p2
                obtain ⟨p0, p1', p2, -, -, -⟩ := W5.out.k2.all
                obtain ⟨u0, u1, u2, -, -, -⟩ := W5.out.k3.all
                cases n1 with
                | false =>
                  have V := Lib.hid (CBX.out OK0.out)
                  clear hn1 hn2
                  go_wp2_with fail
                  rw [V.out]
                  exact bodyPost_ret (v := .bool false) (by simp [results, Try.results88, go_sem]) rfl ⟨rfl, W5.out.f, fun s' h => by cases h⟩
                | true =>
                  have BU1 := Lib.hid (BU.out s2 w5 W5.out SZ.out)
                  rw [hn2] at BU1
                  clear hn1 hn2
                  go_wp2_with fail
                  refine BU1.out.mono ?_
                  rintro e w6 ⟨rfl, hb6⟩
                  have W6 := Lib.hid (W5.out.step hb6)
                  clear hb6 BU1 W5 p0 p1' p2 u0 u1 u2
                  cases n2 with
                  | false =>
                    have V := Lib.hid (CBX.out OK0.out)
                    go_wp2_with fail
                    rw [V.out]
                    exact bodyPost_ret (v := .bool false) (by simp [results, Try.results88, go_sem]) rfl ⟨rfl, W6.out.f, fun s' h => by cases h⟩
                  | true =>
                    obtain ⟨g1, q9, g2⟩ := CSX.out OK0.out
                    have F2 := Lib.hid g1
                    have I2 := Lib.hid g2
                    have V := Lib.hid (COX.out OK0.out)
                    clear g1 g2 CSX COX CBX
                    go_wp2_with fail
                    go_roundw
                    case rel => exact ⟨j + 1, n + 1, s2, q9, by go_num, by go_num, by omega, by omega, F2.out, I2.out, by rw [EM.out]; exact V.out, W6.out⟩
                    case measure => simp [intOf]; omega
      | false =>
        obtain ⟨f, rfl⟩ : ∃ f, gk = f + 1 := ⟨gk - 1, by have := FU.out.1; omega⟩
        obtain ⟨p0, p1', p2, -, -, -⟩ := W4.out.k2.all
        go_wp2_with fail
        clear p0 p1' p2
        go_loopw [8, 9, 10, 11] (fun v8 _ _ _ wq => ∃ n : Nat, v8 = .int .i64 ((t + n : Nat) : Int) ∧ t + n ≤ R ∧ HmW R C ga gu na nu ca cu w (rndF R C p1 j t s1 n) wq) (fun v8 _ _ _ _ => R - (intOf v8).toNat)
        case atStart => exact ⟨0, rfl, by omega, W4.out⟩
        case round =>
          clear W4
          obtain ⟨n, rfl, hn, hW⟩ := hrel
          have WR := Lib.hid hW
          clear hW
          obtain ⟨p0, p1', p2, -, -, -⟩ := WR.out.k2.all
          have SZ := Lib.hid (rndF_siz (p := p1) (j := j) (t := t) FN.out.siz n)
          by_cases hlt : t + n < R
          · have KP := rndF_keep (p := p1) (t := t) FN.out.siz hjC n hn
            have CX := Lib.hid (KP.2 (t + n) hlt (Nat.le_refl _))
            have CY := Lib.hid (KP.1 hpR)
            clear KP
            have ES1 : Hid (t + n = p1 ∨ celS C s1 (t + n) j = 0 → rndF R C p1 j t s1 (n + 1) = rndF R C p1 j t s1 n) := fun h => rnd_skip FN.out.siz hjC hlt h
            have ES2 : Hid (t + n ≠ p1 → celS C s1 (t + n) j ≠ 0 → rndF R C p1 j t s1 (n + 1) = op2 R C 2 (t + n) p1 (-(celS C s1 (t + n) j / celS C s1 p1 j)) (rndF R C p1 j t s1 n)) := fun h1 h2 => rnd_do FN.out.siz hjC hpR hlt h1 h2
            have NX := FN.out.num (t + n) j
            have NY := FN.out.num p1 j
            have CXC : Hid (∀ w', HmW R C ga gu na nu ca cu w (rndF R C p1 j t s1 n) w' → Calls Try.prog 63 #[.agg #[.int .i64 R, .int .i64 C, .slice (some ⟨ga, 0, none⟩) na ca], .int .i64 ((t + n : Nat) : Int), .int .i64 j] w' (Gives (.int .i64 (celS C s1 (t + n) j)) w')) := fun w' h => by rw [← CX.out]; exact CE.out _ w' (t + n) j h SZ.out hlt hjC
            have CYC : Hid (∀ w', HmW R C ga gu na nu ca cu w (rndF R C p1 j t s1 n) w' → Calls Try.prog 63 #[.agg #[.int .i64 R, .int .i64 C, .slice (some ⟨ga, 0, none⟩) na ca], .int .i64 p1, .int .i64 j] w' (Gives (.int .i64 (celS C s1 p1 j)) w')) := fun w' h => by rw [← CY.out]; exact CE.out _ w' p1 j h SZ.out hpR hjC
            have OPN : Hid (t + n ≠ p1 → ∀ (z : Int) w', HmW R C ga gu na nu ca cu w (rndF R C p1 j t s1 n) w' → Calls Try.prog 108 #[.agg #[.int .i64 R, .int .i64 C, .slice (some ⟨ga, 0, none⟩) na ca], .agg #[.int .i64 R, .int .i64 R, .slice (some ⟨gu, 0, none⟩) nu cu], .agg #[.int .i64 2, .int .i64 ((t + n : Nat) : Int), .int .i64 p1, .int .i64 z]] w' (fun e w2 => Void e ∧ HmW R C ga gu na nu ca cu w (op2 R C 2 (t + n) p1 z (rndF R C p1 j t s1 n)) w2)) := fun _ z w' h => OP.out _ w' 2 z (t + n) p1 h SZ.out hlt hpR (.inr (.inr rfl)) (fun h => by cases h)
            have yz := PZ.out
            obtain ⟨x, hx⟩ : ∃ x, celS C s1 (t + n) j = x := ⟨_, rfl⟩
            obtain ⟨y, hy⟩ : ∃ y, celS C s1 p1 j = y := ⟨_, rfl⟩
            obtain ⟨T, hT⟩ : ∃ T, t + n = T := ⟨_, rfl⟩
            rw [hx] at ES1 ES2 NX CXC
            rw [hy] at ES2 NY CYC yz
            rw [hT] at ES1 ES2 CXC OPN hlt ⊢
            have ET := Lib.hid hT
            clear hx hy hT CX CY
            by_cases hip : T = p1
            · have n1 : ((T : Int) != (p1 : Int)) = false := by simp [hip]
              have ES := Lib.hid (ES1.out (.inl hip))
              clear hip
              go_wp2_with fail
              go_roundw
              case rel => exact ⟨n + 1, by rw [← Nat.add_assoc, ET.out]; go_num, by have := ET.out; omega, by rw [ES.out]; exact WR.out⟩
              case measure => simp [intOf]; omega
            have n1 : ((T : Int) != (p1 : Int)) = true := by simp; omega
            have OPN := OPN.out hip
            have CX1 := Lib.hid (CXC.out _ WR.out)
            go_wp2_with fail
            refine CX1.out.mono ?_
            rintro e w5 ⟨rfl, hb5⟩
            have W5 := Lib.hid (WR.out.step hb5)
            clear hb5 CX1 WR p0 p1' p2
            obtain ⟨p0, p1', p2, -, -, -⟩ := W5.out.k2.all
            by_cases hx0 : x = 0
            · have n2 : (x != 0) = false := by simp [hx0]
              have ES := Lib.hid (ES1.out (.inr hx0))
              clear hx0 OPN
              go_wp2_with fail
              go_roundw
              case rel => exact ⟨n + 1, by rw [← Nat.add_assoc, ET.out]; go_num, by have := ET.out; omega, by rw [ES.out]; exact W5.out⟩
              case measure => simp [intOf]; omega
            have n2 : (x != 0) = true := by simpa using hx0
            have ES := Lib.hid (ES2.out hip hx0)
            have OPH := Lib.hid OPN
            have NQ := quot_num (x := x) (y := y) NX yz
            have DW : Hid (∀ w', Calls Try.prog 139 #[.int .i64 x, .int .i64 y] w' (Gives (.tuple #[.int .i64 (x / y), .int .i64 (x % y), .bool true]) w')) := fun w' => DV.out x y w' NX NY yz
            have C1 : Hid (∀ w', Below w5.heap.size w5 w' → Calls Try.prog 63 #[.agg #[.int .i64 R, .int .i64 C, .slice (some ⟨ga, 0, none⟩) na ca], .int .i64 (T : Int), .int .i64 j] w' (Gives (.int .i64 x) w')) := fun w' h => CXC.out w' (W5.out.step h)
            have C2 : Hid (∀ w', Below w5.heap.size w5 w' → Calls Try.prog 63 #[.agg #[.int .i64 R, .int .i64 C, .slice (some ⟨ga, 0, none⟩) na ca], .int .i64 p1, .int .i64 j] w' (Gives (.int .i64 y) w')) := fun w' h => CYC.out w' (W5.out.step h)
            generalize x % y = rm at DW
            obtain ⟨qq, hqq⟩ : ∃ qq, x / y = qq := ⟨_, rfl⟩
            rw [hqq] at ES NQ DW
            obtain ⟨q1, q2⟩ := NQ
            obtain ⟨z, hz⟩ : ∃ z, -qq = z := ⟨_, rfl⟩
            have v1 : IntKind.i64.wrap (-qq) = z := by rw [hz]; exact IntWalk.i64_in _ (by omega)
            rw [hz] at ES
            clear hx0 OPN hqq hz NX NY yz ES1 ES2 CXC CYC hip p0 p1' p2 q1 q2
            go_wp2_with fail
            refine wp_region_T (S := fun w' => Below w5.heap.size w5 w') (T := fun _ => false) (by kernel_rfl) (Below.refl _ _).drew (fun hH => ?_)
            refine wpAnyT_take (i := 0) (v := ?_) (by simp only [List.getElem?_toArray, List.getElem?_cons_zero]; rfl) (by kernel_rfl) (by kernel_rfl) (by kernel_rfl) (by kernel_rfl) (fun _ hj => by cases hj) (by exact fun _ _ _ h => h) (Or.inl ⟨by rfl, ?_⟩) hH ?_
            rotate_left
            · (intro wS hS; (try dsimp only at hS); obtain ⟨k1, k2, k3⟩ := W5.out.box hS; go_simp; try rfl)
            try simp only [Act.put, List.setIfInBounds_toArray, List.set_cons_zero, List.set_cons_succ]
            refine wpAnyT_take (i := 1) (v := ?_) (by simp only [List.getElem?_toArray, List.getElem?_cons_succ, List.getElem?_cons_zero]; rfl) (by kernel_rfl) (by kernel_rfl) (by kernel_rfl) (by kernel_rfl) (fun _ hj => by cases hj) (by exact fun _ _ _ h => h) (Or.inl ⟨by rfl, ?_⟩) hH ?_
            rotate_left
            · (intro wS hS; clear hS; go_simp; try rfl)
            try simp only [Act.put, List.setIfInBounds_toArray, List.set_cons_zero, List.set_cons_succ]
            refine wpAnyT_take (i := 2) (v := ?_) (by simp only [List.getElem?_toArray, List.getElem?_cons_succ, List.getElem?_cons_zero]; rfl) (by kernel_rfl) (by kernel_rfl) (by kernel_rfl) (by kernel_rfl) (fun _ hj => by cases hj) (by exact fun _ _ _ h => h) (Or.inl ⟨by rfl, ?_⟩) hH ?_
            rotate_left
            · (intro wS hS; clear hS; go_simp; try rfl)
            try simp only [Act.put, List.setIfInBounds_toArray, List.set_cons_zero, List.set_cons_succ]
            refine wpAnyT_take (i := 4) (v := ?_) (by simp only [List.getElem?_toArray, List.getElem?_cons_succ, List.getElem?_cons_zero]; rfl) (by kernel_rfl) (by kernel_rfl) (by kernel_rfl) (by kernel_rfl) (fun _ hj => by cases hj) (by exact fun _ _ _ h => h) (Or.inl ⟨by rfl, ?_⟩) hH ?_
            rotate_left
            · (intro wS hS; (try dsimp only at hS); obtain ⟨k1, k2, k3⟩ := W5.out.box hS; go_simp; try rfl)
            try simp only [Act.put, List.setIfInBounds_toArray, List.set_cons_zero, List.set_cons_succ]
            refine wpAnyT_take (i := 5) (v := ?_) (by simp only [List.getElem?_toArray, List.getElem?_cons_succ, List.getElem?_cons_zero]; rfl) (by kernel_rfl) (by kernel_rfl) (by kernel_rfl) (by kernel_rfl) (fun _ hj => by cases hj) (by exact fun _ _ _ h => h) (Or.inl ⟨by rfl, ?_⟩) hH ?_
            rotate_left
            · (intro wS hS; clear hS; go_simp; try rfl)
            try simp only [Act.put, List.setIfInBounds_toArray, List.set_cons_zero, List.set_cons_succ]
            refine wpAnyT_take (i := 6) (v := ?_) (by simp only [List.getElem?_toArray, List.getElem?_cons_succ, List.getElem?_cons_zero]; rfl) (by kernel_rfl) (by kernel_rfl) (by kernel_rfl) (by kernel_rfl) (fun _ hj => by cases hj) (by exact fun _ _ _ h => h) (Or.inl ⟨by rfl, ?_⟩) hH ?_
            rotate_left
            · (intro wS hS; clear hS; go_simp; try rfl)
            try simp only [Act.put, List.setIfInBounds_toArray, List.set_cons_zero, List.set_cons_succ]
            refine wpAnyT_ready (rs := [3]) (by kernel_rfl) (by simp) ?_
            refine AllReadyT.cons (by simp only [List.getElem?_toArray, List.getElem?_cons_succ, List.getElem?_cons_zero]; rfl) (fun K hK => ?_) AllReadyT.nil
            go_simp
            (with_reducible refine (C1.out _ hH).mono ?_)
            rintro e v1 ⟨rfl, hb1⟩
            try dsimp only
            refine hK.out _ _ (fun _ => hH.trans (hb1.mono hH.size)) ?_
            clear hK K
            have hH := hH.trans (hb1.mono hH.size)
            clear hb1
            try simp only [Act.put, List.setIfInBounds_toArray, List.set_cons_zero, List.set_cons_succ]
            refine wpAnyT_ready (rs := [7]) (by kernel_rfl) (by simp) ?_
            refine AllReadyT.cons (by simp only [List.getElem?_toArray, List.getElem?_cons_succ, List.getElem?_cons_zero]; rfl) (fun K hK => ?_) AllReadyT.nil
            go_simp
            (with_reducible refine (C2.out _ hH).mono ?_)
            rintro e v2 ⟨rfl, hb2⟩
            try dsimp only
            refine hK.out _ _ (fun _ => hH.trans (hb2.mono hH.size)) ?_
            clear hK K
            have hH := hH.trans (hb2.mono hH.size)
            clear hb2
            try simp only [Act.put, List.setIfInBounds_toArray, List.set_cons_zero, List.set_cons_succ]
            refine wpAnyT_ready (rs := [8]) (by kernel_rfl) (by simp) ?_
            refine AllReadyT.cons (by simp only [List.getElem?_toArray, List.getElem?_cons_succ, List.getElem?_cons_zero]; rfl) (fun K hK => ?_) AllReadyT.nil
            go_simp
            (with_reducible refine (DW.out _).mono ?_)
            rintro e v3 ⟨rfl, hb3⟩
            try dsimp only
            refine hK.out _ _ (fun _ => hH.trans (hb3.mono hH.size)) ?_
            clear hK K
            have hH := hH.trans (hb3.mono hH.size)
            clear hb3
            try simp only [Act.put, List.setIfInBounds_toArray, List.set_cons_zero, List.set_cons_succ]
            refine wpAnyT_take (i := 9) (v := ?_) (by simp only [List.getElem?_toArray, List.getElem?_cons_succ, List.getElem?_cons_zero]; rfl) (by kernel_rfl) (by kernel_rfl) (by kernel_rfl) (by kernel_rfl) (fun _ hj => by cases hj) (by exact fun _ _ _ h => h) (Or.inl ⟨by rfl, ?_⟩) hH ?_
            rotate_left
            · (intro wS hS; clear hS; go_simp; try rfl)
            try simp only [Act.put, List.setIfInBounds_toArray, List.set_cons_zero, List.set_cons_succ]
            refine wpAnyT_take (i := 10) (v := ?_) (by simp only [List.getElem?_toArray, List.getElem?_cons_succ, List.getElem?_cons_zero]; rfl) (by kernel_rfl) (by kernel_rfl) (by kernel_rfl) (by kernel_rfl) (fun _ hj => by cases hj) (by exact fun _ _ _ h => h) (Or.inl ⟨by rfl, ?_⟩) hH ?_
            rotate_left
            · (intro wS hS; clear hS; go_simp; try rfl)
            try simp only [Act.put, List.setIfInBounds_toArray, List.set_cons_zero, List.set_cons_succ]
            refine wpAnyT_take (i := 11) (v := ?_) (by simp only [List.getElem?_toArray, List.getElem?_cons_succ, List.getElem?_cons_zero]; rfl) (by kernel_rfl) (by kernel_rfl) (by kernel_rfl) (by kernel_rfl) (fun _ hj => by cases hj) (by exact fun _ _ _ h => h) (Or.inl ⟨by rfl, ?_⟩) hH ?_
            rotate_left
            · (intro wS hS; clear hS; go_simp; try rfl)
            try simp only [Act.put, List.setIfInBounds_toArray, List.set_cons_zero, List.set_cons_succ]
            refine wpAnyT_take (i := 12) (v := ?_) (by simp only [List.getElem?_toArray, List.getElem?_cons_succ, List.getElem?_cons_zero]; rfl) (by kernel_rfl) (by kernel_rfl) (by kernel_rfl) (by kernel_rfl) (fun _ hj => by cases hj) (by exact fun _ _ _ h => h) (Or.inl ⟨by rfl, ?_⟩) hH ?_
            rotate_left
            · (intro wS hS; clear hS; go_simp; try rfl)
            try simp only [Act.put, List.setIfInBounds_toArray, List.set_cons_zero, List.set_cons_succ]
            refine wpAnyT_take (i := 13) (v := ?_) (by simp only [List.getElem?_toArray, List.getElem?_cons_succ, List.getElem?_cons_zero]; rfl) (by kernel_rfl) (by kernel_rfl) (by kernel_rfl) (by kernel_rfl) (fun _ hj => by cases hj) (by exact fun _ _ _ h => h) (Or.inl ⟨by rfl, ?_⟩) hH ?_
            rotate_left
            · (intro wS hS; clear hS; go_simp; try rfl)
            try simp only [Act.put, List.setIfInBounds_toArray, List.set_cons_zero, List.set_cons_succ]
            refine wpAnyT_take (i := 14) (v := ?_) (by simp only [List.getElem?_toArray, List.getElem?_cons_succ, List.getElem?_cons_zero]; rfl) (by kernel_rfl) (by kernel_rfl) (by kernel_rfl) (by kernel_rfl) (fun _ hj => by cases hj) (by exact fun _ _ _ h => h) (Or.inl ⟨by rfl, ?_⟩) hH ?_
            rotate_left
            · (intro wS hS; clear hS; go_simp; try rfl)
            try simp only [Act.put, List.setIfInBounds_toArray, List.set_cons_zero, List.set_cons_succ]
            refine wpAnyT_take (i := 15) (v := ?_) (by simp only [List.getElem?_toArray, List.getElem?_cons_succ, List.getElem?_cons_zero]; rfl) (by kernel_rfl) (by kernel_rfl) (by kernel_rfl) (by kernel_rfl) (fun _ hj => by cases hj) (by exact fun _ _ _ h => h) (Or.inl ⟨by rfl, ?_⟩) hH ?_
            rotate_left
            · (intro wS hS; clear hS; go_simp; try rfl)
            try simp only [Act.put, List.setIfInBounds_toArray, List.set_cons_zero, List.set_cons_succ]
            refine wpAnyT_done (by kernel_rfl) ?_ _
            have W6 := Lib.hid (W5.out.step hH)
            obtain ⟨p0, p1', p2, -, -, -⟩ := W6.out.k2.all
            obtain ⟨u0, u1, u2, -, -, -⟩ := W6.out.k3.all
            go_wp2_with fail
            refine (OPH.out z _ W6.out).mono ?_
            rintro e w7 ⟨rfl, h7⟩
            have W7 := Lib.hid h7
            clear h7 W5 W6 p0 p1' p2 u0 u1 u2 hH
            go_wp2_with fail
            go_roundw
            case rel => exact ⟨n + 1, by rw [← Nat.add_assoc, ET.out]; go_num, by have := ET.out; omega, by rw [ES.out]; exact W7.out⟩
            case measure => simp [intOf]; omega
          · have hnR : n = R - t := by omega
            have SZA : Hid (Siz R C (rndA R C p1 j t s1)) := by refine Lib.hid ?_; unfold rndA; rw [← hnR]; exact SZ.out
            have WA : Hid (HmW R C ga gu na nu ca cu w (rndA R C p1 j t s1) wr) := by refine Lib.hid ?_; unfold rndA; rw [← hnR]; exact WR.out
            have BAD : Hid (okS (rndA R C p1 j t s1) = false → X = none) := fun ho => CN.out (by rw [← EL.out]; exact loopF_bad HAL.out ho)
            have NXT : Hid (okS (rndA R C p1 j t s1) = true → Fin2 R C M (rndA R C p1 j t s1) ∧ HInv R C (mxC C (rndA R C p1 j t s1).1) q t j ∧ ∃ p', LeastP R C j t (rndA R C p1 j t s1) p' ∧ Fuel R C j t f (rndA R C p1 j t s1) p') := fun ho => loop_next FN.out IN.out hjC hpR htp PZ.out HAL.out FU.out ho
            have STP : Hid (∀ p' : Nat, okS (rndA R C p1 j t s1) = true → leastS R C j t (rndA R C p1 j t s1) = (p' : Int) → loopF R C j t f (rndA R C p1 j t s1) p' = LF) := fun p' ho h => by rw [← EL.out]; exact (loopF_step HAL.out ho h).symm
            clear WR SZ hnR EL FU HAL FN IN PZ
            generalize rndA R C p1 j t s1 = s2 at SZA WA BAD NXT STP
            have BA1 := Lib.hid (BA.out s2 wr WA.out SZA.out)
            have OK0 : Hid (okS s2 = (nums s2.1 && nums s2.2)) := rfl
            obtain ⟨n1, hn1⟩ : ∃ b, nums s2.1 = b := ⟨_, rfl⟩
            obtain ⟨n2, hn2⟩ : ∃ b, nums s2.2 = b := ⟨_, rfl⟩
            rw [hn1] at BA1
            rw [hn1, hn2] at OK0
            go_wp2_with fail
            refine BA1.out.mono ?_
            rintro e w5 ⟨rfl, hb5⟩
            have W5 := Lib.hid (WA.out.step hb5)
            clear hb5 BA1 WA p0 p1' p2
            obtain ⟨p0, p1', p2, -, -, -⟩ := W5.out.k2.all
            obtain ⟨u0, u1, u2, -, -, -⟩ := W5.out.k3.all
            cases n1 with
            | false =>
              have V := Lib.hid (BAD.out OK0.out)
              clear hn1 hn2
              go_wp2_with fail
              rw [V.out]
              exact bodyPost_ret (v := .bool false) (by simp [results, Try.results88, go_sem]) rfl ⟨rfl, W5.out.f, fun s' h => by cases h⟩
            | true =>
              have BU1 := Lib.hid (BU.out s2 w5 W5.out SZA.out)
              rw [hn2] at BU1
              clear hn1 hn2
              go_wp2_with fail
              refine BU1.out.mono ?_
              rintro e w6 ⟨rfl, hb6⟩
              have W6 := Lib.hid (W5.out.step hb6)
              clear hb6 BU1 W5 p0 p1' p2 u0 u1 u2
              obtain ⟨p0, p1', p2, -, -, -⟩ := W6.out.k2.all
              cases n2 with
              | false =>
                have V := Lib.hid (BAD.out OK0.out)
                go_wp2_with fail
                rw [V.out]
                exact bodyPost_ret (v := .bool false) (by simp [results, Try.results88, go_sem]) rfl ⟨rfl, W6.out.f, fun s' h => by cases h⟩
              | true =>
                obtain ⟨g1, g2, p9, g3, g4⟩ := NXT.out OK0.out
                have F2 := Lib.hid g1
                have I2 := Lib.hid g2
                have L2 := Lib.hid g3
                have U2 := Lib.hid g4
                have S2 := Lib.hid (STP.out p9 OK0.out g3.1)
                have LE2 := Lib.hid (LE.out s2 w6 t j W6.out SZA.out OK0.out ht hjC)
                rw [g3.1] at LE2
                clear g1 g2 g3 g4 NXT STP BAD
                go_wp2_with fail
                refine LE2.out.mono ?_
                rintro e w7 ⟨rfl, hb7⟩
                have W7 := Lib.hid (W6.out.step hb7)
                clear hb7 LE2 W6 p0 p1' p2
                go_wp2_with fail
                go_roundg f
                case measure => omega
                case rel => exact ⟨s2, p9, rfl, U2.out, S2.out, F2.out, I2.out, L2.out.2.1, L2.out.2.2.1, L2.out.2.2.2.1, W7.out⟩
end Go.Proofs.Ytpelnfenfeoeeaa
end

section
/-
  The drawing of inputs (chapter 1 of the model): the cursor over a code's bytes, and what each drawing function returns: a number in its range, with nothing written but the cursor.
-/
namespace Go.Proofs.Ytpelnfenfeoeeaa
open Go.RowKit

/-- The bytes that a slice shows: each in its range, each block older than block cb. -/
def Bytes (w : World) (cb : Nat) (a : Option Addr) (len : Nat) : Prop :=
  ∀ k : Nat, k < len → ∃ (b o : Nat) (z : Int), a = some ⟨b, o, none⟩ ∧ w.cell? ⟨b, o + k, none⟩ = some (.int .u8 z) ∧ 0 ≤ z ∧ z ≤ 255 ∧ b < cb
/-- Block cb is a cursor. -/
def Cur (w : World) (cb : Nat) : Prop :=
  ∃ (a : Option Addr) (len cap i : Nat) (h : Int), Blk3 w cb 123 (.slice a len cap) (.int .i64 i) (.int .i64 h) ∧ i ≤ len ∧ len ≤ maxLen ∧ Bytes w cb a len

/-- An int with the property P is returned, and of all that was there only the cursor has changed. -/
def CurInt (P : Int → Prop) (cb : Nat) (w : World) (e : Ending) (w' : World) : Prop := ∃ r : Int, P r ∧ e = .returned (.int .i64 r) ∧ Cur w' cb ∧ w.grownBy w' (some cb)

theorem Bytes.one {w w' : World} {cb : Nat} {a : Option Addr} {len : Nat} (h : Bytes w cb a len) (hg : w.grownBy w' (some cb)) : Bytes w' cb a len := fun k hk => by
  obtain ⟨b, o, z, ha, hx, h0, h1, hne⟩ := h k hk
  exact ⟨b, o, z, ha, hg.cell hx (by simp; omega), h0, h1, hne⟩
theorem and255 (x : Int) : 0 ≤ bits .and .i64 x 255 ∧ bits .and .i64 x 255 ≤ 255 := by
  have h : (BitVec.ofInt 64 x &&& BitVec.ofInt 64 255).toNat ≤ 255 := by rw [BitVec.toNat_and]; exact Nat.le_trans Nat.and_le_right (by decide)
  show 0 ≤ IntKind.i64.wrap ((BitVec.ofInt 64 x &&& BitVec.ofInt 64 255).toNat : Int) ∧ IntKind.i64.wrap ((BitVec.ofInt 64 x &&& BitVec.ofInt 64 255).toNat : Int) ≤ 255
  rw [IntKind.wrap_i64]
  omega
theorem curInt_end {P : Int → Prop} {w W : World} {cb len cap i : Nat} {a : Option Addr} {h r : Int} (hr : P r) (hb : Blk3 W cb 123 (.slice a len cap) (.int .i64 i) (.int .i64 h))
    (hi : i ≤ len) (hl : len ≤ maxLen) (hby : Bytes w cb a len) (hg : w.grownBy W (some cb)) : CurInt P cb w (.returned (.int .i64 r)) W :=
  ⟨r, hr, rfl, ⟨a, len, cap, i, h, hb, hi, hl, hby.one hg⟩, hg⟩

set_option maxHeartbeats 400000 in
theorem l1Byte (w : World) (cb : Nat) (hc : Cur w cb) :
    Calls Try.prog 157 #[.pointer (some ⟨cb, 0, none⟩)] w (CurInt (fun r => 0 ≤ r ∧ r ≤ 255) cb w) := by
  obtain ⟨a, len, cap, i, h, hb, hi, hl, hby⟩ := hc
  obtain ⟨c0, c1, c2, f0, f1, f2⟩ := hb.all
  have HB := Lib.hid hb
  have HL := Lib.hid hl
  have HY := Lib.hid hby
  unfold maxLen at hl
  by_cases hlt : i < len
  · obtain ⟨xb, xo, z, rfl, hx, hz0, hz1, hne⟩ := hby i hlt
    have hne' : cb ≠ xb := by omega
    clear hb hby
    go_enter Try.func157, Try.ntmps157
    go_wp2_with (fail)
    generalize wrap64 (wrap64 (h * 6364136223846793005) + 1442695040888963407) = h'
    go_quiet (fail)
    go_wp2_with (fail)
    go_quiet (fail)
    go_wp2_with (fail)
    go_quiet (fail)
    go_wp2_with (fail)
    go_ret
    refine curInt_end (cap := cap) (i := i + 1) (h := h') (and255 _) ?_ (by omega) HL.out HY.out ?_
    · exact (((HB.out.set2 _).drewN _).set1 _)
    · repeat (first | exact World.grownBy.refl _ _ | refine grown_set_one ?_ (by exact rfl) _ | refine grown_drewN_one ?_ _)
  · clear hb hby
    have hlt' : decide (i < len) = false := by simpa using hlt
    go_enter Try.func157, Try.ntmps157
    go_wp2_with (fail)
    generalize wrap64 (wrap64 (h * 6364136223846793005) + 1442695040888963407) = h'
    go_quiet (fail)
    go_wp2_with (fail)
    go_quiet (fail)
    go_wp2_with (fail)
    go_ret
    refine curInt_end (cap := cap) (i := i) (h := h') (and255 _) ?_ (by omega) HL.out HY.out ?_
    · first | exact HB.out.set2 _ | exact (HB.out.set2 _).drewN _
    · repeat (first | exact World.grownBy.refl _ _ | refine grown_set_one ?_ (by exact rfl) _ | refine grown_drewN_one ?_ _)

/-- A bool is returned, and of all that was there only the cursor has changed. -/
def CurBool (cb : Nat) (w : World) (e : Ending) (w' : World) : Prop := ∃ r : Bool, e = .returned (.bool r) ∧ Cur w' cb ∧ w.grownBy w' (some cb)
theorem CurInt.mono {P Q : Int → Prop} {cb : Nat} {w w' : World} {e : Ending} (h : CurInt P cb w e w') (k : ∀ r, P r → Q r) : CurInt Q cb w e w' := by
  obtain ⟨r, hr, he, hc, hg⟩ := h
  exact ⟨r, k r hr, he, hc, hg⟩
theorem mod_range (x n : Int) (hn : 0 < n) : 0 ≤ x % n ∧ x % n < n := ⟨Int.emod_nonneg x (by omega), Int.emod_lt_of_pos x hn⟩

set_option maxHeartbeats 400000 in
theorem l1Below_small (w : World) (cb : Nat) (n : Int) (hc : Cur w cb) (h1 : 0 < n) (h2 : n ≤ 256) :
    Calls Try.prog 129 #[.pointer (some ⟨cb, 0, none⟩), .int .i64 n] w (CurInt (fun r => 0 ≤ r ∧ r < n) cb w) := by
  have HC := Lib.hid hc
  clear hc
  have hn : (n == 0) = false := by simp; omega
  go_enter Try.func129, Try.ntmps129
  go_wp2_with (fail)
  refine (l1Byte w cb HC.out).mono ?_
  rintro e w1 ⟨r, ⟨r0, r1⟩, rfl, hc1, hg1⟩
  have C1 := Lib.hid hc1
  have G1 := Lib.hid hg1
  clear hc1 hg1
  go_wp2_with (fail)
  go_ret
  exact ⟨r % n, mod_range r n h1, rfl, C1.out, G1.out⟩

set_option maxHeartbeats 400000 in
theorem l1Below_large (w : World) (cb : Nat) (n : Int) (hc : Cur w cb) (h2 : 256 < n) :
    Calls Try.prog 129 #[.pointer (some ⟨cb, 0, none⟩), .int .i64 n] w (CurInt (fun r => 0 ≤ r ∧ r < n) cb w) := by
  have HC := Lib.hid hc
  clear hc
  have hn : (n == 0) = false := by simp; omega
  go_enter Try.func129, Try.ntmps129
  go_wp2_with (fail)
  refine (l1Byte w cb HC.out).mono ?_
  rintro e w1 ⟨r, ⟨r0, r1⟩, rfl, hc1, hg1⟩
  have C1 := Lib.hid hc1
  have G1 := Lib.hid hg1
  clear hc1 hg1
  go_wp2_with (fail)
  refine (l1Byte w1 cb C1.out).mono ?_
  rintro e w2 ⟨s, ⟨s0, s1⟩, rfl, hc2, hg2⟩
  have C2 := Lib.hid hc2
  have G2 := Lib.hid (G1.out.trans hg2)
  clear hc2 hg2
  go_wp2_with (fail)
  refine (l1Byte w2 cb C2.out).mono ?_
  rintro e w3 ⟨t, ⟨t0, t1⟩, rfl, hc3, hg3⟩
  have C3 := Lib.hid hc3
  have G3 := Lib.hid (G2.out.trans hg3)
  clear hc3 hg3
  go_wp2_with (fail)
  refine (l1Byte w3 cb C3.out).mono ?_
  rintro e w4 ⟨u, ⟨u0, u1⟩, rfl, hc4, hg4⟩
  have C4 := Lib.hid hc4
  have G4 := Lib.hid (G3.out.trans hg4)
  clear hc4 hg4
  go_wp2_with (fail)
  go_ret
  exact ⟨_, mod_range (r * 16777216 + s * 65536 + t * 256 + u) n (by omega), rfl, C4.out, G4.out⟩

theorem l1Below (w : World) (cb : Nat) (n : Int) (hc : Cur w cb) (h1 : 0 < n) :
    Calls Try.prog 129 #[.pointer (some ⟨cb, 0, none⟩), .int .i64 n] w (CurInt (fun r => 0 ≤ r ∧ r < n) cb w) := by
  rcases Int.lt_or_le 256 n with h | h
  · exact l1Below_large w cb n hc h
  · exact l1Below_small w cb n hc h1 h

set_option maxHeartbeats 400000 in
theorem l1Once (w : World) (cb : Nat) (n : Int) (hc : Cur w cb) (h1 : 0 < n) :
    Calls Try.prog 131 #[.pointer (some ⟨cb, 0, none⟩), .int .i64 n] w (CurBool cb w) := by
  have HC := Lib.hid hc
  clear hc
  go_enter Try.func131, Try.ntmps131
  go_wp2_with (fail)
  refine (l1Below w cb n HC.out h1).mono ?_
  rintro e w1 ⟨r, ⟨r0, r1⟩, rfl, hc1, hg1⟩
  have C1 := Lib.hid hc1
  have G1 := Lib.hid hg1
  clear hc1 hg1
  go_wp2_with (fail)
  go_ret
  exact ⟨r == 0, rfl, C1.out, G1.out⟩

/-- A list of ints lies in block lb, each with the property P. -/
def IntList (P : Int → Prop) (w : World) (lb n : Nat) : Prop := ∀ k : Nat, k < n → ∃ z : Int, w.cell? ⟨lb, k, none⟩ = some (.int .i64 z) ∧ P z
theorem IntList.one {P : Int → Prop} {w w' : World} {lb n cb : Nat} (h : IntList P w lb n) (hg : w.grownBy w' (some cb)) (hne : lb ≠ cb) : IntList P w' lb n := fun k hk => by
  obtain ⟨z, hz, hp⟩ := h k hk
  exact ⟨z, hg.cell hz (by simpa using hne), hp⟩

set_option maxHeartbeats 400000 in
theorem l1PickInt (P : Int → Prop) (w : World) (cb lb n : Nat) (hc : Cur w cb) (hl : IntList P w lb n) (h1 : 0 < n) (h2 : n ≤ 1000000) (hne : lb ≠ cb) :
    Calls Try.prog 130 #[.pointer (some ⟨cb, 0, none⟩), .slice (some ⟨lb, 0, none⟩) n n] w (CurInt P cb w) := by
  have HC := Lib.hid hc
  have HL := Lib.hid hl
  clear hc hl
  go_enter Try.func130, Try.ntmps130
  go_wp2_with (fail)
  refine (l1Below w cb n HC.out (by omega)).mono ?_
  rintro e w1 ⟨r, ⟨r0, r1⟩, rfl, hc1, hg1⟩
  obtain ⟨k, rfl⟩ := Int.eq_ofNat_of_zero_le r0
  obtain ⟨z, hz, hp⟩ := (HL.out.one hg1 hne) k (by omega)
  have C1 := Lib.hid hc1
  have G1 := Lib.hid hg1
  have HP := Lib.hid hp
  have hk : k < n := by omega
  clear hc1 hg1 hp
  go_wp2_with (fail)
  go_ret
  exact ⟨z, HP.out, rfl, C1.out, G1.out⟩

theorem IntList.new {P : Int → Prop} (zs : List Int) (hz : ∀ z, z ∈ zs → P z) (w : World) (t : TypeId) : IntList P (w.alloc (.cells (zs.map (Value.int .i64)).toArray t)) w.heap.size zs.length := fun k hk => by
  refine ⟨zs[k], ?_, hz _ (List.getElem_mem hk)⟩
  have e : (w.alloc (.cells (zs.map (Value.int .i64)).toArray t)).heap[w.heap.size]? = some (.cells (zs.map (Value.int .i64)).toArray t) := heap_alloc_new w _
  unfold World.cell?
  rw [e]
  simp [hk]
theorem Cur.lt {w : World} {cb : Nat} (h : Cur w cb) : cb < w.heap.size := by
  obtain ⟨a, len, cap, i, h, hb, _⟩ := h
  exact hb.lt
theorem Cur.grown {w w' : World} {cb : Nat} {row : Option Nat} (hc : Cur w cb) (hg : w.grownBy w' row) (hr : ∀ j, row = some j → w.heap.size ≤ j) : Cur w' cb := by
  obtain ⟨a, len, cap, i, h, hb, hi, hl, hby⟩ := hc
  refine ⟨a, len, cap, i, h, (hg.block cb hb.lt (fun e => by have := hr cb e.symm; have := hb.lt; omega)).trans hb, hi, hl, fun k hk => ?_⟩
  obtain ⟨b, o, z, ha, hx, h0, h1, hne⟩ := hby k hk
  exact ⟨b, o, z, ha, hg.cell hx (fun e => by have := hr b e.symm; have := World.block_lt_of_cell? w _ hx; simp at this; omega), h0, h1, hne⟩
theorem Cur.setFar {w : World} {cb : Nat} (hc : Cur w cb) {x : Addr} (hx : cb < x.block) (u : Value) : Cur (w.setCell x u) cb := by
  obtain ⟨a, len, cap, i, h, hb, hi, hl, hby⟩ := hc
  refine ⟨a, len, cap, i, h, hb.far (by omega) u, hi, hl, fun k hk => ?_⟩
  obtain ⟨b, o, z, ha, hcell, h0, h1, hne⟩ := hby k hk
  exact ⟨b, o, z, ha, (((Below.refl x.block w).setCell (Nat.le_refl _) u).cell (p := ⟨b, o + k, none⟩) (by show b < x.block; omega)).trans hcell, h0, h1, hne⟩
theorem Cur.alloc {w : World} {cb : Nat} (hc : Cur w cb) (o : Obj) : Cur (w.alloc o) cb := hc.grown (World.grownBy_alloc w o none) (by simp)

set_option maxHeartbeats 400000 in
theorem l1Odd (w : World) (cb : Nat) (hc : Cur w cb) :
    Calls Try.prog 158 #[.pointer (some ⟨cb, 0, none⟩)] w (CurInt (fun r => -9223372036854775808 ≤ r ∧ r ≤ 9223372036854775807) cb w) := by
  have HC := Lib.hid hc
  have hlt := hc.lt
  clear hc
  go_enter Try.func158, Try.ntmps158
  go_wp2_with (fail)
  refine (l1PickInt (fun r => -9223372036854775808 ≤ r ∧ r ≤ 9223372036854775807) _ cb w.heap.size 11 (HC.out.alloc _) ?_ (by omega) (by omega) (by omega)).mono ?_
  · exact IntList.new [0, 1, -1, 2, 400000000, -400000000, 400000001, -400000001, 399999999, 9223372036854775807, -9223372036854775808] (by decide) w 3
  rintro e w1 ⟨r, hr, rfl, hc1, hg1⟩
  have C1 := Lib.hid hc1
  have G1 := Lib.hid hg1
  have R := Lib.hid hr
  clear hc1 hg1 hr
  go_wp2_with (fail)
  go_ret
  exact ⟨r, R.out, rfl, C1.out, (World.grownBy_alloc w _ _).trans G1.out⟩

/-- The bytes of a code that came in. -/
def CodeIn (w : World) (a : Option Addr) (len : Nat) : Prop :=
  len ≤ maxLen ∧ ∀ k : Nat, k < len → ∃ (b o : Nat) (z : Int), a = some ⟨b, o, none⟩ ∧ w.cell? ⟨b, o + k, none⟩ = some (.int .u8 z) ∧ 0 ≤ z ∧ z ≤ 255
theorem CodeIn.below {w w' : World} {a : Option Addr} {len : Nat} (h : CodeIn w a len) (hb : Below w.heap.size w w') : CodeIn w' a len :=
  ⟨h.1, fun k hk => by
    obtain ⟨b, o, z, ha, hx, h0, h1⟩ := h.2 k hk
    exact ⟨b, o, z, ha, (hb.cell (World.block_lt_of_cell? w _ hx)).trans hx, h0, h1⟩⟩
/-- A new cursor is returned; of what was there nothing has changed. -/
def CurNew (w : World) (e : Ending) (w' : World) : Prop := ∃ cb : Nat, e = .returned (.pointer (some ⟨cb, 0, none⟩)) ∧ w.heap.size ≤ cb ∧ Cur w' cb ∧ Below w.heap.size w w'

set_option maxHeartbeats 400000 in
theorem l1New (w : World) (a : Option Addr) (len cap : Nat) (hc : CodeIn w a len) :
    Calls Try.prog 81 #[.slice a len cap] w (CurNew w) := by
  have hl := hc.1
  have HC := Lib.hid hc
  clear hc
  unfold maxLen at hl
  go_enter Try.func81, Try.ntmps81
  go_wp2_with (fail)
  generalize wrap64 (10101 + (len : Int)) = q0
  go_loop [3, 4] (fun t s => ∃ (q : Int) (k : Nat), t = .int .i64 q ∧ s = .int .i64 k ∧ k ≤ len ∧ k ≤ 4000) (fun _ s => (len - intOf s).toNat)
  case atStart => exact ⟨q0, 0, rfl, rfl, by omega, by omega⟩
  case round =>
    obtain ⟨q, k, rfl, rfl, hk, hk2⟩ := hrel
    by_cases h1 : k < len
    · by_cases h2 : k < 4000
      · obtain ⟨b, o, z, ha, hx, hz0, hz1⟩ := HC.out.2 k h1
        subst ha
        have h3 : (k : Int) < 4000 := by omega
        have H2 := Lib.hid h2
        have H4 := Lib.hid hk2
        clear h2 hk2
        go_wp2_with (fail)
        go_round
        case rel => exact ⟨_, k + 1, rfl, by go_num, by omega, by have := H2.out; omega⟩
        case measure => simp [intOf]; omega
      · have h3 : decide ((k : Int) < 4000) = false := by simp; omega
        clear h2 hk2
        go_wp2_with (fail)
        go_ret
        refine ⟨w.heap.size, rfl, Nat.le_refl _, ⟨a, len, cap, 0, q, Blk3.new _ _ _ _ _, by omega, HC.out.1, fun j hj => ?_⟩, (Below.refl _ _).alloc (Nat.le_refl _) _⟩
        obtain ⟨b, o, z, ha, hx, hz0, hz1⟩ := HC.out.2 j hj
        have hlt := World.block_lt_of_cell? w _ hx
        exact ⟨b, o, z, ha, (World.grownBy_alloc w _ none).cell hx (by simp), hz0, hz1, by simp at hlt; omega⟩
    · have h1' : decide (k < len) = false := by simpa using h1
      go_wp2_with (fail)
      go_ret
      refine ⟨w.heap.size, rfl, Nat.le_refl _, ⟨a, len, cap, 0, q, Blk3.new _ _ _ _ _, by omega, HC.out.1, fun j hj => ?_⟩, (Below.refl _ _).alloc (Nat.le_refl _) _⟩
      obtain ⟨b, o, z, ha, hx, hz0, hz1⟩ := HC.out.2 j hj
      have hlt := World.block_lt_of_cell? w _ hx
      exact ⟨b, o, z, ha, (World.grownBy_alloc w _ none).cell hx (by simp), hz0, hz1, by simp at hlt; omega⟩

/-- Two ints are returned; of what was there nothing has changed. -/
def TwoInts (P : Int → Int → Prop) (w : World) (e : Ending) (w' : World) : Prop := ∃ r s : Int, P r s ∧ e = .returned (.tuple #[.int .i64 r, .int .i64 s]) ∧ Below w.heap.size w w'

end Go.Proofs.Ytpelnfenfeoeeaa
end

section
/-
  Frames: what they keep of a cursor.
-/
namespace Go.Proofs.Ytpelnfenfeoeeaa
open Go.RowKit

/-- A new matrix of zeros, of which all is known. -/
theorem sNewC (R C : Nat) (w : World) (hR : R ≤ 4096) (hC : C ≤ 4096) :
    Calls Try.prog 106 #[.int .i64 R, .int .i64 C] w (fun e w' => ∃ g, e = .returned (.agg #[.int .i64 R, .int .i64 C, .slice (some ⟨g, 0, none⟩) (R * C) (R * C)]) ∧ w.heap.size ≤ g ∧ IntsC w' g (R * C) (List.replicate (R * C) 0) ∧ Below w.heap.size w w') := by
  have hm : R * C ≤ 4096 * 4096 := Nat.mul_le_mul hR hC
  have hmk := makeProd R C (by omega)
  have hp1 : (0 : Int) ≤ (R : Int) * (C : Int) := by rw [← Int.natCast_mul]; omega
  have hp2 : (R : Int) * (C : Int) ≤ 16777216 := by rw [← Int.natCast_mul]; omega
  go_enter Try.func106, Try.ntmps106
  go_wp2_with fail
  refine bodyPost_ret (v := .agg #[.int .i64 R, .int .i64 C, .slice (some ⟨w.heap.size + 1, 0, none⟩) (R * C) (R * C)]) (by simp [results, Try.results106, go_sem]) rfl ⟨w.heap.size + 1, rfl, by omega, ?_, ?_⟩
  · exact IntsC.made _ (by omega) (by simp)
  · exact ((Below.refl _ _).alloc (Nat.le_refl _) _).alloc (by simp) _
theorem Cur.frs {w w' : World} {cb : Nat} {p : Nat → Prop} (h : Cur w cb) (hf : FrS p w w') (hb : ∀ k, k ≤ cb → ¬ p k) : Cur w' cb := by
  obtain ⟨a, len, cap, i, x, hk, hi, hl, hby⟩ := h
  refine ⟨a, len, cap, i, x, hk.frs hf (hb _ (Nat.le_refl _)), hi, hl, fun k hkl => ?_⟩
  obtain ⟨b, o, z, ha, hx, h0, h1, hne⟩ := hby k hkl
  have hlt := World.block_lt_of_cell? w _ hx
  exact ⟨b, o, z, ha, (World.cell?_of_block (w := w) (hf.block b (by simpa using hlt) (hb b (by omega)))).trans hx, h0, h1, hne⟩
end Go.Proofs.Ytpelnfenfeoeeaa
end

section
/-
  The drawing of matrices: of what was there only the cursor has changed.
-/
namespace Go.Proofs.Ytpelnfenfeoeeaa
set_option maxRecDepth 100000
open Go.RowKit

/-! ### l3Draw -/
set_option maxHeartbeats 1000000 in
theorem l3Draw (w : World) (cb R C most : Nat) (hc : Cur w cb) (hR : R ≤ 24) (hC : C ≤ 24) (hm : most ≤ 100) :
    Calls Try.prog 128 #[.pointer (some ⟨cb, 0, none⟩), .int .i64 R, .int .i64 C, .int .i64 most] w (fun e w' => ∃ (g : Nat) (zs : List Int), e = .returned (.agg #[.int .i64 R, .int .i64 C, .slice (some ⟨g, 0, none⟩) (R * C) (R * C)]) ∧ w.heap.size ≤ g ∧ zs.length = R * C ∧ IntsC w' g (R * C) zs ∧ Cur w' cb ∧ w.grownBy w' (some cb)) := by
  have hlt := hc.lt
  have hle : R * C ≤ 24 * 24 := Nat.mul_le_mul hR hC
  have B0 : ∀ o, Below w.heap.size w (w.alloc o) := fun o => (Below.refl _ _).alloc (Nat.le_refl _) o
  have BH := Lib.hid B0
  have C0 := Lib.hid hc
  clear B0 hc
  go_enter Try.func128, Try.ntmps128
  go_wp2_with fail
  refine (sNewC R C _ (by omega) (by omega)).mono ?_
  rintro e w1 ⟨g, rfl, hg, hi, hb⟩
  have hg : w.heap.size < g := by simp at hg; exact hg
  have K2 : Hid (Blk3 w1 w.heap.size 26 (.int .i64 0) (.int .i64 0) (.slice none 0 0)) := (Blk3.at_ _ _ _ _ rfl).keep hb (by simp)
  have F : Hid (FrS (fun k => k = cb ∨ w.heap.size ≤ k) w w1) := (FrS.of_below (BH.out (.cells #[.int .i64 0, .int .i64 0, .slice none 0 0] 26))).trans (FrS.of_below hb)
  have C1 := Lib.hid ((C0.out.alloc (.cells #[.int .i64 0, .int .i64 0, .slice none 0 0] 26)).grown (row := none) (grown_of_below hb _) (by simp))
  obtain ⟨N, hN⟩ : ∃ N, R * C = N := ⟨_, rfl⟩
  have HN := Lib.hid hN
  rw [hN] at hi hle ⊢
  have I1 := Lib.hid hi
  have gl := hi.lt
  have kl := K2.out.lt
  clear hN hi hb C0
  have K2 := Lib.hid (K2.out.old (.cells #[.int .i64 R, .int .i64 C, .slice (some ⟨g, 0, none⟩) N N] 26))
  have K6 : Hid (Blk3 (w1.alloc (.cells #[.int .i64 R, .int .i64 C, .slice (some ⟨g, 0, none⟩) N N] 26)) w1.heap.size 26 (.int .i64 R) (.int .i64 C) (.slice (some ⟨g, 0, none⟩) N N)) := Blk3.at_ _ _ _ _ rfl
  have I1 := Lib.hid (I1.out.old (.cells #[.int .i64 R, .int .i64 C, .slice (some ⟨g, 0, none⟩) N N] 26))
  have C1 := Lib.hid (C1.out.alloc (.cells #[.int .i64 R, .int .i64 C, .slice (some ⟨g, 0, none⟩) N N] 26))
  have F := Lib.hid (F.out.alloc (.cells #[.int .i64 R, .int .i64 C, .slice (some ⟨g, 0, none⟩) N N] 26))
  go_wp2_with fail
  go_loopw [10] (fun i wr => ∃ (k : Nat) (zs : List Int), i = .int .i64 k ∧ k ≤ N ∧ zs.length = N ∧ IntsC wr g N zs ∧ Cur wr cb ∧ FrS (fun k => k = cb ∨ k = g) (w1.alloc (.cells #[.int .i64 R, .int .i64 C, .slice (some ⟨g, 0, none⟩) N N] 26)) wr) (fun i _ => N - (intOf i).toNat)
  case atStart => exact ⟨0, _, rfl, by omega, by simp, I1.out, C1.out, FrS.refl _ _⟩
  case round =>
    obtain ⟨k, zs, rfl, hk, hz, hi, hcu, hfr⟩ := hrel
    have I := Lib.hid hi
    have CU := Lib.hid hcu
    have FR := Lib.hid hfr
    have HZ := Lib.hid hz
    clear hi hcu hfr hz
    have R6 := Lib.hid (K6.out.frs FR.out (by omega))
    have lc := CU.out.lt
    obtain ⟨r0, r1, r2, -, -, -⟩ := R6.out.all
    by_cases hlt2 : k < N
    · have v1 : IntKind.i64.wrap (2 * (most : Int)) = 2 * (most : Int) := IntWalk.i64_in _ (by omega)
      have v2 : IntKind.i64.wrap (2 * (most : Int) + 1) = 2 * (most : Int) + 1 := IntWalk.i64_in _ (by omega)
      go_upto_region 5 with fail
      refine wp_region_held_drew (S := fun w' => FrS (fun k => k = cb ∨ k = g) wr w') (by kernel_rfl) (FrS.refl _ _).drew (fun hH => ?_)
      refine wpAnyH_take (i := 0) (v := ?_) (by simp only [List.getElem?_toArray, List.getElem?_cons_zero]; rfl) (by kernel_rfl) (by kernel_rfl) (by kernel_rfl) (by exact fun _ _ _ h => h) (Or.inl ⟨by rfl, ?_⟩) hH ?_
      rotate_left
      · (intro wS hS; clear hS; go_simp; try rfl)
      try simp only [Act.put, List.setIfInBounds_toArray, List.set_cons_zero, List.set_cons_succ]
      refine wpAnyH_take (i := 1) (v := ?_) (by simp only [List.getElem?_toArray, List.getElem?_cons_succ, List.getElem?_cons_zero]; rfl) (by kernel_rfl) (by kernel_rfl) (by kernel_rfl) (by exact fun _ _ _ h => h) (Or.inl ⟨by rfl, ?_⟩) hH ?_
      rotate_left
      · (intro wS hS; (try dsimp only at hS); obtain ⟨k1, k2, k3⟩ := sevenF R6.out hS (by omega); go_simp; try rfl)
      try simp only [Act.put, List.setIfInBounds_toArray, List.set_cons_zero, List.set_cons_succ]
      refine wpAnyH_take (i := 2) (v := ?_) (by simp only [List.getElem?_toArray, List.getElem?_cons_succ, List.getElem?_cons_zero]; rfl) (by kernel_rfl) (by kernel_rfl) (by kernel_rfl) (by exact fun _ _ _ h => h) (Or.inl ⟨by rfl, ?_⟩) hH ?_
      rotate_left
      · (intro wS hS; clear hS; go_simp; try rfl)
      try simp only [Act.put, List.setIfInBounds_toArray, List.set_cons_zero, List.set_cons_succ]
      refine wpAnyH_take (i := 3) (v := ?_) (by simp only [List.getElem?_toArray, List.getElem?_cons_succ, List.getElem?_cons_zero]; rfl) (by kernel_rfl) (by kernel_rfl) (by kernel_rfl) (by exact fun _ _ _ h => h) (Or.inl ⟨by rfl, ?_⟩) hH ?_
      rotate_left
      · (intro wS hS; clear hS; go_simp; try rfl)
      try simp only [Act.put, List.setIfInBounds_toArray, List.set_cons_zero, List.set_cons_succ]
      refine wpAnyH_take (i := 4) (v := ?_) (by simp only [List.getElem?_toArray, List.getElem?_cons_succ, List.getElem?_cons_zero]; rfl) (by kernel_rfl) (by kernel_rfl) (by kernel_rfl) (by exact fun _ _ _ h => h) (Or.inl ⟨by rfl, ?_⟩) hH ?_
      rotate_left
      · (intro wS hS; clear hS; go_simp; try rfl)
      try simp only [Act.put, List.setIfInBounds_toArray, List.set_cons_zero, List.set_cons_succ]
      refine wpAnyH_take (i := 5) (v := ?_) (by simp only [List.getElem?_toArray, List.getElem?_cons_succ, List.getElem?_cons_zero]; rfl) (by kernel_rfl) (by kernel_rfl) (by kernel_rfl) (by exact fun _ _ _ h => h) (Or.inl ⟨by rfl, ?_⟩) hH ?_
      rotate_left
      · (intro wS hS; clear hS; go_simp; try rfl)
      try simp only [Act.put, List.setIfInBounds_toArray, List.set_cons_zero, List.set_cons_succ]
      refine wpAnyH_take (i := 6) (v := ?_) (by simp only [List.getElem?_toArray, List.getElem?_cons_succ, List.getElem?_cons_zero]; rfl) (by kernel_rfl) (by kernel_rfl) (by kernel_rfl) (by exact fun _ _ _ h => h) (Or.inl ⟨by rfl, ?_⟩) hH ?_
      rotate_left
      · (intro wS hS; clear hS; go_simp; try rfl)
      try simp only [Act.put, List.setIfInBounds_toArray, List.set_cons_zero, List.set_cons_succ]
      refine wpAnyH_take (i := 8) (v := ?_) (by simp only [List.getElem?_toArray, List.getElem?_cons_succ, List.getElem?_cons_zero]; rfl) (by kernel_rfl) (by kernel_rfl) (by kernel_rfl) (by exact fun _ _ _ h => h) (Or.inl ⟨by rfl, ?_⟩) hH ?_
      rotate_left
      · (intro wS hS; clear hS; go_simp; try rfl)
      try simp only [Act.put, List.setIfInBounds_toArray, List.set_cons_zero, List.set_cons_succ]
      refine wpAnyH_ready (rs := [7]) (by kernel_rfl) (by simp) ?_
      refine AllReadyH.cons (by simp only [List.getElem?_toArray, List.getElem?_cons_succ, List.getElem?_cons_zero]; rfl) (fun KK hKK => ?_) AllReadyH.nil
      go_simp
      refine (l1Below _ cb _ (by exact CU.out) (by omega)).mono ?_
      rintro e w2 ⟨z, ⟨z0, z1⟩, rfl, hc2, hg2⟩
      have v3 : IntKind.i64.wrap (z - (most : Int)) = z - (most : Int) := IntWalk.i64_in _ (by omega)
      have I2 := Lib.hid (I.out.move (hg2.block g I.out.lt (by simp; omega)))
      have C2 := Lib.hid hc2
      have F1 : Hid (FrS (fun k => k = cb ∨ k = g) wr w2) := (FrS.refl _ wr).drew.trans (FrS.of_one hg2 (.inl rfl))
      clear hc2
      try dsimp only
      refine hKK.out _ _ ?_ (fun hH2 => ?_)
      · exact F1.out
      clear hKK KK
      have hO := hH
      clear hH
      have hH := hH2
      clear hH2
      try simp only [Act.put, List.setIfInBounds_toArray, List.set_cons_zero, List.set_cons_succ]
      refine wpAnyH_take (i := 9) (v := ?_) (by simp only [List.getElem?_toArray, List.getElem?_cons_succ, List.getElem?_cons_zero]; rfl) (by kernel_rfl) (by kernel_rfl) (by kernel_rfl) (by exact fun _ _ _ h => h) (Or.inl ⟨by rfl, ?_⟩) hH ?_
      rotate_left
      · (intro wS hS; clear hS; go_simp; try rfl)
      try simp only [Act.put, List.setIfInBounds_toArray, List.set_cons_zero, List.set_cons_succ]
      refine wpAnyH_take (i := 10) (v := ?_) (by simp only [List.getElem?_toArray, List.getElem?_cons_succ, List.getElem?_cons_zero]; rfl) (by kernel_rfl) (by kernel_rfl) (by kernel_rfl) (by exact fun _ _ _ h => h) (Or.inl ⟨by rfl, ?_⟩) hH ?_
      rotate_left
      · (intro wS hS; clear hS; go_simp; try rfl)
      try simp only [Act.put, List.setIfInBounds_toArray, List.set_cons_zero, List.set_cons_succ]
      have hold := I2.out.ints.cell (i := k) (by rw [HZ.out]; exact hlt2)
      have hfr := I2.out.ints.free k
      refine wpAnyH_ready (rs := [11]) (by kernel_rfl) (by simp) ?_
      refine AllReadyH.cons (by simp only [List.getElem?_toArray, List.getElem?_cons_succ, List.getElem?_cons_zero]; rfl) (fun KK hKK => ?_) AllReadyH.nil
      go_simp
      have I2 := Lib.hid (I2.out.set k (by rw [HZ.out]; exact hlt2) (z - (most : Int)))
      have C2 := Lib.hid (C2.out.setFar (x := ⟨g, k, none⟩) (by show cb < g; omega) (.int .i64 (z - (most : Int))))
      have F2 : Hid (FrS (fun k => k = cb ∨ k = g) wr (w2.setCell ⟨g, k, none⟩ (.int .i64 (z - (most : Int))))) := F1.out.set (a := ⟨g, k, none⟩) (.inl (.inr rfl)) _
      try dsimp only
      refine hKK.out _ _ ?_ (fun hH2 => ?_)
      · exact F2.out
      clear hKK KK
      have hO := hH
      clear hH
      have hH := hH2
      clear hH2
      try simp only [Act.put, List.setIfInBounds_toArray, List.set_cons_zero, List.set_cons_succ]
      have F2 := Lib.hid (FR.out.trans F2.out)
      refine wpAnyH_done (by kernel_rfl) ?_ _
      go_wp2_with fail
      go_roundw
      case rel => exact ⟨k + 1, _, by go_num, by omega, by rw [List.length_set]; exact HZ.out, I2.out, C2.out, F2.out⟩
      case measure => simp [intOf]; omega
    · obtain rfl : N = k := by omega
      have R2 := Lib.hid (K2.out.frs FR.out (by omega))
      obtain ⟨s0, s1, s2, t0, t1, t2⟩ := R2.out.all
      go_wp2_with fail
      obtain ⟨E0, E1, E2, -, -, -⟩ := (((R2.out.set0 (.int .i64 R)).set1 (.int .i64 C)).set2 (.slice (some ⟨g, 0, none⟩) N N)).all
      have FF := Lib.hid (F.out.trans (FR.out.mono (q := fun k => k = cb ∨ w.heap.size ≤ k) (fun k hk => by omega)))
      refine bodyPost_ret (v := .agg #[.int .i64 R, .int .i64 C, .slice (some ⟨g, 0, none⟩) N N]) (by simp [results, Try.results128, go_sem, E0, E1, E2]) rfl ⟨g, zs, by rw [HN.out], by omega, by rw [HN.out]; exact HZ.out, ?_, ?_, ?_⟩
      · rw [HN.out]
        exact ((I.out.far (by show g ≠ w.heap.size; omega) _).far (by show g ≠ w.heap.size; omega) _).far (by show g ≠ w.heap.size; omega) _
      · exact ((CU.out.setFar (by show cb < w.heap.size; omega) _).setFar (by show cb < w.heap.size; omega) _).setFar (by show cb < w.heap.size; omega) _
      · exact FrS.one (((FF.out.set (a := ⟨w.heap.size, 0, none⟩) (.inr (Nat.le_refl _)) _).set (a := ⟨w.heap.size, 1, none⟩) (.inr (Nat.le_refl _)) _).set (a := ⟨w.heap.size, 2, none⟩) (.inr (Nat.le_refl _)) _) (fun k hk hp => by omega)
end Go.Proofs.Ytpelnfenfeoeeaa
end

section
/-
  The drawing of matrices: one that may be spoilt.
-/
namespace Go.Proofs.Ytpelnfenfeoeeaa
set_option maxRecDepth 100000
open Go.RowKit

/-! ### l3Spoil -/
theorem OwnC.out1 {B : Nat} {w : World} {v : Value} {zs : List Int} {b : Nat} {p q r : Value} (h : OwnC B w v zs) (k : Blk3 w b 26 p q r) (i : Nat) (x : Value) : OwnC B (w.setCell ⟨b, i, none⟩ x) v zs := by
  rcases h with h | ⟨g, cap, hv, hB, hi⟩
  · exact .inl h
  · exact .inr ⟨g, cap, hv, hB, hi.far (hi.ints.ne_blk k) x⟩
theorem OwnC.out3 {B : Nat} {w : World} {v : Value} {zs : List Int} {b : Nat} {p q r : Value} (h : OwnC B w v zs) (k : Blk3 w b 26 p q r) (x y z : Value) : OwnC B (((w.setCell ⟨b, 0, none⟩ x).setCell ⟨b, 1, none⟩ y).setCell ⟨b, 2, none⟩ z) v zs :=
  ((h.out1 k 0 x).out1 (k.set0 x) 1 y).out1 ((k.set0 x).set1 y) 2 z
/-- A matrix of whatever kind is returned, its cells from block B on; of what was there only blocks with the property p have changed. -/
def CurMat (B L cb : Nat) (p : Nat → Prop) (w : World) (e : Ending) (w' : World) : Prop := ∃ (r c : Int) (v : Value) (zs : List Int), e = .returned (.agg #[.int .i64 r, .int .i64 c, v]) ∧ OwnC B w' v zs ∧ zs.length ≤ L ∧ Cur w' cb ∧ FrS p w w'
theorem CurMat.end_ {B L cb b : Nat} {pr : Nat → Prop} {w W : World} {r c : Int} {v p q s : Value} {zs : List Int} (own : OwnC B W v zs) (hl : zs.length ≤ L) (k : Blk3 W b 26 p q s) (hc : Cur W cb) (hcb : cb < b) (hB : pr b) (f : FrS pr w W) :
    CurMat B L cb pr w (.returned (.agg #[.int .i64 r, .int .i64 c, v])) (((W.setCell ⟨b, 0, none⟩ (.int .i64 r)).setCell ⟨b, 1, none⟩ (.int .i64 c)).setCell ⟨b, 2, none⟩ v) :=
  ⟨r, c, v, zs, rfl, own.out3 k _ _ _, hl, ((hc.setFar hcb _).setFar hcb _).setFar hcb _, ((f.set (.inl hB) _).set (.inl hB) _).set (.inl hB) _⟩
set_option maxHeartbeats 2000000 in
theorem l3Spoil (w : World) (cb B g n cap : Nat) (r c : Int) (zs : List Int) (hc : Cur w cb) (hcB : cb < B) (hB : B ≤ w.heap.size) (hg : B ≤ g) (hi : IntsC w g cap zs) (hz : zs.length = n) (hn : n ≤ 600) :
    Calls Try.prog 132 #[.pointer (some ⟨cb, 0, none⟩), .agg #[.int .i64 r, .int .i64 c, .slice (some ⟨g, 0, none⟩) n cap]] w (CurMat B (n + 1) cb (fun k => k = cb ∨ k = g ∨ w.heap.size ≤ k) w) := by
  have hlt := hc.lt
  have gl := hi.lt
  have C0 := Lib.hid hc
  have I0 := Lib.hid hi
  have HZ := Lib.hid hz
  clear hc hi hz
  go_enter Try.func132, Try.ntmps132
  go_wp2_with fail
  refine (l1Below _ cb 40 ((C0.out.alloc (.cells #[.int .i64 r, .int .i64 c, .slice (some ⟨g, 0, none⟩) n cap] 26)).alloc (.cells #[.int .i64 0, .int .i64 0, .slice none 0 0] 26)) (by omega)).mono ?_
  rintro e w1 ⟨k, ⟨k0, k1⟩, rfl, hc1, hg1⟩
  have K0 : Hid (Blk3 w1 w.heap.size 26 (.int .i64 r) (.int .i64 c) (.slice (some ⟨g, 0, none⟩) n cap)) := ((Blk3.at_ _ _ _ _ rfl).old _).keepOne hg1 (by omega)
  have K2 : Hid (Blk3 w1 (w.heap.size + 1) 26 (.int .i64 0) (.int .i64 0) (.slice none 0 0)) := (Blk3.at_ _ _ _ _ (by simp)).keepOne hg1 (by omega)
  have C1 := Lib.hid hc1
  have F1 : Hid (FrS (fun k => k = cb ∨ k = g ∨ w.heap.size ≤ k) w w1) := ((((FrS.refl _ w).alloc _).alloc _).trans (FrS.of_one hg1 (.inl rfl)))
  have O1 : Hid (OwnC B w1 (.slice (some ⟨g, 0, none⟩) n cap) zs) := .inr ⟨g, cap, by rw [HZ.out], hg, (((I0.out.old _).old _)).move (hg1.block g (by simp; omega) (by simp; omega))⟩
  have I1 : Hid (IntsC w1 g cap zs) := (((I0.out.old _).old _)).move (hg1.block g (by simp; omega) (by simp; omega))
  have l1 : w.heap.size + 1 < w1.heap.size := K2.out.lt
  clear hc1 hg1 C0 I0
  obtain ⟨a0, a1, a2, a3, a4, a5⟩ := K0.out.all
  obtain ⟨b0, b1, b2, b3, b4, b5⟩ := K2.out.all
  by_cases e0 : k = 0
  · subst e0
    go_wp2_with fail
    refine (l1PickInt (fun _ => True) _ cb w1.heap.size 4 (C1.out.alloc _) ?_ (by omega) (by omega) (by omega)).mono ?_
    · exact IntList.new [-1, 0, 7, wrap64 (r + 1)] (fun _ _ => trivial) w1 3
    rintro e w2 ⟨t, -, rfl, hc2, hg2⟩
    have K0 := Lib.hid ((K0.out.old _).keepOne hg2 (by omega))
    have K2 := Lib.hid ((K2.out.old _).keepOne hg2 (by omega))
    have C2 := Lib.hid hc2
    have fx : FrS (fun k => k = cb) w1 w2 := (((FrS.refl _ w1).alloc _).trans (FrS.of_one hg2 rfl))
    have F2 := Lib.hid (F1.out.trans (fx.mono (fun k hk => .inl hk)))
    have O2 := Lib.hid (O1.out.frs fx (fun k hk => by omega))
    clear hc2 hg2 fx
    obtain ⟨s0, s1, s2, f0, f1, f2⟩ := K0.out.all
    obtain ⟨u0, u1, u2, v0, v1, v2⟩ := K2.out.all
    go_wp2_with fail
    obtain ⟨E0, E1, E2, -, -, -⟩ := ((((K2.out.far (a := ⟨w.heap.size, 0, none⟩) (by simp) (.int .i64 t)).set0 (.int .i64 t)).set1 (.int .i64 c)).set2 (.slice (some ⟨g, 0, none⟩) n cap)).all
    exact bodyPost_ret (v := .agg #[.int .i64 t, .int .i64 c, .slice (some ⟨g, 0, none⟩) n cap]) (by simp [results, Try.results132, go_sem, E0, E1, E2]) rfl (CurMat.end_ (O2.out.out1 K0.out 0 _) (by rw [HZ.out]; omega) (K2.out.far (by simp) _) (C2.out.setFar (by show cb < w.heap.size; omega) _) (by omega) (by omega) (F2.out.set (.inl (.inr (.inr (Nat.le_refl _)))) _))
  by_cases e1 : k = 1
  · subst e1
    by_cases hn0 : 0 < n
    · go_upto_region 6 with fail
      refine wp_region_held_drew (S := fun w' => FrS (fun k => k = cb ∨ k = g) w1 w') (by kernel_rfl) (FrS.refl _ _).drew (fun hH => ?_)
      refine wpAnyH_take (i := 0) (v := ?_) (by simp only [List.getElem?_toArray, List.getElem?_cons_zero]; rfl) (by kernel_rfl) (by kernel_rfl) (by kernel_rfl) (by exact fun _ _ _ h => h) (Or.inl ⟨by rfl, ?_⟩) hH ?_
      rotate_left
      · (intro wS hS; clear hS; go_simp; try rfl)
      try simp only [Act.put, List.setIfInBounds_toArray, List.set_cons_zero, List.set_cons_succ]
      refine wpAnyH_take (i := 1) (v := ?_) (by simp only [List.getElem?_toArray, List.getElem?_cons_succ, List.getElem?_cons_zero]; rfl) (by kernel_rfl) (by kernel_rfl) (by kernel_rfl) (by exact fun _ _ _ h => h) (Or.inl ⟨by rfl, ?_⟩) hH ?_
      rotate_left
      · (intro wS hS; (try dsimp only at hS); obtain ⟨k1, k2, k3⟩ := sevenF K0.out hS (by rintro (h | h); omega; exact I1.out.ints.ne_blk K0.out h.symm); go_simp; try rfl)
      try simp only [Act.put, List.setIfInBounds_toArray, List.set_cons_zero, List.set_cons_succ]
      refine wpAnyH_take (i := 2) (v := ?_) (by simp only [List.getElem?_toArray, List.getElem?_cons_succ, List.getElem?_cons_zero]; rfl) (by kernel_rfl) (by kernel_rfl) (by kernel_rfl) (by exact fun _ _ _ h => h) (Or.inl ⟨by rfl, ?_⟩) hH ?_
      rotate_left
      · (intro wS hS; clear hS; go_simp; try rfl)
      try simp only [Act.put, List.setIfInBounds_toArray, List.set_cons_zero, List.set_cons_succ]
      refine wpAnyH_ready (rs := [3]) (by kernel_rfl) (by simp) ?_
      refine AllReadyH.cons (by simp only [List.getElem?_toArray, List.getElem?_cons_succ, List.getElem?_cons_zero]; rfl) (fun KK hKK => ?_) AllReadyH.nil
      go_simp
      refine (l1Odd _ cb (by exact C1.out)).mono ?_
      rintro e w2 ⟨z, hz, rfl, hc2, hg2⟩
      have I2 := Lib.hid (I1.out.move (hg2.block g I1.out.lt (by simp; omega)))
      have C2 := Lib.hid hc2
      have f2 : FrS (fun k => k = cb ∨ k = g) w1 w2 := (FrS.refl _ w1).drew.trans (FrS.of_one hg2 (.inl rfl))
      have FX := Lib.hid f2
      clear hc2 f2 hg2
      try dsimp only
      refine hKK.out _ _ ?_ (fun hH2 => ?_)
      · exact FX.out
      clear hKK KK
      have hO := hH
      clear hH
      have hH := hH2
      clear hH2
      try simp only [Act.put, List.setIfInBounds_toArray, List.set_cons_zero, List.set_cons_succ]
      refine wpAnyH_take (i := 4) (v := ?_) (by simp only [List.getElem?_toArray, List.getElem?_cons_succ, List.getElem?_cons_zero]; rfl) (by kernel_rfl) (by kernel_rfl) (by kernel_rfl) (by exact fun _ _ _ h => h) (Or.inl ⟨by rfl, ?_⟩) hH ?_
      rotate_left
      · (intro wS hS; clear hS; go_simp; try rfl)
      try simp only [Act.put, List.setIfInBounds_toArray, List.set_cons_zero, List.set_cons_succ]
      have hold := I2.out.ints.cell (i := 0) (by rw [HZ.out]; exact hn0)
      have hfr := I2.out.ints.free 0
      refine wpAnyH_ready (rs := [5]) (by kernel_rfl) (by simp) ?_
      refine AllReadyH.cons (by simp only [List.getElem?_toArray, List.getElem?_cons_succ, List.getElem?_cons_zero]; rfl) (fun KK hKK => ?_) AllReadyH.nil
      go_simp
      have I2 := Lib.hid (I2.out.set 0 (by rw [HZ.out]; exact hn0) z)
      have C2 := Lib.hid (C2.out.setFar (x := ⟨g, 0, none⟩) (by show cb < g; omega) (.int .i64 z))
      have FX : Hid (FrS (fun k => k = cb ∨ k = g) w1 (w2.setCell ⟨g, 0, none⟩ (.int .i64 z))) := FX.out.set (a := ⟨g, 0, none⟩) (.inl (.inr rfl)) _
      try dsimp only
      refine hKK.out _ _ ?_ (fun hH2 => ?_)
      · exact FX.out
      clear hKK KK
      have hO := hH
      clear hH
      have hH := hH2
      clear hH2
      try simp only [Act.put, List.setIfInBounds_toArray, List.set_cons_zero, List.set_cons_succ]
      have K0n : ¬ (w.heap.size = cb ∨ w.heap.size = g) := by rintro (h | h); omega; exact I1.out.ints.ne_blk K0.out h.symm
      have K2n : ¬ (w.heap.size + 1 = cb ∨ w.heap.size + 1 = g) := by rintro (h | h); omega; exact I1.out.ints.ne_blk K2.out h.symm
      have K0 := Lib.hid (K0.out.frs FX.out K0n)
      have K2 := Lib.hid (K2.out.frs FX.out K2n)
      have F2 := Lib.hid (F1.out.trans (FX.out.mono (q := fun k => k = cb ∨ k = g ∨ w.heap.size ≤ k) (fun k hk => by omega)))
      have O2 : Hid (OwnC B (w2.setCell ⟨g, 0, none⟩ (.int .i64 z)) (.slice (some ⟨g, 0, none⟩) n cap) (zs.set 0 z)) := .inr ⟨g, cap, by rw [List.length_set, HZ.out], hg, I2.out⟩
      obtain ⟨s0, s1, s2, f0, f1, f2⟩ := K0.out.all
      obtain ⟨u0, u1, u2, v0, v1, v2⟩ := K2.out.all
      refine wpAnyH_done (by kernel_rfl) ?_ _
      go_wp2_with fail
      obtain ⟨E0, E1, E2, -, -, -⟩ := (((K2.out.set0 (.int .i64 r)).set1 (.int .i64 c)).set2 (.slice (some ⟨g, 0, none⟩) n cap)).all
      exact bodyPost_ret (v := .agg #[.int .i64 r, .int .i64 c, .slice (some ⟨g, 0, none⟩) n cap]) (by simp [results, Try.results132, go_sem, E0, E1, E2]) rfl (CurMat.end_ O2.out (by rw [List.length_set, HZ.out]; omega) K2.out C2.out (by omega) (by omega) F2.out)
    · obtain rfl : n = 0 := by omega
      go_wp2_with fail
      obtain ⟨E0, E1, E2, -, -, -⟩ := (((K2.out.set0 (.int .i64 r)).set1 (.int .i64 c)).set2 (.slice (some ⟨g, 0, none⟩) 0 cap)).all
      exact bodyPost_ret (v := .agg #[.int .i64 r, .int .i64 c, .slice (some ⟨g, 0, none⟩) 0 cap]) (by simp [results, Try.results132, go_sem, E0, E1, E2]) rfl (CurMat.end_ O1.out (by rw [HZ.out]; omega) K2.out C1.out (by omega) (by omega) F1.out)
  by_cases e2 : k = 2
  · subst e2
    obtain ⟨fi, hfi, hz0, hz1, hz2⟩ := facts_int
    have hown : (w1.alloc (.cells #[.int .i64 1] 3)).ownsRow B 3 1 (.slice (some ⟨g, 0, none⟩) n cap) n (zs.map (Value.int .i64)) := by
      have := (I1.out.old (.cells #[.int .i64 1] 3)).row hg
      rw [HZ.out] at this
      exact this
    have news : ∀ (j : Nat) u, [Value.int .i64 1][j]? = some u → (w1.alloc (.cells #[.int .i64 1] 3)).cell? ((⟨w1.heap.size, 0, none⟩ : Addr).add j) = some u := by
      intro j u hu
      have hj : j = 0 := by
        rcases j with _ | j
        · rfl
        · simp at hu
      subst hj
      have := heap_alloc_new w1 (.cells #[Value.int .i64 1] 3)
      have hc : (w1.alloc (.cells #[Value.int .i64 1] 3)).cell? ⟨w1.heap.size, 0, none⟩ = some (.int .i64 1) := by
        unfold World.cell?
        simp only [this]
        rfl
      have ha : (⟨w1.heap.size, 0, none⟩ : Addr).add 0 = ⟨w1.heap.size, 0, none⟩ := rfl
      rw [ha, hc]
      simpa using hu
    have HO := Lib.hid hown
    have NS := Lib.hid news
    have bs : B ≤ w1.heap.size := Nat.le_trans hB F1.out.size
    clear hown news
    go_wp2_with (at_builtin; refine wpList_append_own_at _ rfl _ _ 22 rfl B 3 fi (.int .i64 0) 1 8 underlying_ints hfi hz0 hz1 hz2 rfl (by decide) _ _ _ rfl HO.out ⟨w1.heap.size, 0, none⟩ 1 1 [.int .i64 1] ?hx ?hl ?hnews ?h1 ?h63 ?hbytes ?hbase ?hnext)
    case hx => rfl
    case hl => rfl
    case hnews => exact NS.out
    case h1 => intro u hu; simp at hu; subst hu; rfl
    case h63 => unfold maxLen; omega
    case hbytes => omega
    case hbase => simp; omega
    case hnext =>
      rintro v' w2 ho hg2 - hbk
      have O2 : Hid (OwnC B w2 v' (zs ++ [1])) := OwnC.of_row (by rw [List.length_append, HZ.out, List.map_append]; exact ho)
      have K0 := Lib.hid ((K0.out.old (.cells #[.int .i64 1] 3)).keepOne (c := g) (by simpa [Value.ownBlock] using hg2) (Ne.symm (I1.out.ints.ne_blk K0.out)))
      have K2 := Lib.hid ((K2.out.old (.cells #[.int .i64 1] 3)).keepOne (c := g) (by simpa [Value.ownBlock] using hg2) (Ne.symm (I1.out.ints.ne_blk K2.out)))
      have fx : FrS (fun k => k = cb ∨ k = g ∨ w.heap.size ≤ k) (w1.alloc (.cells #[.int .i64 1] 3)) w2 := FrS.of_one (g := g) (by simpa [Value.ownBlock] using hg2) (.inr (.inl rfl))
      have F2 := Lib.hid ((F1.out.alloc _).trans fx)
      have C2 := Lib.hid ((C1.out.alloc (.cells #[.int .i64 1] 3)).frs (FrS.of_one (p := fun k => k = g) (g := g) (by simpa [Value.ownBlock] using hg2) rfl) (fun k hk => by omega))
      obtain ⟨q2, qc2, rfl, -, -⟩ := (O2.out.own (by rw [List.length_append, HZ.out]; simp; omega)).form
      clear ho hg2 hbk fx
      obtain ⟨s0, s1, s2, f0, f1, f2⟩ := K0.out.all
      obtain ⟨u0, u1, u2, v0, v1, v2⟩ := K2.out.all
      have EL : (zs ++ [(1 : Int)]).length = n + 1 := by rw [List.length_append, HZ.out]; rfl
      rw [EL] at O2 ⊢
      go_wp2_with fail
      obtain ⟨E0, E1, E2, -, -, -⟩ := ((((K2.out.far (a := ⟨w.heap.size, 2, none⟩) (by simp) (.slice q2 (n + 1) qc2)).set0 (.int .i64 r)).set1 (.int .i64 c)).set2 (.slice q2 (n + 1) qc2)).all
      exact bodyPost_ret (v := .agg #[.int .i64 r, .int .i64 c, .slice q2 (n + 1) qc2]) (by simp [results, Try.results132, go_sem, E0, E1, E2]) rfl (CurMat.end_ (O2.out.out1 K0.out 2 _) (by rw [EL]; omega) (K2.out.far (by simp) _) (C2.out.setFar (by show cb < w.heap.size; omega) _) (by omega) (by omega) (F2.out.set (.inl (.inr (.inr (Nat.le_refl _)))) _))
  · have n0 : (k == 0) = false := by simpa using e0
    have n1 : (k == 1) = false := by simpa using e1
    have n2 : (k == 2) = false := by simpa using e2
    go_wp2_with fail
    obtain ⟨E0, E1, E2, -, -, -⟩ := (((K2.out.set0 (.int .i64 r)).set1 (.int .i64 c)).set2 (.slice (some ⟨g, 0, none⟩) n cap)).all
    exact bodyPost_ret (v := .agg #[.int .i64 r, .int .i64 c, .slice (some ⟨g, 0, none⟩) n cap]) (by simp [results, Try.results132, go_sem, E0, E1, E2]) rfl (CurMat.end_ O1.out (by rw [HZ.out]; omega) K2.out C1.out (by omega) (by omega) F1.out)
end Go.Proofs.Ytpelnfenfeoeeaa
end

section
/-
  A code that came in as a slice of bytes, as the drawing takes it; and the laws' own look at its length.
-/
namespace Go.Proofs.Ytpelnfenfeoeeaa
open Go.RowKit

theorem codeIn_none (w : World) : CodeIn w none 0 := ⟨Nat.zero_le _, fun _ hk => absurd hk (Nat.not_lt_zero _)⟩
theorem codeIn_some {w : World} {x : Addr} {len cap : Nat} {zs : List Int} (hl : len ≤ cap) (hm : cap ≤ maxLen) (hz : zs.length = cap)
    (hcell : ∀ i, i < zs.length → w.cell? (x.add i) = some (.int .u8 (zs.getD i 0))) (hwf : ∀ n ∈ zs, (Lit.int .u8 n).wf = true) : CodeIn w (some x) len := by
  refine ⟨Nat.le_trans hl hm, fun k hk => ?_⟩
  obtain ⟨b, o, rfl, hc⟩ := ints_at hcell (by omega)
  have bd := range_u8 hwf k
  exact ⟨b, o, zs.getD k 0, rfl, hc k (by omega), by simpa using bd.1, by simpa using bd.2⟩

theorem big_no (w : World) (a : Option Addr) (len cap : Nat) (h : len ≤ 1048576) : Calls Try.prog 30 #[.slice a len cap] w fun e w' => e = .returned (.bool false) ∧ w = w' := by
  have h' : decide ((1048576 : Int) < (len : Int)) = false := by simp; omega
  clear h
  go_enter Try.func30, Try.ntmps30
  go_wp2
  go_ret
  exact ⟨rfl, rfl⟩
theorem big_yes (w : World) (a : Option Addr) (len cap : Nat) (h : 1048576 < len) : Calls Try.prog 30 #[.slice a len cap] w fun e w' => e = .returned (.bool true) ∧ w = w' := by
  have h' : decide ((1048576 : Int) < (len : Int)) = true := by simp; omega
  clear h
  go_enter Try.func30, Try.ntmps30
  go_wp2
  go_ret
  exact ⟨rfl, rfl⟩

end Go.Proofs.Ytpelnfenfeoeeaa
end

section
/-
  What the drawing of a matrix gives: any matrix of the call's own, valid or not.
-/
namespace Go.Proofs.Ytpelnfenfeoeeaa
set_option maxRecDepth 100000
open Go.RowKit

/-- A matrix, whatever it is, in memory of the call's own. -/
def AnyMat (w : World) (e : Ending) (w' : World) : Prop := ∃ (r c : Int) (q : Option Addr) (qc : Nat) (zs : List Int), e = .returned (.agg #[.int .i64 r, .int .i64 c, .slice q zs.length qc]) ∧ Own w.heap.size w' (.slice q zs.length qc) zs ∧ zs.length ≤ 601 ∧ Below w.heap.size w w'
theorem AnyMat.end_ {w W : World} {B b : Nat} {r c : Int} {v p q s : Value} {zs : List Int} {pr : Nat → Prop} (own : OwnC B W v zs) (hl : zs.length ≤ 601) (k : Blk3 W b 26 p q s) (hB : w.heap.size ≤ B) (hb : w.heap.size ≤ b) (f : FrS pr w W) (hp : ∀ k, pr k → w.heap.size ≤ k) :
    ∃ (q : Option Addr) (qc : Nat), v = .slice q zs.length qc ∧ AnyMat w (.returned (.agg #[.int .i64 r, .int .i64 c, v])) (((W.setCell ⟨b, 0, none⟩ (.int .i64 r)).setCell ⟨b, 1, none⟩ (.int .i64 c)).setCell ⟨b, 2, none⟩ v) := by
  have o2 := ((own.out3 k (.int .i64 r) (.int .i64 c) v).own (by omega)).le hB
  obtain ⟨q, qc, rfl, -, -⟩ := o2.form
  refine ⟨q, qc, rfl, r, c, q, qc, zs, rfl, o2, hl, ?_⟩
  exact ((((f.below hp (Nat.le_refl _)).setCell hb _).setCell hb _).setCell hb _)
end Go.Proofs.Ytpelnfenfeoeeaa
end
