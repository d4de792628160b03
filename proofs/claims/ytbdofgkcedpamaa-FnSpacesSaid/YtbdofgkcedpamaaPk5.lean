/-
  Texts of this seat, joined: RowTo · NumGcdS · PrimS · AppI · SpnT · EchLaw · EchS · EchT · EchSp
-/
import Derived.Test.YtbdofgkcedpamaaRows
import Derived.WalkKit
import Derived.BigQuiet
import Derived.Deep.QuietTactic
import Derived.Lib.Hide
import Derived.StillTailTactics
import Derived.Deep.DeepCutAuto
import Derived.IntWalk
import Derived.Test.YtbdofgkcedpamaaPk1
import Derived.Test.YtbdofgkcedpamaaPk2
import Derived.Test.YtbdofgkcedpamaaPk3

section
/-
  Plain mathematics of chapter 7: a row that is written cell by cell. Nothing of a program is used.
-/
namespace Go.Proofs.Ytbdofgkcedpamaa

/-- The first k cells of row i are those of v. -/
def rowTo (r c i : Nat) (v : Nat → Int) (xs : List Int) (k : Nat) : List Int := tab r c fun p q => if p = i ∧ q < k then v q else mxC c xs p q
def rowL (r c i : Nat) (v : Nat → Int) (xs : List Int) : List Int := tab r c fun p q => if p = i then v q else mxC c xs p q
theorem rowTo_length (r c i : Nat) (v : Nat → Int) (xs : List Int) (k : Nat) : (rowTo r c i v xs k).length = r * c := tab_length _ _ _
theorem rowTo_at {r c i : Nat} {v : Nat → Int} {xs : List Int} {k p q : Nat} (hp : p < r) (hq : q < c) : (rowTo r c i v xs k).getD (p * c + q) 0 = if p = i ∧ q < k then v q else mxC c xs p q := tab_at r c _ hp hq
theorem rowTo_old {r c i : Nat} {v : Nat → Int} {xs : List Int} {k p q : Nat} (hp : p < r) (hq : q < c) (h : p ≠ i ∨ k ≤ q) : (rowTo r c i v xs k).getD (p * c + q) 0 = xs.getD (p * c + q) 0 := by
  rw [rowTo_at hp hq, if_neg (by omega)]; rfl
theorem rowTo_zero {r c i : Nat} {v : Nat → Int} {xs : List Int} (hx : xs.length = r * c) : rowTo r c i v xs 0 = xs := by
  refine (tab_ext hx fun p q _ _ => ?_).symm
  rw [if_neg (by omega)]; rfl
theorem rowTo_step {r c i : Nat} {v : Nat → Int} {xs : List Int} {k : Nat} (hi : i < r) (hk : k < c) : (rowTo r c i v xs k).set (i * c + k) (v k) = rowTo r c i v xs (k + 1) := by
  refine tab_ext (by rw [List.length_set, rowTo_length]) fun p q hp hq => ?_
  rw [getD_set _ _ _ _ (by rw [rowTo_length]; exact idx_lt hi hk), rowTo_at hp hq]
  by_cases e : p * c + q = i * c + k
  · obtain ⟨rfl, rfl⟩ := idx_inj hq hk e
    rw [if_pos (by omega), if_pos (by omega)]
  · have ne : ¬ (p = i ∧ q = k) := by rintro ⟨rfl, rfl⟩; exact e rfl
    rw [if_neg (by omega)]
    by_cases h : p = i ∧ q < k
    · rw [if_pos h, if_pos (by omega)]
    · rw [if_neg h, if_neg (by omega)]
theorem rowTo_all {r c i : Nat} {v : Nat → Int} {xs : List Int} : rowTo r c i v xs c = rowL r c i v xs := by
  refine tab_ext (rowTo_length _ _ _ _ _ _) fun p q hp hq => ?_
  rw [rowTo_at hp hq]
  by_cases h : p = i
  · rw [if_pos ⟨h, hq⟩, if_pos h]
  · rw [if_neg (fun h1 => h h1.1), if_neg h]
theorem rowL_length (r c i : Nat) (v : Nat → Int) (xs : List Int) : (rowL r c i v xs).length = r * c := tab_length _ _ _
theorem rowL_own {r c i q : Nat} {v : Nat → Int} {xs : List Int} (hi : i < r) (hq : q < c) : mxC c (rowL r c i v xs) i q = v q := by unfold rowL; rw [mxC_tab hi hq, if_pos rfl]
theorem rowL_oth {r c i p q : Nat} {v : Nat → Int} {xs : List Int} (hp : p < r) (hq : q < c) (h : p ≠ i) : mxC c (rowL r c i v xs) p q = mxC c xs p q := by unfold rowL; rw [mxC_tab hp hq, if_neg h]
theorem rowL_congr {r c i : Nat} {u v : Nat → Int} {xs : List Int} (h : ∀ q, q < c → u q = v q) : rowL r c i u xs = rowL r c i v xs := by
  refine tab_ext (rowL_length _ _ _ _ _) fun p q hp hq => ?_
  by_cases e : p = i
  · subst e; rw [if_pos rfl]; exact (rowL_own hp hq).trans (h q hq)
  · rw [if_neg e]; exact rowL_oth hp hq e
theorem rowL_self {r c i : Nat} {v : Nat → Int} {xs : List Int} (hx : xs.length = r * c) (h : i < r → ∀ q, q < c → v q = mxC c xs i q) : rowL r c i v xs = xs := by
  refine (tab_ext hx fun p q hp hq => ?_).symm
  by_cases e : p = i
  · subst e; rw [if_pos rfl, h hp q hq]; rfl
  · rw [if_neg e]; rfl
theorem rowL_twice {r c i : Nat} {u v : Nat → Int} {xs : List Int} : rowL r c i u (rowL r c i v xs) = rowL r c i u xs := by
  refine tab_ext (rowL_length _ _ _ _ _) fun p q hp hq => ?_
  by_cases e : p = i
  · subst e; rw [if_pos rfl]; exact rowL_own hp hq
  · rw [if_neg e]; exact (rowL_oth hp hq e).trans (rowL_oth hp hq e)
theorem prL_row (r c i : Nat) (xs : List Int) : prL r c i xs = rowL r c i (prV c (mxC c xs i)) xs := rfl
theorem rdL_row (r c t j i : Nat) (xs : List Int) : rdL r c t j i xs = rowL r c i (prV c (rdV j (mxC c xs i) (mxC c xs t))) xs := rfl
/-- A row reduced, then made primitive. -/
theorem rdL_prim {r c t j i : Nat} {xs : List Int} (hi : i < r) : prL r c i (rowL r c i (rdV j (mxC c xs i) (mxC c xs t)) xs) = rdL r c t j i xs := by
  rw [prL_row, rdL_row, rowL_twice]
  exact rowL_congr fun q hq => prV_congr (fun k hk => rowL_own hi hk) q hq
theorem prTo_zero {r c : Nat} {xs : List Int} (hx : xs.length = r * c) : prTo r c 0 xs = xs := by
  refine (tab_ext hx fun p q _ _ => ?_).symm
  rw [if_neg (by omega)]; rfl
theorem prTo_length (r c i : Nat) (xs : List Int) : (prTo r c i xs).length = r * c := tab_length _ _ _
theorem prTo_step {r c i : Nat} {xs : List Int} (hi : i < r) : prL r c i (prTo r c i xs) = prTo r c (i + 1) xs := by
  have at_ : ∀ {p q k : Nat}, p < r → q < c → mxC c (prTo r c k xs) p q = if p < k then prV c (mxC c xs p) q else mxC c xs p q := fun hp hq => mxC_tab hp hq
  refine tab_ext (tab_length _ _ _) fun p q hp hq => ?_
  by_cases e : p = i
  · subst e
    rw [if_pos (by omega)]
    refine (rowL_own hp hq).trans (prV_congr (fun k hk => ?_) q hq)
    rw [at_ hp hk, if_neg (by omega)]
  · refine (rowL_oth hp hq e).trans ?_
    rw [at_ hp hq]
    by_cases h : p < i
    · rw [if_pos h, if_pos (by omega)]
    · rw [if_neg h, if_neg (by omega)]
theorem prTo_nums {r c i : Nat} {xs : List Int} (hx : xs.length = r * c) (hn : nums xs = true) : nums (prTo r c i xs) = true := tab_nums fun p q hp hq => by
  by_cases h : p < i
  · rw [if_pos h]; exact prV_num (fun k hk => mx_nums hx hn hp hk) hq
  · rw [if_neg h]; exact mx_nums hx hn hp hq
theorem rowL_nums {r c i : Nat} {v : Nat → Int} {xs : List Int} (hx : xs.length = r * c) (hn : nums xs = true) (hv : ∀ q, q < c → NumP (v q)) : nums (rowL r c i v xs) = true := tab_nums fun p q hp hq => by
  by_cases h : p = i
  · rw [if_pos h]; exact hv q hq
  · rw [if_neg h]; exact mx_nums hx hn hp hq
theorem rowN_iff {c : Nat} {v : Nat → Int} : rowN c v = true ↔ ∀ q, q < c → NumP (v q) := by
  unfold rowN
  constructor
  · intro h q hq
    have := nums_at h (j := q) (by simpa using hq)
    simpa [List.getD, hq] using this
  · intro h
    refine nums_true fun q hq => ?_
    have hq' : q < c := by simpa using hq
    simpa [List.getD, hq'] using h q hq'
theorem elimR_skip {r c t j k i : Nat} {xs : List Int} (h : i = t ∨ mxC c xs i j = 0) : elimR r c t j (k + 1) i xs = elimR r c t j k (i + 1) xs := if_pos h
theorem elimR_on {r c t j k i : Nat} {xs : List Int} (h : ¬ (i = t ∨ mxC c xs i j = 0)) (h2 : rowN c (rdV j (mxC c xs i) (mxC c xs t)) = true) : elimR r c t j (k + 1) i xs = elimR r c t j k (i + 1) (rdL r c t j i xs) := by
  show (if i = t ∨ mxC c xs i j = 0 then _ else if rowN c _ = true then _ else _) = _
  rw [if_neg h, if_pos h2]
theorem elimR_bad {r c t j k i : Nat} {xs : List Int} (h : ¬ (i = t ∨ mxC c xs i j = 0)) (h2 : rowN c (rdV j (mxC c xs i) (mxC c xs t)) ≠ true) : elimR r c t j (k + 1) i xs = none := by
  show (if i = t ∨ mxC c xs i j = 0 then _ else if rowN c _ = true then _ else _) = _
  rw [if_neg h, if_neg h2]
theorem echC_end {r c k j : Nat} {xs : List Int} {pv : List Nat} (h : ¬ pv.length < r) : echC r c k j xs pv = some (xs, pv) := by
  cases k with
  | zero => rfl
  | succ k =>
    show (if pv.length < r then _ else some (xs, pv)) = _
    rw [if_neg h]
theorem echC_skip {r c k j : Nat} {xs : List Int} {pv : List Nat} (h : pv.length < r) (hf : fstR c j xs (r - pv.length) pv.length = r) : echC r c (k + 1) j xs pv = echC r c k (j + 1) xs pv := by
  show (if pv.length < r then if fstR c j xs (r - pv.length) pv.length = r then _ else _ else _) = _
  rw [if_pos h, if_pos hf]
theorem echC_none {r c k j p : Nat} {xs : List Int} {pv : List Nat} (h : pv.length < r) (hf : fstR c j xs (r - pv.length) pv.length = p) (hp : p ≠ r) (he : elimR r c pv.length j r 0 (swC p pv.length c xs) = none) : echC r c (k + 1) j xs pv = none := by
  show (if pv.length < r then if fstR c j xs (r - pv.length) pv.length = r then _ else match elimR r c pv.length j r 0 (swC (fstR c j xs (r - pv.length) pv.length) pv.length c xs) with | none => none | some ys => echC r c k (j + 1) ys (pv ++ [j]) else _) = _
  rw [if_pos h, hf, if_neg hp, he]
theorem echC_on {r c k j p : Nat} {xs ys : List Int} {pv : List Nat} (h : pv.length < r) (hf : fstR c j xs (r - pv.length) pv.length = p) (hp : p ≠ r) (he : elimR r c pv.length j r 0 (swC p pv.length c xs) = some ys) : echC r c (k + 1) j xs pv = echC r c k (j + 1) ys (pv ++ [j]) := by
  show (if pv.length < r then if fstR c j xs (r - pv.length) pv.length = r then _ else match elimR r c pv.length j r 0 (swC (fstR c j xs (r - pv.length) pv.length) pv.length c xs) with | none => none | some ys => echC r c k (j + 1) ys (pv ++ [j]) else _) = _
  rw [if_pos h, hf, if_neg hp, he]
theorem rdL_nums {r c t j i : Nat} {xs : List Int} (hx : xs.length = r * c) (hn : nums xs = true) (h2 : rowN c (rdV j (mxC c xs i) (mxC c xs t)) = true) : nums (rdL r c t j i xs) = true := rowL_nums hx hn fun _ hq => prV_num (rowN_iff.mp h2) hq
theorem rdL_length (r c t j i : Nat) (xs : List Int) : (rdL r c t j i xs).length = r * c := tab_length _ _ _
end Go.Proofs.Ytbdofgkcedpamaa
end

section
/-
  Chapter 1, in the model: GcdOf.
-/
namespace Go.Proofs.Ytbdofgkcedpamaa
open Go.RowKit

set_option maxHeartbeats 400000 in
theorem sGcd (a b : Int) (w : World) (ha : -400000000 ≤ a ∧ a ≤ 400000000) (hb : -400000000 ≤ b ∧ b ≤ 400000000) :
    Calls Try.prog 57 #[.int .i64 a, .int .i64 b] w fun e w' => e = .returned (.int .i64 (Int.gcd a b : Int)) ∧ ∃ n, w' = w.drewN n := by
  obtain ⟨ha1, ha2⟩ := ha
  obtain ⟨hb1, hb2⟩ := hb
  go_enter Try.func57, Try.ntmps57
  go_wp2_with (go_at_call 85; refine (sIsNum_t _ _ (by omega) (by omega)).mono ?_; rintro e w' ⟨rfl, rfl⟩)
  go_loopw [0, 1] (fun x y wr => ∃ p q : Int, x = .int .i64 p ∧ y = .int .i64 q ∧ -400000000 ≤ p ∧ p ≤ 400000000 ∧ -400000000 ≤ q ∧ q ≤ 400000000 ∧ Int.gcd p q = Int.gcd a b ∧ ∃ n, wr = w.drewN n) (fun _ y _ => (intOf y).natAbs)
  case atStart => exact ⟨a, b, rfl, rfl, ha1, ha2, hb1, hb2, rfl, 0, rfl⟩
  case round =>
    obtain ⟨p, q, rfl, rfl, p1, p2, q1, q2, hg, n, rfl⟩ := hrel
    have HG := Lib.hid hg
    clear hg
    by_cases hq : q = 0
    · subst hq
      go_wp2
      all_goals
        go_ret
        exact ⟨by rw [← HG.out, Int.gcd_zero_right]; exact ret_int (by omega), n, rfl⟩
    · have t1 := tmod_small p q hq
      have t2 := gcd_round p q
      have b1 : -400000000 ≤ p.tmod q := by omega
      have b2 : p.tmod q ≤ 400000000 := by omega
      have T1 := Lib.hid t1
      have T2 := Lib.hid t2
      clear t1 t2
      have hq' : (q == 0) = false := by simpa using hq
      go_wp2
      go_quiet (fail)
      go_wp2
      go_roundw
      case rel => exact ⟨q, p.tmod q, rfl, rfl, q1, q2, b1, b2, T2.out.trans HG.out, _, by rw [World.drewN_drewN]⟩
      case measure => simpa [intOf] using T1.out
theorem sGcd_f (a b : Int) (w : World) (h : ¬ ((-400000000 ≤ a ∧ a ≤ 400000000) ∧ (-400000000 ≤ b ∧ b ≤ 400000000))) :
    Calls Try.prog 57 #[.int .i64 a, .int .i64 b] w fun e w' => e = .returned (.int .i64 0) ∧ w = w' := by
  by_cases ha : -400000000 ≤ a ∧ a ≤ 400000000
  · have hb : b < -400000000 ∨ 400000000 < b := by omega
    clear h
    go_enter Try.func57, Try.ntmps57
    go_wp2_with fail
    refine (sIsNum_t _ _ ha.1 ha.2).mono ?_
    rintro e w' ⟨rfl, rfl⟩
    go_wp2_with fail
    refine (sIsNum_f _ _ hb).mono ?_
    rintro e w' ⟨rfl, rfl⟩
    go_wp2_with fail
    go_ret
    exact ⟨rfl, rfl⟩
  · have ha' : a < -400000000 ∨ 400000000 < a := by omega
    clear h ha
    go_enter Try.func57, Try.ntmps57
    go_wp2_with fail
    refine (sIsNum_f _ _ ha').mono ?_
    rintro e w' ⟨rfl, rfl⟩
    go_wp2_with fail
    go_ret
    exact ⟨rfl, rfl⟩

end Go.Proofs.Ytbdofgkcedpamaa
end

section
/-
  Chapter 7, in the model: a row made primitive.
-/
namespace Go.Proofs.Ytbdofgkcedpamaa
set_option maxRecDepth 100000
open Go.RowKit

/-- The worlds of the walk: the argument's block, the row's block, nothing else is touched. -/
structure PrSt (w : World) (r c : Nat) (g N cap : Nat) (ys : List Int) (wr : World) : Prop where
  blk : Blk3 wr w.heap.size 26 (.int .i64 r) (.int .i64 c) (.slice (some ⟨g, 0, none⟩) N cap)
  ints : Ints wr g ys
  grw : w.grownBy wr (some g)
theorem PrSt.put {w : World} {r c g N cap : Nat} {ys : List Int} {wr : World} (h : PrSt w r c g N cap ys wr) (hne : w.heap.size ≠ g) (P : Nat) (z : Int) : PrSt w r c g N cap (ys.set P z) (wr.setCell ⟨g, P, none⟩ (.int .i64 z)) := ⟨h.blk.far hne _, h.ints.set P z, grown_set_one h.grw rfl _⟩
theorem PrSt.drewN {w : World} {r c g N cap : Nat} {ys : List Int} {wr : World} (h : PrSt w r c g N cap ys wr) (n : Nat) : PrSt w r c g N cap ys (wr.drewN n) := ⟨h.blk.drewN n, h.ints.drewN n, grown_drewN_one h.grw n⟩
theorem prV_one {c : Nat} {v : Nat → Int} {k : Nat} (h : gcdN c v ≠ 0) : prV c v k = (sgnN c v * v k).tdiv (gcdN c v) := if_neg h
theorem prV_nil {c : Nat} {v : Nat → Int} {k : Nat} (h : gcdN c v = 0) : prV c v k = v k := if_pos h
theorem sgn_step {n : Nat} {f : Nat → Int} : sgnN (n + 1) f = if sgnN n f = 0 ∧ f n ≠ 0 then (if f n < 0 then -1 else 1) else sgnN n f := rfl
set_option maxHeartbeats 2000000 in
theorem sPrim (r c i N g cap : Nat) (xs : List Int) (w : World) (hN : N = r * c) (hx : xs.length = N) (hr : r ≤ 24) (hc : c ≤ 24) (hi : i < r) (nx : nums xs = true) (hg : Ints w g xs) :
    Calls Try.prog 86 #[.agg #[.int .i64 r, .int .i64 c, .slice (some ⟨g, 0, none⟩) N cap], .int .i64 i] w (fun e w' => Void e ∧ Ints w' g (prL r c i xs) ∧ w.grownBy w' (some g)) := by
  have hle : r * c ≤ 24 * 24 := Nat.mul_le_mul hr hc
  rw [← hN] at hle
  have HN := Lib.hid hN
  have HX := Lib.hid hx
  have NX := Lib.hid nx
  have lg := hg.lt
  have ST : Hid (PrSt w r c g N cap xs (w.alloc (.cells #[.int .i64 r, .int .i64 c, .slice (some ⟨g, 0, none⟩) N cap] 26))) := ⟨Blk3.at_ _ _ _ _ rfl, hg.old _, World.grownBy_alloc _ _ _⟩
  have IX : Hid (∀ j, j < c → ∃ P : Nat, i * c + j = P ∧ P < N ∧ IntKind.i64.wrap ((i : Int) * (c : Int)) = (i : Int) * (c : Int) ∧ IntKind.i64.wrap ((i : Int) * (c : Int) + (j : Int)) = (P : Int)) := fun j hj => by
    have h1 : i * c + j < r * c := idx_lt hi hj
    have c1 : (i : Int) * (c : Int) = ((i * c : Nat) : Int) := (Int.natCast_mul _ _).symm
    refine ⟨i * c + j, rfl, by omega, IntWalk.i64_in _ (by rw [c1]; omega), ?_⟩
    rw [show (i : Int) * (c : Int) + (j : Int) = ((i * c + j : Nat) : Int) by rw [c1]; omega]
    exact IntWalk.i64_in _ (by omega)
  obtain ⟨v, hv⟩ : ∃ v, mxC c xs i = v := ⟨_, rfl⟩
  have VN : Hid (∀ j, j < c → NumP (v j)) := fun j hj => by rw [← hv]; exact mx_nums (by rw [hx, hN]) nx hi hj
  have VX : Hid (∀ j P, i * c + j = P → xs.getD P 0 = v j) := fun j P h => by rw [← hv, ← h]; rfl
  have PV : Hid (prL r c i xs = rowTo r c i (prV c v) xs c) := by show _ = _; rw [rowTo_all, prL_row, hv]
  have RZ : Hid (rowTo r c i (prV c v) xs 0 = xs) := rowTo_zero (by rw [hx, hN])
  have PZ : Hid (∀ j, gcdN c v = 0 → rowTo r c i (prV c v) xs j = xs) := fun j h => by
    refine (tab_ext (by rw [hx, hN]) fun p q hp hq => ?_).symm
    by_cases e : p = i ∧ q < j
    · obtain ⟨rfl, hqj⟩ := e
      rw [if_pos ⟨rfl, hqj⟩, prV_nil h, ← hv]; rfl
    · rw [if_neg e]; rfl
  have UN : Hid (∀ j, j < c → NumP (prV c v j)) := fun j hj => prV_num (fun k hk => VN.out k hk) hj
  clear hN hx nx hg hv
  go_enter Try.func86, Try.ntmps86
  go_wp2_with fail
  generalize w.alloc (.cells #[.int .i64 r, .int .i64 c, .slice (some ⟨g, 0, none⟩) N cap] 26) = W at ST ⊢
  go_loopw [4, 5, 6, 7] (fun v4 v5 v6 _ wr => ∃ j : Nat, v6 = .int .i64 j ∧ j ≤ c ∧ v4 = .int .i64 (gcdN j v) ∧ v5 = .int .i64 (sgnN j v) ∧ PrSt w r c g N cap xs wr) (fun _ _ v6 _ _ => c - (intOf v6).toNat)
  case atStart => exact ⟨0, rfl, by omega, rfl, rfl, ST.out⟩
  case round =>
    clear ST
    obtain ⟨j, rfl, hj, rfl, rfl, hst⟩ := hrel
    have ST := Lib.hid hst
    clear hst
    obtain ⟨p0, p1, p2, -, -, -⟩ := ST.out.blk.all
    by_cases hlt : j < c
    · obtain ⟨P, hP, hPN, u1, u2⟩ := IX.out j hlt
      have P0 : (0 : Int) ≤ (P : Int) := by omega
      have P1 : (P : Int) < (N : Int) := by omega
      have hcell := ST.out.ints.cell (i := P) (by rw [HX.out]; exact hPN)
      rw [VX.out j P hP] at hcell
      have hb := VN.out j hlt
      have hgb := gcdN_num (n := j) (f := v) (fun k hk => VN.out k (by omega))
      have GS : Hid (gcdN (j + 1) v = ((gcdN j v).gcd (v j) : Int)) := rfl
      have SS := Lib.hid (sgn_step (n := j) (f := v))
      generalize hs0 : sgnN j v = s at SS
      generalize gcdN j v = gg at hgb GS
      obtain ⟨x, hx⟩ : ∃ x, v j = x := ⟨_, rfl⟩
      rw [hx] at hcell hb GS SS
      unfold NumP at hb hgb
      have GC : Hid (∀ w', Calls Try.prog 57 #[.int .i64 gg, .int .i64 x] w' fun e w2 => e = .returned (.int .i64 (gg.gcd x : Int)) ∧ ∃ n, w2 = w'.drewN n) := fun w' => sGcd gg x w' hgb hb
      clear hP hx hs0
      by_cases h1 : s = 0 ∧ x ≠ 0
      · obtain ⟨rfl, hx0⟩ := h1
        have n1 : (x != 0) = true := by simpa using hx0
        have n2 : (x == 0) = false := by simpa using hx0
        rw [if_pos ⟨rfl, hx0⟩] at SS
        rcases Int.lt_or_lt_of_ne hx0 with hneg | hpos
        · obtain ⟨y, rfl⟩ : ∃ y, x = -y := ⟨-x, by omega⟩
          rw [if_pos hneg] at SS
          have q1 : Int.tdiv (-y) y = -1 := by rw [Int.neg_tdiv, Int.tdiv_self (by omega)]
          have q2 : (y == 0) = false := by simp; omega
          have q3 : IntKind.i64.wrap (-1) = -1 := by decide
          have q4 : ¬ y = 0 := by omega
          clear hx0
          go_wp2_with fail
          refine (sAbs_n y _ (by omega) (by omega)).mono ?_
          rintro e w2 ⟨rfl, rfl⟩
          go_wp2_with fail
          refine (GC.out _).mono ?_
          rintro e w2 ⟨rfl, nq, rfl⟩
          go_wp2_with fail
          go_roundw
          case rel => exact ⟨j + 1, by go_num, by omega, by first | (rw [GS.out]; done) | (rw [GS.out]; simp), by rw [SS.out], by first | exact ST.out.drewN nq | exact (ST.out.drewN 1).drewN nq⟩
          case measure => simp [intOf]; omega
        · rw [if_neg (by omega)] at SS
          have q1 : Int.tdiv x x = 1 := Int.tdiv_self (by omega)
          have q3 : IntKind.i64.wrap 1 = 1 := by decide
          have q4 : ¬ x = 0 := by omega
          clear hx0
          go_wp2_with fail
          refine (sAbs_p x _ (by omega) (by omega)).mono ?_
          rintro e w2 ⟨rfl, rfl⟩
          go_wp2_with fail
          refine (GC.out _).mono ?_
          rintro e w2 ⟨rfl, nq, rfl⟩
          go_wp2_with fail
          go_roundw
          case rel => exact ⟨j + 1, by go_num, by omega, by first | (rw [GS.out]; done) | (rw [GS.out]; simp), by rw [SS.out], by first | exact ST.out.drewN nq | exact (ST.out.drewN 1).drewN nq⟩
          case measure => simp [intOf]; omega
      · rw [if_neg h1] at SS
        rcases Bool.eq_false_or_eq_true (s == 0) with n1 | n1
        · have hs : s = 0 := by simpa using n1
          have hx0 : x = 0 := Classical.byContradiction fun h2 => h1 ⟨hs, h2⟩
          have n2 : (x != 0) = false := by simp [hx0]
          have n3 : (x == 0) = true := by simp [hx0]
          clear hs hx0 h1
          go_wp2_with fail
          refine (GC.out _).mono ?_
          rintro e w2 ⟨rfl, nq, rfl⟩
          go_wp2_with fail
          go_roundw
          case rel => exact ⟨j + 1, by go_num, by omega, by first | (rw [GS.out]; done) | (rw [GS.out]; simp), by rw [SS.out], by first | exact ST.out.drewN nq | exact (ST.out.drewN 1).drewN nq⟩
          case measure => simp [intOf]; omega
        · clear h1
          go_wp2_with fail
          refine (GC.out _).mono ?_
          rintro e w2 ⟨rfl, nq, rfl⟩
          go_wp2_with fail
          go_roundw
          case rel => exact ⟨j + 1, by go_num, by omega, by first | (rw [GS.out]; done) | (rw [GS.out]; simp), by rw [SS.out], by first | exact ST.out.drewN nq | exact (ST.out.drewN 1).drewN nq⟩
          case measure => simp [intOf]; omega
    · obtain rfl : c = j := by omega
      clear hlt
      have SG := sgnN_or c v
      have GB := gcdN_num (n := c) (f := v) (fun k hk => VN.out k hk)
      have G0 := gcdN_nonneg c v
      have PO : Hid (∀ k, gcdN c v ≠ 0 → prV c v k = (sgnN c v * v k).tdiv (gcdN c v)) := fun k h => prV_one h
      have RT : Hid (∀ k, k < c → (rowTo r c i (prV c v) xs k).set (i * c + k) (prV c v k) = rowTo r c i (prV c v) xs (k + 1)) := fun k hk => rowTo_step hi hk
      have RX : Hid (∀ k, k < c → (rowTo r c i (prV c v) xs k).getD (i * c + k) 0 = xs.getD (i * c + k) 0) := fun k hk => rowTo_old hi hk (.inr (Nat.le_refl _))
      have RL : Hid (∀ k, (rowTo r c i (prV c v) xs k).length = N) := fun k => by rw [rowTo_length, HN.out]
      rw [← RZ.out] at ST
      have SX : Hid (xs = rowTo r c i (prV c v) xs 0) := RZ.out.symm
      generalize prV c v = u at PO PV RZ PZ UN RT RX RL ST SX
      generalize sgnN c v = sg at SG PO ⊢
      generalize gcdN c v = gg at GB G0 PO PZ ⊢
      unfold NumP at GB
      obtain ⟨gb1, gb2⟩ := GB
      go_wp2_with fail
      clear p0 p1 p2
      go_loopw [8] (fun v8 wr => ∃ j : Nat, v8 = .int .i64 j ∧ j ≤ c ∧ PrSt w r c g N cap (rowTo r c i u xs j) wr) (fun v8 _ => c - (intOf v8).toNat)
      case atStart => exact ⟨0, rfl, by omega, ST.out⟩
      case round =>
        clear ST
        obtain ⟨j, rfl, hj, hst⟩ := hrel
        have ST := Lib.hid hst
        clear hst
        obtain ⟨p0, p1, p2, -, -, -⟩ := ST.out.blk.all
        by_cases hlt : j < c
        · by_cases hg0 : 0 < gg
          · obtain ⟨P, hP, hPN, u1, u2⟩ := IX.out j hlt
            have P0 : (0 : Int) ≤ (P : Int) := by omega
            have P1 : (P : Int) < (N : Int) := by omega
            have hcell := ST.out.ints.cell (i := P) (by rw [RL.out]; exact hPN)
            have hfr := ST.out.ints.free P
            rw [← hP, RX.out j hlt, VX.out j _ rfl, hP] at hcell
            have hb := VN.out j hlt
            have ho := UN.out j hlt
            rw [PO.out j (by omega)] at ho
            have RS := Lib.hid (RT.out j hlt)
            rw [PO.out j (by omega), hP] at RS
            obtain ⟨x, hx⟩ : ∃ x, v j = x := ⟨_, rfl⟩
            rw [hx] at hcell hb ho RS
            have hy : NumP (sg * x) := by
              unfold NumP at hb ⊢
              rcases SG with rfl | rfl | rfl <;> omega
            unfold NumP at hb hy ho
            have z1 : IntKind.i64.wrap (sg * x) = sg * x := IntWalk.i64_in _ (by omega)
            have z2 : IntKind.i64.wrap ((sg * x).tdiv gg) = (sg * x).tdiv gg := IntWalk.i64_in _ (by omega)
            have z3 : (gg == 0) = false := by simp; omega
            have z4 : ¬ gg = 0 := by omega
            clear hx hP
            go_wp2_with fail
            go_still_tail 23, (by kernel_rfl)
            go_wp2_with fail
            go_roundw
            case rel =>
              refine ⟨j + 1, by go_num, by omega, ?_⟩
              rw [← RS.out]
              first | exact ST.out.put (by omega) P _ | exact (ST.out.drewN 1).put (by omega) P _
            case measure => simp [intOf]; omega
          · have hg1 : gg = 0 := by omega
            have EQ : Hid (prL r c i xs = rowTo r c i u xs j) := by show _ = _; rw [PV.out, PZ.out c hg1, PZ.out j hg1]
            go_wp2_with fail
            go_end0
            exact ⟨rfl, by rw [EQ.out]; exact ST.out.ints, ST.out.grw⟩
        · obtain rfl : c = j := by omega
          clear hlt
          go_wp2_with fail
          go_end0
          exact ⟨rfl, by rw [PV.out]; exact ST.out.ints, ST.out.grw⟩
end Go.Proofs.Ytbdofgkcedpamaa
end

section
/-
  A row of ints of a call's own, that append may go on with.
-/
namespace Go.Proofs.Ytbdofgkcedpamaa
open Go.RowKit

def OwnQ (B : Nat) (w : World) (v : Value) (zs : List Int) : Prop := w.ownsRow B 3 1 v zs.length (zs.map (Value.int .i64))
theorem OwnQ.le {B : Nat} {w : World} {v : Value} {zs : List Int} (h : OwnQ B w v zs) {k : Nat} (hk : v.ownBlock = some k) : B ≤ k := by
  rcases h.2 with ⟨rfl, -⟩ | ⟨g, cap, cur, rfl, hB, -⟩
  · cases hk
  · simp [Value.ownBlock] at hk; omega
theorem OwnQ.move {B : Nat} {w w' : World} {v : Value} {zs : List Int} (h : OwnQ B w v zs) (hb : ∀ k, v.ownBlock = some k → w'.heap[k]? = w.heap[k]?) : OwnQ B w' v zs := by
  obtain ⟨h1, ⟨h2, h3⟩ | ⟨g, cap, cur, rfl, hB, hg, rest⟩⟩ := h
  · exact ⟨h1, .inl ⟨h2, h3⟩⟩
  · exact ⟨h1, .inr ⟨g, cap, cur, rfl, hB, (hb g rfl).trans hg, rest⟩⟩
theorem OwnQ.lt {B : Nat} {w : World} {v : Value} {zs : List Int} (h : OwnQ B w v zs) {k : Nat} (hk : v.ownBlock = some k) : k < w.heap.size := by
  rcases h.2 with ⟨rfl, -⟩ | ⟨g, cap, cur, rfl, hB, hg, -⟩
  · cases hk
  · simp only [Value.ownBlock, Option.some.injEq] at hk
    subst hk
    exact lt_of_block hg
theorem OwnQ.one {B rb : Nat} {w w' : World} {v : Value} {zs : List Int} (h : OwnQ B w v zs) (hg : w.grownBy w' (some rb)) (hr : rb < B) : OwnQ B w' v zs :=
  h.move fun k hk => hg.block k (h.lt hk) (by have := h.le hk; simp; omega)
theorem OwnQ.drewN {B : Nat} {w : World} {v : Value} {zs : List Int} (h : OwnQ B w v zs) (n : Nat) : OwnQ B (w.drewN n) v zs := h
theorem OwnQ.keep {B : Nat} {w w' : World} {v : Value} {zs : List Int} (h : OwnQ B w v zs) (hb : Below w.heap.size w w') : OwnQ B w' v zs := h.move fun k hk => hb.block k (h.lt hk)
theorem OwnQ.lower {B B' : Nat} {w : World} {v : Value} {zs : List Int} (h : OwnQ B w v zs) (hB : B' ≤ B) : OwnQ B' w v zs := by
  obtain ⟨h1, h2 | ⟨g, cap, cur, e, hg, rest⟩⟩ := h
  · exact ⟨h1, .inl h2⟩
  · exact ⟨h1, .inr ⟨g, cap, cur, e, by omega, rest⟩⟩
theorem OwnQ.form {B : Nat} {w : World} {v : Value} {zs : List Int} (h : OwnQ B w v zs) : ∃ a c, v = .slice a zs.length c := by
  obtain ⟨h1, ⟨h2, h3⟩ | ⟨g, cap, cur, e, hB, hg, rest⟩⟩ := h
  · exact ⟨_, _, by rw [h2, h3]⟩
  · exact ⟨_, _, e⟩
theorem OwnQ.own {B : Nat} {w : World} {v : Value} {zs : List Int} (h : OwnQ B w v zs) (hn : zs.length ≤ 16777216) : Own B w v zs := Own.of_row h hn
theorem OwnQ.nil (B : Nat) (w : World) : OwnQ B w (.slice none 0 0) [] := ⟨rfl, .inl ⟨rfl, rfl⟩⟩
theorem OwnQ.none_ {B : Nat} {w : World} {g : Nat} (hB : B ≤ g) (h : IntsC w g 0 []) : OwnQ B w (.slice (some ⟨g, 0, none⟩) 0 0) [] := h.row hB
end Go.Proofs.Ytbdofgkcedpamaa
end

section
/-
  Plain mathematics of chapter 7: the rank of a matrix turned over; products. Nothing of a program is used.
-/
namespace Go.Proofs.Ytbdofgkcedpamaa

theorem sumN_skip (n a : Nat) (ha : a < n + 1) (f : Nat → Int) : sumN (n + 1) f = f a + sumN n fun i => f (skp a i) := by
  induction n generalizing a with
  | zero =>
    obtain rfl : a = 0 := by omega
    show sumN 0 f + f 0 = _
    simp [sumN]
  | succ n ih =>
    rcases Nat.lt_or_ge a (n + 1) with h | h
    · have e := ih a h
      have e2 : skp a n = n + 1 := by unfold skp; rw [if_neg (by omega)]
      have : sumN (n + 1) (fun i => f (skp a i)) = sumN n (fun i => f (skp a i)) + f (skp a n) := rfl
      rw [this, e2]
      show sumN (n + 1) f + f (n + 1) = _
      rw [e, Int.add_assoc]
    · obtain rfl : a = n + 1 := by omega
      show sumN (n + 1) f + f (n + 1) = _
      rw [Int.add_comm]
      congr 1
      refine sumN_congr fun i hi => ?_
      unfold skp
      rw [if_pos (by omega)]
/-- More unknowns than equations: there is a solution that is not 0. -/
theorem ker_some : ∀ (t s : Nat) (C : Mx), t < s → ∃ l : Nat → Int, (∃ i, i < s ∧ l i ≠ 0) ∧ ∀ j, j < t → (sumN s fun i => l i * C i j) = 0 := by
  intro t
  induction t with
  | zero => intro s C hs; exact ⟨fun _ => 1, ⟨0, hs, by decide⟩, fun j hj => by omega⟩
  | succ t ih =>
    intro s C hs
    by_cases hz : ∀ i, i < s → C i t = 0
    · obtain ⟨l, hl, h0⟩ := ih s C (by omega)
      refine ⟨l, hl, fun j hj => ?_⟩
      rcases Nat.lt_or_ge j t with h | h
      · exact h0 j h
      · obtain rfl : j = t := by omega
        exact sumN_all_zero fun i hi => by rw [hz i hi, Int.mul_zero]
    · have : ∃ a, a < s ∧ C a t ≠ 0 := Classical.byContradiction fun hn => hz fun i hi => Classical.byContradiction fun h => hn ⟨i, hi, h⟩
      obtain ⟨a, ha, hat⟩ := this
      obtain ⟨s, rfl⟩ : ∃ m, s = m + 1 := ⟨s - 1, by omega⟩
      obtain ⟨l, ⟨b, hb, hlb⟩, h0⟩ := ih s (fun i j => C a t * C (skp a i) j - C (skp a i) t * C a j) (by omega)
      have hself : ∀ i, skp a i ≠ a := fun i => skp_ne a i
      let L : Nat → Int := fun i => if i = a then -(sumN s fun i => l i * C (skp a i) t) else C a t * l (unskp a i)
      have LA : L a = -(sumN s fun i => l i * C (skp a i) t) := if_pos rfl
      have LS : ∀ i, L (skp a i) = C a t * l i := fun i => by
        show (if skp a i = a then _ else _) = _
        rw [if_neg (hself i), unskp_skp]
      refine ⟨L, ⟨skp a b, skp_lt hb, by rw [LS]; exact Int.mul_ne_zero hat hlb⟩, fun j hj => ?_⟩
      rw [sumN_skip s a ha, LA, Int.neg_mul, sumN_mul]
      have e1 : (sumN s fun i => L (skp a i) * C (skp a i) j) = sumN s fun i => C a t * l i * C (skp a i) j := sumN_congr fun i _ => by rw [LS]
      rw [e1]
      rcases Nat.lt_or_ge j t with h | h
      · have := h0 j h
        have e2 : (sumN s fun i => C a t * l i * C (skp a i) j) = sumN s (fun i => l i * (C a t * C (skp a i) j - C (skp a i) t * C a j)) + sumN s (fun i => l i * C (skp a i) t * C a j) := by
          rw [← sumN_add]
          exact sumN_congr fun i _ => by grind
        rw [e2, this]
        omega
      · obtain rfl : j = t := by omega
        have e2 : (sumN s fun i => C a j * l i * C (skp a i) j) = sumN s (fun i => l i * C (skp a i) j * C a j) := sumN_congr fun i _ => by grind
        rw [e2]
        omega
/-- One divisor for all. -/
theorem one_den {r c s : Nat} {A B : Mx} (h : SubSp r s c A B) : ∃ (d : Int) (K : Mx), d ≠ 0 ∧ ∀ i j, i < r → j < c → d * A i j = sumN s fun k => K i k * B k j := by
  induction r with
  | zero => exact ⟨1, fun _ _ => 0, by decide, fun i j hi => by omega⟩
  | succ r ih =>
    obtain ⟨d, K, hd, hK⟩ := ih fun i hi => h i (by omega)
    obtain ⟨e, k, he, hk⟩ := h r (by omega)
    refine ⟨d * e, fun i j => if i = r then d * k j else e * K i j, Int.mul_ne_zero hd he, fun i j hi hj => ?_⟩
    by_cases hir : i = r
    · subst hir
      have e1 : (sumN s fun l => (if i = i then d * k l else e * K i l) * B l j) = sumN s fun l => d * (k l * B l j) := sumN_congr fun l _ => by rw [if_pos rfl, Int.mul_assoc]
      show _ = sumN s fun l => (if i = i then d * k l else e * K i l) * B l j
      rw [e1, ← sumN_mul_left, ← hk j hj, Int.mul_assoc]
    · have e1 : (sumN s fun l => (if i = r then d * k l else e * K i l) * B l j) = sumN s fun l => e * (K i l * B l j) := sumN_congr fun l _ => by rw [if_neg hir, Int.mul_assoc]
      show _ = sumN s fun l => (if i = r then d * k l else e * K i l) * B l j
      rw [e1, ← sumN_mul_left, ← hK i j (by omega) hj]
      grind
/-- An echelon form inside the span of t rows has at most t pivots. -/
theorem Ech.few {r c s : Nat} {B : Mx} {q : Nat → Nat} (h : Ech r c B q s) {t : Nat} {K : Mx} (hs : SubSp r t c B K) : s ≤ t := by
  refine Classical.byContradiction fun hn => ?_
  obtain ⟨d, C, hd, hC⟩ := one_den hs
  obtain ⟨l, ⟨i, hi, hli⟩, h0⟩ := ker_some t s C (by omega)
  have hr : s ≤ r := h.le
  have hz : ∀ j, j < c → (sumN s fun i => l i * (d * B i j)) = 0 := fun j hj => by
    have e : (sumN s fun i => l i * (d * B i j)) = sumN s fun i => sumN t fun k => l i * C i k * K k j := sumN_congr fun i hi => by
      rw [hC i j (by omega) hj, sumN_mul_left]
      exact sumN_congr fun k _ => by rw [Int.mul_assoc]
    rw [e, sumN_swap]
    refine sumN_all_zero fun k hk => ?_
    rw [← sumN_mul, h0 k hk, Int.zero_mul]
  have := hz (q i) (h.col i hi)
  rw [sumN_one hi (fun k hk hne => by rw [h.only i k hi (by omega) hne, Int.mul_zero, Int.mul_zero])] at this
  have hp := h.pos i hi
  rcases Int.mul_eq_zero.mp this with h1 | h1
  · exact hli h1
  · rcases Int.mul_eq_zero.mp h1 with h2 | h2
    · exact hd h2
    · omega
theorem rank_tr_le {r c t s : Nat} {M A B : Mx} {p q : Nat → Nat} (hA : Ech r c A p t) (hMA : SubSp r r c M A) (hB : Ech c r B q s) (hBM : SubSp c c r B (trX M)) : s ≤ t := by
  -- the rows of A behind the pivots' are 0
  have hMA' : SubSp r t c M A := fun i hi => by
    obtain ⟨d, k, hd, hk⟩ := hMA i hi
    refine ⟨d, k, hd, fun j hj => ?_⟩
    rw [hk j hj]
    obtain ⟨m, hm⟩ : ∃ m, r = t + m := ⟨r - t, by have := hA.le; omega⟩
    have key : ∀ m, t + m ≤ r → (sumN (t + m) fun i => k i * A i j) = sumN t fun i => k i * A i j := by
      intro m
      induction m with
      | zero => intro _; rfl
      | succ m ih =>
        intro h
        show sumN (t + m) _ + k (t + m) * A (t + m) j = _
        rw [ih (by omega), hA.rest (t + m) j (by omega) (by omega) hj, Int.mul_zero, Int.add_zero]
    rw [hm]
    exact key m (by omega)
  obtain ⟨d, K, hd, hK⟩ := one_den hMA'
  have hsub : SubSp c t r (trX M) (trX K) := fun j hj => ⟨d, fun k => A k j, hd, fun i hi => by
    show d * M i j = sumN t fun k => A k j * K i k
    rw [hK i j hi hj]
    exact sumN_congr fun k _ => Int.mul_comm _ _⟩
  exact hB.few (hBM.trans hsub)
/-- The rank of a matrix turned over is that of the matrix. -/
theorem rank_tr {r c t s : Nat} {M A B : Mx} {p q : Nat → Nat} (hA : Ech r c A p t) (hMA : SubSp r r c M A) (hAM : SubSp r r c A M) (hB : Ech c r B q s) (hBM : SubSp c c r B (trX M)) (hMB : SubSp c c r (trX M) B) : s = t := by
  have h1 := rank_tr_le hA hMA hB hBM
  have h2 := rank_tr_le (M := trX M) hB hMB hA hAM
  omega
/-- The rows of a product are in the span of the right factor's. -/
theorem sub_mul {n c : Nat} (U M : Mx) : SubSp n n c (mulX n U M) M := fun i _ => ⟨1, U i, by decide, fun j _ => by rw [Int.one_mul]; rfl⟩
theorem mul_sub {n c : Nat} {U M V : Mx} {d : Int} (hd : d ≠ 0) (h : ∀ i k, i < n → k < n → mulX n V U i k = if i = k then d else 0) : SubSp n n c M (mulX n U M) := fun i hi => by
  refine ⟨d, V i, hd, fun j hj => ?_⟩
  have e : (sumN n fun k => V i k * mulX n U M k j) = sumN n fun l => mulX n V U i l * M l j := by
    have e1 : (sumN n fun k => V i k * mulX n U M k j) = sumN n fun k => sumN n fun l => V i k * U k l * M l j := sumN_congr fun k _ => by
      show V i k * sumN n _ = _
      rw [sumN_mul_left]
      exact sumN_congr fun l _ => by rw [Int.mul_assoc]
    rw [e1, sumN_swap]
    refine sumN_congr fun l _ => ?_
    show _ = sumN n _ * M l j
    rw [sumN_mul]
  rw [e, sumN_one hi (fun l hl hne => by rw [h i l hi hl, if_neg (fun e => hne e.symm), Int.zero_mul]), h i i hi hi, if_pos rfl]
/-- A product with a factor whose determinant is not 0 spans what the other factor spans. -/
theorem span_mul {n c : Nat} {U M : Mx} (h : det n U ≠ 0) : SubSp n n c M (mulX n U M) := by
  cases n with
  | zero => intro i hi; omega
  | succ n => exact mul_sub h (fun i k hi hk => adj_mul n U i k hi hk)
/-- Two matrices, one on top of the other. -/
def stkX (r : Nat) (A B : Mx) : Mx := fun i j => if i < r then A i j else B (i - r) j
theorem stk_left {r s c : Nat} {A B : Mx} : SubSp r (r + s) c A (stkX r A B) := fun i hi => (InSp.row (A := stkX r A B) (show i < r + s by omega)).congr fun j _ => by show A i j = if i < r then _ else _; rw [if_pos hi]
theorem stk_right {r s c : Nat} {A B : Mx} : SubSp s (r + s) c B (stkX r A B) := fun i hi => (InSp.row (A := stkX r A B) (show r + i < r + s by omega)).congr fun j _ => by
  show B i j = if r + i < r then _ else B (r + i - r) j
  rw [if_neg (by omega), show r + i - r = i by omega]
theorem stk_sub {r s t c : Nat} {A B C : Mx} (h : SubSp r t c A C) (h' : SubSp s t c B C) : SubSp (r + s) t c (stkX r A B) C := fun i hi => by
  by_cases e : i < r
  · exact (h i e).congr fun j _ => by show (if i < r then _ else _) = _; rw [if_pos e]
  · exact (h' (i - r) (by omega)).congr fun j _ => by show (if i < r then _ else _) = _; rw [if_neg e]
end Go.Proofs.Ytbdofgkcedpamaa
end

section
/-
  Plain mathematics of chapter 7: what the laws ask of echelon forms. Nothing of a program is used.
-/
namespace Go.Proofs.Ytbdofgkcedpamaa

theorem elimR_fix {r c t j : Nat} {xs : List Int} : ∀ (k i : Nat), (∀ p, i ≤ p → p < i + k → p = t ∨ mxC c xs p j = 0) → elimR r c t j k i xs = some xs := by
  intro k
  induction k with
  | zero => intro i _; rfl
  | succ k ih =>
    intro i h
    show (if i = t ∨ mxC c xs i j = 0 then elimR r c t j k (i + 1) xs else _) = _
    rw [if_pos (h i (Nat.le_refl _) (by omega))]
    exact ih (i + 1) fun p h1 h2 => h p (by omega) (by omega)
theorem map_getD {t : Nat} {p : Nat → Nat} {i : Nat} (hi : i < t) : ((List.range t).map p).getD i 0 = p i := by simp [List.getD, hi]
theorem echC_fix {r c t : Nat} {xs : List Int} {p : Nat → Nat} (h : Ech r c (mxC c xs) p t) : ∀ (k j m : Nat), j + k = c → m ≤ t → (∀ i, i < m → p i < j) → (m < t → j ≤ p m) → echC r c k j xs ((List.range m).map p) = some (xs, (List.range t).map p) := by
  intro k
  induction k with
  | zero =>
    intro j m hjk hm _ h2
    have : m = t := by
      rcases Nat.lt_or_ge m t with h3 | h3
      · have := h2 h3; have := h.col m h3; omega
      · omega
    rw [this]; rfl
  | succ k ih =>
    intro j m hjk hm h1 h2
    have hl : ((List.range m).map p).length = m := by simp
    show (if ((List.range m).map p).length < r then
      if fstR c j xs (r - ((List.range m).map p).length) ((List.range m).map p).length = r then echC r c k (j + 1) xs ((List.range m).map p)
      else match elimR r c ((List.range m).map p).length j r 0 (swC (fstR c j xs (r - ((List.range m).map p).length) ((List.range m).map p).length) ((List.range m).map p).length c xs) with
        | none => none
        | some ys => echC r c k (j + 1) ys ((List.range m).map p ++ [j])
    else some (xs, (List.range m).map p)) = _
    rw [hl]
    have hle := h.le
    by_cases hmr : m < r
    · rw [if_pos hmr]
      by_cases hp : m < t ∧ p m = j
      · obtain ⟨hmt, hpm⟩ := hp
        have hpos := h.pos m hmt
        rw [hpm] at hpos
        have hf : fstR c j xs (r - m) m = m := fstR_eq (Nat.le_refl _) (by omega) (fun i h3 h4 => by omega) (fun _ => by omega)
        rw [hf, if_neg (by omega)]
        have hs : swC m m c xs = xs := by unfold swC; rw [if_pos rfl]
        have he : elimR r c m j r 0 xs = some xs := elimR_fix r 0 fun q _ hq => by
          by_cases e : q = m
          · exact .inl e
          · right
            have := h.only m q hmt (by omega) e
            rw [hpm] at this
            exact this
        rw [hs, he]
        show echC r c k (j + 1) xs ((List.range m).map p ++ [j]) = _
        have e : (List.range m).map p ++ [j] = (List.range (m + 1)).map p := by rw [List.range_succ, List.map_append, List.map_cons, List.map_nil, hpm]
        rw [e]
        refine ih (j + 1) (m + 1) (by omega) hmt (fun i hi => ?_) (fun h3 => ?_)
        · rcases Nat.lt_or_ge i m with h4 | h4
          · have := h1 i h4; omega
          · obtain rfl : i = m := by omega
            omega
        · have := h.inc m (m + 1) (by omega) h3
          omega
      · have hz : ∀ i, m ≤ i → i < r → mxC c xs i j = 0 := fun i h3 h4 => by
          rcases Nat.lt_or_ge i t with h5 | h5
          · have h6 : m < t := by omega
            have h7 := h2 h6
            have h8 : j < p m := by
              have : p m ≠ j := fun e => hp ⟨h6, e⟩
              omega
            rcases Nat.lt_or_ge m i with h9 | h9
            · have := h.inc m i h9 h5
              exact h.left i j h5 (by omega)
            · obtain rfl : i = m := by omega
              exact h.left i j h5 h8
          · exact h.rest i j h5 h4 (by omega)
        have hf : fstR c j xs (r - m) m = r := fstR_eq (by omega) (by omega) (fun i h3 h4 => hz i h3 h4) (fun h3 => by omega)
        rw [hf, if_pos rfl]
        refine ih (j + 1) m (by omega) hm (fun i hi => by have := h1 i hi; omega) (fun h3 => ?_)
        have h4 := h2 h3
        have : p m ≠ j := fun e => hp ⟨h3, e⟩
        omega
    · rw [if_neg hmr]
      have : m = t := by omega
      rw [this]
theorem prTo_fix {r c : Nat} {xs : List Int} (hx : xs.length = r * c) (hn : ∀ i, i < r → Norm c (mxC c xs i)) : prTo r c r xs = xs := by
  refine (tab_ext hx fun i j hi hj => ?_).symm
  rw [if_pos hi, prV_id (hn i hi) hj]
  rfl
theorem pv_map {pv : List Nat} : (List.range pv.length).map (fun k => pv.getD k 0) = pv := by
  refine List.ext_getElem (by simp) fun i h1 h2 => ?_
  simp [List.getD, h2]
/-- An echelon form stays us it is. -/
theorem echM_fix {r c : Nat} {xs ys : List Int} {pv : List Nat} (hx : xs.length = r * c) (hn : nums xs = true) (h : echM r c xs = some (ys, pv)) : echM r c ys = some (ys, pv) := by
  obtain ⟨he, -, -, hl, -, hm⟩ := echM_says hx hn h
  unfold echM
  rw [prTo_fix hl hm]
  have := echC_fix he c 0 0 (by omega) (Nat.zero_le _) (fun i hi => by omega) (fun _ => Nat.zero_le _)
  rw [pv_map] at this
  exact this
theorem mx_ext {r c : Nat} {xs ys : List Int} (hx : xs.length = r * c) (hy : ys.length = r * c) (h : ∀ i j, i < r → j < c → mxC c xs i j = mxC c ys i j) : xs = ys := by
  have e1 := tab_ext (r := r) (c := c) (f := mxC c ys) hx h
  have e2 := tab_ext (r := r) (c := c) (f := mxC c ys) hy (fun _ _ _ _ => rfl)
  rw [e1]; exact e2.symm
theorem ech_same {r c : Nat} {xs ys us vs : List Int} {p q : List Nat} (hx : xs.length = r * c) (hxn : nums xs = true) (hy : ys.length = r * c) (hyn : nums ys = true) (ha : echM r c xs = some (us, p)) (hb : echM r c ys = some (vs, q)) (h1 : SubSp r r c (mxC c xs) (mxC c ys)) (h2 : SubSp r r c (mxC c ys) (mxC c xs)) : us = vs ∧ p = q := by
  obtain ⟨ea, ta, fa, la, -, -⟩ := echM_says hx hxn ha
  obtain ⟨eb, tb, fb, lb, -, -⟩ := echM_says hy hyn hb
  obtain ⟨u1, u2, u3⟩ := ea.uniq eb (ta.trans (h1.trans fb)) (tb.trans (h2.trans fa))
  refine ⟨mx_ext la lb fun i j hi hj => ?_, List.ext_getElem u1 fun i h3 h4 => ?_⟩
  · rcases Nat.lt_or_ge i p.length with h | h
    · exact (u3 i j h hj).symm
    · rw [ea.rest i j h hi hj, eb.rest i j (by omega) hi hj]
  · have := u2 i h3
    simpa [List.getD, h3, h4] using this.symm
/-- The rank of a matrix turned over. -/
theorem ech_turn {r c : Nat} {xs ys us vs : List Int} {p q : List Nat} (hx : xs.length = r * c) (hxn : nums xs = true) (hy : ys.length = c * r) (hyn : nums ys = true) (ht : ∀ i j, i < c → j < r → mxC r ys i j = mxC c xs j i) (ha : echM r c xs = some (us, p)) (hb : echM c r ys = some (vs, q)) : q.length = p.length := by
  obtain ⟨ea, ta, fa, -, -, -⟩ := echM_says hx hxn ha
  obtain ⟨eb, tb, fb, -, -, -⟩ := echM_says hy hyn hb
  have h1 : SubSp c c r (trX (mxC c xs)) (mxC r ys) := fun i hi => (InSp.row (A := mxC r ys) hi).congr fun j hj => (ht i j hi hj).symm
  have h2 : SubSp c c r (mxC r ys) (trX (mxC c xs)) := fun i hi => (InSp.row (A := trX (mxC c xs)) hi).congr fun j hj => ht i j hi hj
  exact rank_tr ea fa ta eb (tb.trans h2) (h1.trans fb)
/-- The first rows that are not zeros are equal. -/
def sameTop (c : Nat) (us vs : List Int) (p q : List Nat) : Bool := decide (p.length = q.length) && decide (∀ i, i < p.length * c → us.getD i 0 = vs.getD i 0)
theorem top_at {c t : Nat} {us vs : List Int} (h : ∀ i, i < t * c → us.getD i 0 = vs.getD i 0) {i j : Nat} (hi : i < t) (hj : j < c) : mxC c us i j = mxC c vs i j := h _ (idx_lt hi hj)
theorem sameTop_iff {r s c : Nat} {xs ys us vs : List Int} {p q : List Nat} (hx : xs.length = r * c) (hxn : nums xs = true) (hy : ys.length = s * c) (hyn : nums ys = true) (ha : echM r c xs = some (us, p)) (hb : echM s c ys = some (vs, q)) : sameTop c us vs p q = true ↔ SubSp r s c (mxC c xs) (mxC c ys) ∧ SubSp s r c (mxC c ys) (mxC c xs) := by
  obtain ⟨ea, ta, fa, la, -, -⟩ := echM_says hx hxn ha
  obtain ⟨eb, tb, fb, lb, -, -⟩ := echM_says hy hyn hb
  unfold sameTop
  rw [Bool.and_eq_true, decide_eq_true_eq, decide_eq_true_eq]
  constructor
  · rintro ⟨h1, h2⟩
    have s1 : SubSp r s c (mxC c us) (mxC c vs) := fun i hi => by
      rcases Nat.lt_or_ge i p.length with h | h
      · exact (InSp.row (A := mxC c vs) (show i < s by have := eb.le; omega)).congr fun j hj => top_at h2 h hj
      · exact (InSp.zero s c _).congr fun j hj => ea.rest i j h hi hj
    have s2 : SubSp s r c (mxC c vs) (mxC c us) := fun i hi => by
      rcases Nat.lt_or_ge i p.length with h | h
      · exact (InSp.row (A := mxC c us) (show i < r by have := ea.le; omega)).congr fun j hj => (top_at h2 h hj).symm
      · exact (InSp.zero r c _).congr fun j hj => eb.rest i j (by omega) hi hj
    exact ⟨fa.trans (s1.trans tb), fb.trans (s2.trans ta)⟩
  · rintro ⟨h1, h2⟩
    obtain ⟨u1, -, u3⟩ := ea.uniq eb (ta.trans (h1.trans fb)) (tb.trans (h2.trans fa))
    refine ⟨u1, fun i hi => ?_⟩
    have hc : 0 < c := by
      rcases Nat.eq_zero_or_pos c with e | e
      · rw [e, Nat.mul_zero] at hi; omega
      · exact e
    have e : i = i / c * c + i % c := by rw [Nat.mul_comm]; exact (Nat.div_add_mod i c).symm
    have h3 : i / c < p.length := Nat.div_lt_of_lt_mul (by rw [Nat.mul_comm]; exact hi)
    have := u3 (i / c) (i % c) h3 (Nat.mod_lt i hc)
    unfold mxC at this
    rw [← e] at this
    exact this.symm
/-- Two matrices span one space just if the rank does not grow where they are put together. -/
theorem spaces_law {r s c : Nat} {xs ys zs us vs ws : List Int} {p q u : List Nat} (hx : xs.length = r * c) (hxn : nums xs = true) (hy : ys.length = s * c) (hyn : nums ys = true) (hz : zs.length = (r + s) * c) (hzn : nums zs = true) (hst : ∀ i j, i < r + s → j < c → mxC c zs i j = stkX r (mxC c xs) (mxC c ys) i j)
    (ha : echM r c xs = some (us, p)) (hb : echM s c ys = some (vs, q)) (hc : echM (r + s) c zs = some (ws, u)) : sameTop c us vs p q = (decide (p.length = u.length) && decide (q.length = u.length)) := by
  obtain ⟨ea, ta, fa, -, -, -⟩ := echM_says hx hxn ha
  obtain ⟨eb, tb, fb, -, -, -⟩ := echM_says hy hyn hb
  obtain ⟨ec, tc, fc, -, -, -⟩ := echM_says hz hzn hc
  have z1 : SubSp (r + s) (r + s) c (mxC c zs) (stkX r (mxC c xs) (mxC c ys)) := fun i hi => (InSp.row (A := stkX r (mxC c xs) (mxC c ys)) hi).congr fun j hj => hst i j hi hj
  have z2 : SubSp (r + s) (r + s) c (stkX r (mxC c xs) (mxC c ys)) (mxC c zs) := fun i hi => (InSp.row (A := mxC c zs) hi).congr fun j hj => (hst i j hi hj).symm
  have xz : SubSp r (r + s) c (mxC c xs) (mxC c zs) := stk_left.trans z2
  have yz : SubSp s (r + s) c (mxC c ys) (mxC c zs) := stk_right.trans z2
  have ac : SubSp r (r + s) c (mxC c us) (mxC c ws) := ta.trans (xz.trans fc)
  have bc : SubSp s (r + s) c (mxC c vs) (mxC c ws) := tb.trans (yz.trans fc)
  rw [Bool.eq_iff_iff, sameTop_iff hx hxn hy hyn ha hb, Bool.and_eq_true, decide_eq_true_eq, decide_eq_true_eq]
  constructor
  · rintro ⟨h1, h2⟩
    have zx : SubSp (r + s) r c (mxC c zs) (mxC c xs) := z1.trans (stk_sub (SubSp.refl _ _ _) h2)
    have zy : SubSp (r + s) s c (mxC c zs) (mxC c ys) := z1.trans (stk_sub h1 (SubSp.refl _ _ _))
    have a1 := ea.count ec ac
    have a2 := ec.count ea (tc.trans (zx.trans fa))
    have b1 := eb.count ec bc
    have b2 := ec.count eb (tc.trans (zy.trans fb))
    exact ⟨by omega, by omega⟩
  · rintro ⟨h1, h2⟩
    have ca : SubSp (r + s) r c (mxC c ws) (mxC c us) := by
      rw [← h1] at ec
      exact ea.whole ec ac
    have cb : SubSp (r + s) s c (mxC c ws) (mxC c vs) := by
      rw [← h2] at ec
      exact eb.whole ec bc
    exact ⟨xz.trans (fc.trans (cb.trans tb)), yz.trans (fc.trans (ca.trans ta))⟩
end Go.Proofs.Ytbdofgkcedpamaa
end

section
/-
  Chapter 7, in the model: the elimination.
-/
namespace Go.Proofs.Ytbdofgkcedpamaa
set_option maxRecDepth 100000
open Go.RowKit

def pvI (pv : List Nat) : List Int := pv.map fun (k : Nat) => (k : Int)
/-- The worlds of the walk: the copy, the result's block, the pivots. -/
structure EcSt (w : World) (B b rb r c g N cap : Nat) (ys : List Int) (v : Value) (pv : List Nat) (wr : World) : Prop where
  blk : Blk3 wr b 26 (.int .i64 r) (.int .i64 c) (.slice (some ⟨g, 0, none⟩) N cap)
  ret : Blk3 wr rb 26 (.int .i64 0) (.int .i64 0) (.slice none 0 0)
  ints : Ints wr g ys
  own : OwnQ B wr v (pvI pv)
  bel : Below w.heap.size w wr
  le : B ≤ wr.heap.size
theorem EcSt.one {w : World} {B b rb r c g N cap : Nat} {ys ys' : List Int} {v : Value} {pv : List Nat} {wr w' : World} (h : EcSt w B b rb r c g N cap ys v pv wr) (hi : Ints w' g ys') (hg : wr.grownBy w' (some g)) (hb : b ≠ g) (hr : rb ≠ g) (hB : g < B) (hw : w.heap.size ≤ g) : EcSt w B b rb r c g N cap ys' v pv w' :=
  ⟨h.blk.keepOne hg hb, h.ret.keepOne hg hr, hi, h.own.one hg hB, h.bel.trans (below_of_one hg hw h.bel.size), Nat.le_trans h.le hg.size⟩
theorem EcSt.put {w : World} {B b rb r c g N cap : Nat} {ys : List Int} {v : Value} {pv : List Nat} {wr : World} (h : EcSt w B b rb r c g N cap ys v pv wr) (hb : b ≠ g) (hr : rb ≠ g) (hB : g < B) (hw : w.heap.size ≤ g) (P : Nat) (z : Int) : EcSt w B b rb r c g N cap (ys.set P z) v pv (wr.setCell ⟨g, P, none⟩ (.int .i64 z)) :=
  h.one (h.ints.set P z) (grown_set_one (World.grownBy.refl _ _) rfl _) hb hr hB hw
theorem EcSt.drewN {w : World} {B b rb r c g N cap : Nat} {ys : List Int} {v : Value} {pv : List Nat} {wr : World} (h : EcSt w B b rb r c g N cap ys v pv wr) (n : Nat) : EcSt w B b rb r c g N cap ys v pv (wr.drewN n) :=
  ⟨h.blk.drewN n, h.ret.drewN n, h.ints.drewN n, h.own.drewN n, below_drewN h.bel n, h.le⟩
theorem prL_self {r c i : Nat} {xs : List Int} (hx : xs.length = r * c) (h : i < r → Norm c (mxC c xs i)) : prL r c i xs = xs := by
  rw [prL_row]
  exact rowL_self hx fun hi q hq => prV_id (h hi) hq
theorem EcSt.drew {w : World} {B b rb r c g N cap : Nat} {ys : List Int} {v : Value} {pv : List Nat} {wr : World} (h : EcSt w B b rb r c g N cap ys v pv wr) : EcSt w B b rb r c g N cap ys v pv wr.drew := h.drewN 1
/-- What the elimination gives. -/
def EchP (w : World) (r c : Nat) (o : Option (List Int × List Nat)) (e : Ending) (w' : World) : Prop :=
  (∃ (va vb : Value) (ys : List Int) (pv : List Nat), o = some (ys, pv) ∧ e = .returned (.tuple #[.agg #[.int .i64 r, .int .i64 c, va], vb, .bool true]) ∧ Own w.heap.size w' va ys ∧ Own w.heap.size w' vb (pvI pv) ∧ (∀ k, va.ownBlock = some k → vb.ownBlock ≠ some k) ∧ Below w.heap.size w w')
  ∨ (∃ vb : Value, o = none ∧ e = .returned (.tuple #[.agg #[.int .i64 0, .int .i64 0, .slice none 0 0], vb, .bool false]) ∧ Own w.heap.size w' vb [] ∧ Below w.heap.size w w')
theorem OwnQ.far {B : Nat} {w : World} {v : Value} {zs : List Int} (h : OwnQ B w v zs) {a : Addr} (ha : a.block < B) (u : Value) : OwnQ B (w.setCell a u) v zs :=
  h.move fun k hk => Below.heap_setCell w a u k (by have := h.le hk; omega)
theorem pvI_length (pv : List Nat) : (pvI pv).length = pv.length := List.length_map ..
theorem EcSt.end_ {w : World} {B b rb r c g N cap : Nat} {ys : List Int} {q : Option Addr} {n qc : Nat} {pv : List Nat} {wr : World} (h : EcSt w B b rb r c g N cap ys (.slice q n qc) pv wr) (hl : ys.length = N) (hcap : N ≤ cap) (hN : N ≤ 576) (hpv : pv.length ≤ 24) (hgB : g < B) (hw : w.heap.size ≤ g) (hrw : w.heap.size ≤ rb) (hrg : rb ≠ g) (hrB : rb < B) (x y z : Value) :
    EchP w r c (some (ys, pv)) (.returned (.tuple #[.agg #[.int .i64 r, .int .i64 c, .slice (some ⟨g, 0, none⟩) N cap], .slice q n qc, .bool true])) (((wr.setCell ⟨rb, 0, none⟩ x).setCell ⟨rb, 1, none⟩ y).setCell ⟨rb, 2, none⟩ z) := by
  refine .inl ⟨_, _, ys, pv, rfl, rfl, .inr ⟨g, cap, by rw [hl], hw, ?_, by omega, by omega⟩, ?_, fun k hk e => ?_, ?_⟩
  · exact ((h.ints.far (a := ⟨rb, 0, none⟩) hrg.symm x).far (a := ⟨rb, 1, none⟩) hrg.symm y).far (a := ⟨rb, 2, none⟩) hrg.symm z
  · exact ((((h.own.far (a := ⟨rb, 0, none⟩) hrB x).far (a := ⟨rb, 1, none⟩) hrB y).far (a := ⟨rb, 2, none⟩) hrB z).lower (by omega)).own (by rw [pvI_length]; omega)
  · simp only [Value.ownBlock, Option.some.injEq] at hk
    have := h.own.le e
    omega
  · exact ((h.bel.setCell hrw x).setCell hrw y).setCell hrw z
theorem EcSt.bad {w : World} {B b rb r c g N cap : Nat} {ys : List Int} {v : Value} {pv : List Nat} {wr : World} (h : EcSt w B b rb r c g N cap ys v pv wr) (hw : w.heap.size ≤ B) (hrw : w.heap.size ≤ rb) (hrB : rb < B) (x y z : Value) :
    EchP w r c none (.returned (.tuple #[.agg #[.int .i64 0, .int .i64 0, .slice none 0 0], .slice (some ⟨wr.heap.size, 0, none⟩) 0 0, .bool false])) ((((wr.alloc (.cells #[] 3)).setCell ⟨rb, 0, none⟩ x).setCell ⟨rb, 1, none⟩ y).setCell ⟨rb, 2, none⟩ z) := by
  have hl := h.le
  have o : OwnQ B (wr.alloc (.cells #[] 3)) (.slice (some ⟨wr.heap.size, 0, none⟩) 0 0) [] := OwnQ.none_ h.le ⟨Nat.zero_le _, [], rfl, heap_alloc_new wr _⟩
  refine .inr ⟨_, rfl, rfl, ?_, ?_⟩
  · exact ((((o.far (a := ⟨rb, 0, none⟩) hrB x).far (a := ⟨rb, 1, none⟩) hrB y).far (a := ⟨rb, 2, none⟩) hrB z).lower hw).own (by simp)
  · exact (((h.bel.alloc h.bel.size _).setCell hrw x).setCell hrw y).setCell hrw z
theorem tdiv_bb {x y b : Int} (h1 : -b ≤ x) (h2 : x ≤ b) : -b ≤ x.tdiv y ∧ x.tdiv y ≤ b := by
  have h := Int.natAbs_tdiv_le_natAbs x y
  omega
theorem swC_nums {r c p t : Nat} {xs : List Int} (hx : xs.length = r * c) (hn : nums xs = true) (hp : p < r) (ht : t < r) : nums (swC p t c xs) = true := nums_true fun k hk => by
  rw [swC_length, hx] at hk
  have hc : 0 < c := by
    rcases Nat.eq_zero_or_pos c with e | e
    · subst e; omega
    · exact e
  have e : k = k / c * c + k % c := by rw [Nat.mul_comm]; exact (Nat.div_add_mod k c).symm
  have h1 : k / c < r := Nat.div_lt_of_lt_mul (by rw [Nat.mul_comm]; exact hk)
  have := swC_at (p := p) (t := t) hx h1 (Nat.mod_lt k hc)
  unfold mxC at this
  rw [e, this]
  refine mx_nums hx hn ?_ (Nat.mod_lt k hc)
  split
  · exact ht
  · split <;> omega
theorem EcSt.app {w : World} {B b rb r c g N cap : Nat} {ys : List Int} {v v' : Value} {pv pv' : List Nat} {wr w' : World} (h : EcSt w B b rb r c g N cap ys v pv wr) {o : Obj} (hg : (wr.alloc o).grownBy w' v.ownBlock) (ho : OwnQ B w' v' (pvI pv')) (hb : b < B) (hr : rb < B) (hgB : g < B) (hw : w.heap.size ≤ B) : EcSt w B b rb r c g N cap ys v' pv' w' := by
  have keep : ∀ k, k < B → k < wr.heap.size → w'.heap[k]? = wr.heap[k]? := fun k hk hl => (hg.block k (by simp; omega) (fun e => by have := h.own.le e.symm; omega)).trans (Below.heap_alloc wr o k hl)
  have hs := hg.size
  simp at hs
  have hl := h.le
  exact ⟨(keep b hb h.blk.lt).trans h.blk, (keep rb hr h.ret.lt).trans h.ret, h.ints.move (keep g hgB h.ints.lt), ho, h.bel.trans ⟨hg.os, hg.tape, hg.output, by omega, fun k hk => keep k (by omega) (by omega)⟩, by omega⟩
set_option maxHeartbeats 4000000 in
theorem sEch (r c N : Nat) (a : Option Addr) (m : Nat) (xs : List Int) (w : World) (h : Rd w a xs) (ha : Spot a) (hx : xs.length = N) (hN : N = r * c) (hr : r ≤ 24) (hc : c ≤ 24) (nx : nums xs = true) :
    Calls Try.prog 47 #[.agg #[.int .i64 r, .int .i64 c, .slice a N m]] w (EchP w r c (echM r c xs)) := by
  have hle : r * c ≤ 24 * 24 := Nat.mul_le_mul hr hc
  rw [← hN] at hle
  have CP : Hid (∀ w', Below w.heap.size w w' → Calls Try.prog 75 #[.agg #[.int .i64 r, .int .i64 c, .slice a N m]] w' (fun e w2 => ∃ g cap : Nat, e = .returned (.agg #[.int .i64 r, .int .i64 c, .slice (some ⟨g, 0, none⟩) N cap]) ∧ w'.heap.size ≤ g ∧ IntsC w2 g cap xs ∧ Below w'.heap.size w' w2)) := fun w' hb => sCopyA r c a m N xs w' (h.below hb) ha hx (by omega)
  have IX : Hid (∀ i j, i < r → j < c → ∃ P : Nat, i * c + j = P ∧ P < N ∧ IntKind.i64.wrap ((i : Int) * (c : Int)) = (i : Int) * (c : Int) ∧ IntKind.i64.wrap ((i : Int) * (c : Int) + (j : Int)) = (P : Int)) := fun i j hi hj => by
    have h1 : i * c + j < r * c := idx_lt hi hj
    have c1 : (i : Int) * (c : Int) = ((i * c : Nat) : Int) := (Int.natCast_mul _ _).symm
    refine ⟨i * c + j, rfl, by omega, IntWalk.i64_in _ (by rw [c1]; omega), ?_⟩
    rw [show (i : Int) * (c : Int) + (j : Int) = ((i * c + j : Nat) : Int) by rw [c1]; omega]
    exact IntWalk.i64_in _ (by omega)
  have HR : Hid (echC r c c 0 (prTo r c r xs) [] = echM r c xs) := rfl
  have PR : Hid (∀ ys pv, echM r c xs = some (ys, pv) → (∀ i, i < r → prL r c i ys = ys) ∧ pv.length ≤ r ∧ ys.length = N ∧ nums ys = true) := fun ys pv he => by
    obtain ⟨h1, -, -, h4, h5, h6⟩ := echM_says (by rw [hx, hN]) nx he
    exact ⟨fun i hi => prL_self h4 fun hi => h6 i hi, h1.le, by rw [h4, hN], h5⟩
  generalize echM r c xs = RES at HR PR ⊢
  have HN := Lib.hid hN
  have HX := Lib.hid hx
  have NX := Lib.hid nx
  clear hN hx nx h ha
  go_enter Try.func47, Try.ntmps47
  go_upto_region 1 with fail
  have K0 : Hid (Blk3 ((w.alloc (.cells #[.int .i64 r, .int .i64 c, .slice a N m] 26)).alloc (.cells #[.int .i64 0, .int .i64 0, .slice none 0 0] 26)) w.heap.size 26 (.int .i64 r) (.int .i64 c) (.slice a N m)) := (Blk3.at_ _ _ _ _ rfl).old _
  have R0 : Hid (Blk3 ((w.alloc (.cells #[.int .i64 r, .int .i64 c, .slice a N m] 26)).alloc (.cells #[.int .i64 0, .int .i64 0, .slice none 0 0] 26)) (w.heap.size + 1) 26 (.int .i64 0) (.int .i64 0) (.slice none 0 0)) := Blk3.at_ _ _ _ _ (by simp)
  have B0 : Hid (Below w.heap.size w ((w.alloc (.cells #[.int .i64 r, .int .i64 c, .slice a N m] 26)).alloc (.cells #[.int .i64 0, .int .i64 0, .slice none 0 0] 26))) := ((Below.refl _ _).alloc (Nat.le_refl _) _).alloc (by simp) _
  have S0 : Hid (((w.alloc (.cells #[.int .i64 r, .int .i64 c, .slice a N m] 26)).alloc (.cells #[.int .i64 0, .int .i64 0, .slice none 0 0] 26)).heap.size = w.heap.size + 2) := by show _ = _; simp
  generalize (w.alloc (.cells #[.int .i64 r, .int .i64 c, .slice a N m] 26)).alloc (.cells #[.int .i64 0, .int .i64 0, .slice none 0 0] 26) = W0 at K0 R0 B0 S0 ⊢
  obtain ⟨p0, p1, p2, -, -, -⟩ := K0.out.all
  go_wp2_with fail
  refine (CP.out _ B0.out).mono ?_
  rintro e w1 ⟨g, cap, rfl, hg, hi, hb⟩
  have gl := hi.lt
  have hcap := hi.le
  have s0 := S0.out
  have I0 := Lib.hid (hi.ints.old (.cells #[.int .i64 r, .int .i64 c, .slice (some ⟨g, 0, none⟩) N cap] 26))
  have R1 := Lib.hid ((R0.out.step hb).old (.cells #[.int .i64 r, .int .i64 c, .slice (some ⟨g, 0, none⟩) N cap] 26))
  have K1 : Hid (Blk3 (w1.alloc (.cells #[.int .i64 r, .int .i64 c, .slice (some ⟨g, 0, none⟩) N cap] 26)) w1.heap.size 26 (.int .i64 r) (.int .i64 c) (.slice (some ⟨g, 0, none⟩) N cap)) := Blk3.at_ _ _ _ _ rfl
  have Bx := B0.out.trans (hb.mono (by omega))
  have B1 := Lib.hid (Bx.alloc Bx.size (.cells #[.int .i64 r, .int .i64 c, .slice (some ⟨g, 0, none⟩) N cap] 26))
  have S1 : Hid ((w1.alloc (.cells #[.int .i64 r, .int .i64 c, .slice (some ⟨g, 0, none⟩) N cap] 26)).heap.size = w1.heap.size + 1) := by show _ = _; simp
  rw [HX.out] at hcap
  have sb := hb.size
  clear hb hi Bx K0 R0 B0 S0 p0 p1 p2
  go_upto_region 2 with fail
  generalize w1.alloc (.cells #[.int .i64 r, .int .i64 c, .slice (some ⟨g, 0, none⟩) N cap] 26) = W at I0 R1 K1 B1 S1 ⊢
  obtain ⟨b, hbb⟩ : ∃ b, w1.heap.size = b := ⟨_, rfl⟩
  rw [hbb] at K1 S1 gl sb ⊢
  have lgb : g < b := gl
  have lrb : w.heap.size + 1 < g := by omega
  have lwg : w.heap.size < g := by omega
  have s1 := S1.out
  clear hbb S1 s0 gl sb hg
  obtain ⟨rb, hrb⟩ : ∃ rb, w.heap.size + 1 = rb := ⟨_, rfl⟩
  rw [hrb] at R1 lrb ⊢
  clear w1
  have lwr : w.heap.size < rb := by omega
  clear hrb
  go_upto_region 3 with fail
  have ST : Hid (EcSt w (b + 1) b rb r c g N cap xs (.slice (some ⟨b + 1, 0, none⟩) 0 0) [] (W.alloc (.cells #[] 3))) := ⟨K1.out.old _, R1.out.old _, I0.out.old _, OwnQ.none_ (Nat.le_refl _) ⟨Nat.zero_le _, [], rfl, by rw [← s1]; exact heap_alloc_new W _⟩, B1.out.alloc B1.out.size _, by simp; omega⟩
  generalize W.alloc (.cells #[] 3) = W2 at ST ⊢
  clear K1 R1 I0 B1 s1
  go_wp2_with fail
  go_loopw [7] (fun v7 wr => ∃ i : Nat, v7 = .int .i64 i ∧ i ≤ r ∧ EcSt w (b + 1) b rb r c g N cap (prTo r c i xs) (.slice (some ⟨b + 1, 0, none⟩) 0 0) [] wr) (fun v7 _ => r - (intOf v7).toNat)
  case atStart => exact ⟨0, rfl, by omega, by rw [prTo_zero (by rw [HX.out, HN.out])]; exact ST.out⟩
  case round =>
    clear ST
    obtain ⟨i, rfl, hi, hst⟩ := hrel
    have ST := Lib.hid hst
    clear hst
    obtain ⟨p0, p1, p2, -, -, -⟩ := ST.out.blk.all
    by_cases hlt : i < r
    · go_wp2_with fail
      refine (sPrim r c i N g cap (prTo r c i xs) _ HN.out (by rw [prTo_length, HN.out]) hr hc hlt (prTo_nums (by rw [HX.out, HN.out]) NX.out) ST.out.ints).mono ?_
      rintro e w2 ⟨rfl, hi2, hg2⟩
      have hs := ST.out.one hi2 hg2 (by omega) (by omega) (by omega) (by omega)
      rw [prTo_step hlt] at hs
      have S2 := Lib.hid hs
      clear hs hi2 hg2
      go_wp2_with fail
      go_roundw
      case rel => exact ⟨i + 1, by go_num, by omega, S2.out⟩
      case measure => simp [intOf]; omega
    · obtain rfl : r = i := by omega
      clear hlt
      have YL : Hid ((prTo r c r xs).length = N) := by show _ = _; rw [prTo_length, HN.out]
      have YN : Hid (nums (prTo r c r xs) = true) := prTo_nums (by rw [HX.out, HN.out]) NX.out
      generalize prTo r c r xs = y0 at ST HR YL YN
      go_wp2_with fail
      clear p0 p1 p2
      go_loopw [3, 4, 6, 8, 9, 10, 11, 12, 13, 14, 15, 16] (fun _ _ v6 v8 _ _ _ _ _ _ _ _ wr => ∃ (j k : Nat) (ys : List Int) (q : Option Addr) (qc : Nat) (pv : List Nat), v6 = .slice q pv.length qc ∧ v8 = .int .i64 j ∧ j + k = c ∧ ys.length = N ∧ nums ys = true ∧ pv.length ≤ r ∧ echC r c k j ys pv = RES ∧ EcSt w (b + 1) b rb r c g N cap ys (.slice q pv.length qc) pv wr) (fun _ _ _ v8 _ _ _ _ _ _ _ _ _ => c - (intOf v8).toNat)
      case atStart => exact ⟨0, c, y0, _, _, [], rfl, rfl, by omega, YL.out, YN.out, by simp, HR.out, ST.out⟩
      case round =>
        clear ST YL YN HR
        obtain ⟨j, k, ys, q, qc, pv, rfl, rfl, hjk, hl, hn, hpv, hR, hst⟩ := hrel
        have ST := Lib.hid hst
        have HL := Lib.hid hl
        have HY := Lib.hid hn
        have HR := Lib.hid hR
        clear hst hl hn hR
        obtain ⟨t, ht⟩ : ∃ t, pv.length = t := ⟨_, rfl⟩
        have PT := Lib.hid ht
        rw [ht] at ST hpv ⊢
        clear ht
        obtain ⟨p0, p1, p2, -, -, -⟩ := ST.out.blk.all
        by_cases hjc : j < c
        · by_cases htr : t < r
          · obtain ⟨k, rfl⟩ : ∃ k', k = k' + 1 := ⟨k - 1, by omega⟩
            go_wp2_with fail
            go_loopw [10] (fun v10 wq => ∃ p : Nat, v10 = .int .i64 p ∧ t ≤ p ∧ p ≤ r ∧ (∀ i, t ≤ i → i < p → mxC c ys i j = 0) ∧ wq = wr) (fun v10 _ => r - (intOf v10).toNat)
            case atStart => exact ⟨t, rfl, Nat.le_refl _, by omega, fun i h1 h2 => by omega, rfl⟩
            case round =>
              obtain ⟨p, rfl, hp1, hp2, hp0, rfl⟩ := hrel
              have P0 := Lib.hid hp0
              clear hp0
              by_cases hpr : p < r
              · obtain ⟨P, hP, hPN, u1, u2⟩ := IX.out p j hpr hjc
                have Pa : (0 : Int) ≤ (P : Int) := by omega
                have Pb : (P : Int) < (N : Int) := by omega
                have hcell := ST.out.ints.cell (i := P) (by rw [HL.out]; exact hPN)
                rw [← hP, show ys.getD (p * c + j) 0 = mxC c ys p j from rfl, hP] at hcell
                obtain ⟨x, hxx⟩ : ∃ x, mxC c ys p j = x := ⟨_, rfl⟩
                have X := Lib.hid hxx
                rw [hxx] at hcell
                clear hxx hP
                by_cases h0 : x = 0
                · have n1 : (x == 0) = true := by simp [h0]
                  have P1 : Hid (∀ i, t ≤ i → i < p + 1 → mxC c ys i j = 0) := fun i h1 h2 => by
                    rcases Nat.lt_or_ge i p with h3 | h3
                    · exact P0.out i h1 h3
                    · obtain rfl : i = p := by omega
                      rw [X.out, h0]
                  clear h0
                  go_wp2_with fail
                  go_roundw
                  case rel => exact ⟨p + 1, by go_num, by omega, by omega, P1.out, trivial⟩
                  case measure => simp [intOf]; omega
                · have n1 : (x == 0) = false := by simpa using h0
                  have FS : Hid (fstR c j ys (r - pv.length) pv.length = p) := fstR_eq (by rw [PT.out]; omega) (by rw [PT.out]; omega) (fun i h1 h2 => P0.out i (by rw [← PT.out]; exact h1) h2) (fun _ => by rw [X.out]; exact h0)
                  have ZL : Hid ((swC p t c ys).length = N) := by show _ = _; rw [swC_length, HL.out]
                  have ZN : Hid (nums (swC p t c ys) = true) := swC_nums (by rw [HL.out, HN.out]) HY.out hpr htr
                  have EN : Hid (elimR r c t j r 0 (swC p t c ys) = none → RES = none) := fun h => by
                    have h1 := HR.out
                    rw [echC_none (p := p) (by rw [PT.out]; exact htr) FS.out (by omega) (by rw [PT.out]; exact h)] at h1
                    exact h1.symm
                  have EO : Hid (∀ us, elimR r c t j r 0 (swC p t c ys) = some us → echC r c k (j + 1) us (pv ++ [j]) = RES) := fun us h => by
                    have h1 := HR.out
                    rw [echC_on (p := p) (by rw [PT.out]; exact htr) FS.out (by omega) (by rw [PT.out]; exact h)] at h1
                    exact h1
                  have SW : Hid (p ≠ t → opL 0 p t 0 c ys = swC p t c ys) := fun h => by unfold swC; rw [if_neg h]
                  have SN : Hid (p = t → ys = swC p t c ys) := fun h => by unfold swC; rw [if_pos h]
                  generalize swC p t c ys = zs at ZL ZN EN EO SW SN
                  obtain ⟨E, hE⟩ : ∃ E, elimR r c t j r 0 zs = E := ⟨_, rfl⟩
                  rw [hE] at EN EO
                  have EE := Lib.hid hE
                  clear hE h0
                  have n3 : ((p : Int) == (r : Int)) = false := by simp; omega
                  go_upto_if 71 with fail
                  go_cut [] (fun wx => EcSt w (b + 1) b rb r c g N cap zs (.slice q t qc) pv wx)
                  case first =>
                    by_cases hpt : p = t
                    · have n2 : ((p : Int) != (t : Int)) = false := by simp [hpt]
                      have hs := ST.out
                      rw [SN.out hpt] at hs
                      have S2 := Lib.hid hs
                      clear hs hpt
                      go_wp2_with fail
                      go_meet
                      exact S2.out
                    · have n2 : ((p : Int) != (t : Int)) = true := by simp; omega
                      go_wp2_with fail
                      refine (sDo r c p t g N cap 0 0 ys _ ST.out.ints HL.out HN.out hr hc hpr htr (.inl rfl) (fun _ => hpt)).mono ?_
                      rintro e w4 ⟨rfl, hi4, hg4⟩
                      have hs := ST.out.one hi4 hg4 (by omega) (by omega) (by omega) (by omega)
                      rw [SW.out hpt] at hs
                      have S2 := Lib.hid hs
                      clear hs hi4 hg4
                      go_wp2_with fail
                      go_meet
                      exact S2.out
                  case rest =>
                    clear ST
                    have ST := Lib.hid hcut
                    clear hcut hcell p0 p1 p2
                    obtain ⟨p0, p1, p2, -, -, -⟩ := ST.out.blk.all
                    go_wp2_with fail
                    clear p0 p1 p2
                    go_loopw [3, 4, 11, 12, 13, 14, 15, 16] (fun _ _ v11 _ _ _ _ _ wu => ∃ (i l : Nat) (us : List Int), v11 = .int .i64 i ∧ i + l = r ∧ us.length = N ∧ nums us = true ∧ elimR r c t j l i us = E ∧ EcSt w (b + 1) b rb r c g N cap us (.slice q t qc) pv wu) (fun _ _ v11 _ _ _ _ _ _ => r - (intOf v11).toNat)
                    case atStart => exact ⟨0, r, zs, rfl, by omega, ZL.out, ZN.out, EE.out, ST.out⟩
                    case round =>
                      clear ST
                      obtain ⟨i, l, us, rfl, hil, hul, hun, hue, hst⟩ := hrel
                      have ST := Lib.hid hst
                      have UL := Lib.hid hul
                      have UN := Lib.hid hun
                      have UE := Lib.hid hue
                      clear hst hul hun hue
                      obtain ⟨p0, p1, p2, -, -, -⟩ := ST.out.blk.all
                      by_cases hir : i < r
                      · obtain ⟨l, rfl⟩ : ∃ l', l = l' + 1 := ⟨l - 1, by omega⟩
                        obtain ⟨P, hP, hPN, u1, u2⟩ := IX.out i j hir hjc
                        have Pa : (0 : Int) ≤ (P : Int) := by omega
                        have Pb : (P : Int) < (N : Int) := by omega
                        have hcell := ST.out.ints.cell (i := P) (by rw [UL.out]; exact hPN)
                        rw [← hP, show us.getD (i * c + j) 0 = mxC c us i j from rfl, hP] at hcell
                        have hxn : NumP (mxC c us i j) := mx_nums (by rw [UL.out, HN.out]) UN.out hir hjc
                        obtain ⟨x, hxx⟩ : ∃ x, mxC c us i j = x := ⟨_, rfl⟩
                        have X := Lib.hid hxx
                        rw [hxx] at hcell hxn
                        clear hxx hP
                        by_cases hs : i = t ∨ x = 0
                        · have UE2 : Hid (elimR r c t j l (i + 1) us = E) := by
                            have h1 := UE.out
                            rw [elimR_skip (by rw [X.out]; exact hs)] at h1
                            exact h1
                          by_cases hit : i = t
                          · have n2 : ((i : Int) == (t : Int)) = true := by simp [hit]
                            clear hs hit
                            go_wp2_with fail
                            go_roundw
                            case rel => exact ⟨i + 1, l, us, by go_num, by omega, UL.out, UN.out, UE2.out, ST.out⟩
                            case measure => simp [intOf]; omega
                          · have n2 : ((i : Int) == (t : Int)) = false := by simp; omega
                            have n3 : (x == 0) = true := by simp [hs.resolve_left hit]
                            clear hs hit
                            go_wp2_with fail
                            go_roundw
                            case rel => exact ⟨i + 1, l, us, by go_num, by omega, UL.out, UN.out, UE2.out, ST.out⟩
                            case measure => simp [intOf]; omega
                        · have hit : i ≠ t := fun e => hs (.inl e)
                          have hx0 : x ≠ 0 := fun e => hs (.inr e)
                          have n2 : ((i : Int) == (t : Int)) = false := by simp; omega
                          have n3 : (x == 0) = false := by simpa using hx0
                          obtain ⟨Q, hQ, hQN, y1, y2⟩ := IX.out t j htr hjc
                          have Qa : (0 : Int) ≤ (Q : Int) := by omega
                          have Qb : (Q : Int) < (N : Int) := by omega
                          have hcell2 := ST.out.ints.cell (i := Q) (by rw [UL.out]; exact hQN)
                          rw [← hQ, show us.getD (t * c + j) 0 = mxC c us t j from rfl, hQ] at hcell2
                          have hyn : NumP (mxC c us t j) := mx_nums (by rw [UL.out, HN.out]) UN.out htr hjc
                          obtain ⟨y, hyy⟩ : ∃ y, mxC c us t j = y := ⟨_, rfl⟩
                          have Y := Lib.hid hyy
                          rw [hyy] at hcell2 hyn
                          have UB : Hid (rowN c (rdV j (mxC c us i) (mxC c us t)) ≠ true → E = none) := fun h => by
                            have h1 := UE.out
                            rw [elimR_bad (by rw [X.out]; exact hs) h] at h1
                            exact h1.symm
                          have UO : Hid (rowN c (rdV j (mxC c us i) (mxC c us t)) = true → elimR r c t j l (i + 1) (rdL r c t j i us) = E) := fun h => by
                            have h1 := UE.out
                            rw [elimR_on (by rw [X.out]; exact hs) h] at h1
                            exact h1
                          have UD : Hid (prL r c i (rowL r c i (rdV j (mxC c us i) (mxC c us t)) us) = rdL r c t j i us) := rdL_prim hir
                          have UM : Hid (rowN c (rdV j (mxC c us i) (mxC c us t)) = true → nums (rdL r c t j i us) = true) := fun h => rdL_nums (by rw [UL.out, HN.out]) UN.out h
                          have UK : Hid ((rdL r c t j i us).length = N) := by show _ = _; rw [rdL_length, HN.out]
                          clear hs hyy hQ
                          go_wp2_with fail
                          refine (sGcd x y _ hxn hyn).mono ?_
                          rintro e w5 ⟨rfl, nq, rfl⟩
                          have ST := Lib.hid (ST.out.drewN nq)
                          have hgp : 0 < x.gcd y := Int.gcd_pos_of_ne_zero_left y hx0
                          have UV : Hid (∀ h, rdV j (mxC c us i) (mxC c us t) h = y.tdiv (x.gcd y) * mxC c us i h - x.tdiv (x.gcd y) * mxC c us t h) := fun h => by rw [← X.out, ← Y.out]; rfl
                          obtain ⟨gg, hgg⟩ : ∃ gg : Int, (x.gcd y : Int) = gg := ⟨_, rfl⟩
                          rw [hgg] at UV ⊢
                          have g1 : gg ≠ 0 := by omega
                          have g2 : (gg == 0) = false := by simpa using g1
                          have b1 := tdiv_bb (y := gg) hxn.1 hxn.2
                          have b2 := tdiv_bb (y := gg) hyn.1 hyn.2
                          obtain ⟨qx, hqx⟩ : ∃ qx, x.tdiv gg = qx := ⟨_, rfl⟩
                          obtain ⟨qy, hqy⟩ : ∃ qy, y.tdiv gg = qy := ⟨_, rfl⟩
                          rw [hqx] at UV b1
                          rw [hqy] at UV b2
                          have wx : IntKind.i64.wrap qx = qx := IntWalk.i64_in _ (by omega)
                          have wy : IntKind.i64.wrap qy = qy := IntWalk.i64_in _ (by omega)
                          generalize rdV j (mxC c us i) (mxC c us t) = u at UB UO UV UD UM
                          generalize rdL r c t j i us = vs at UO UD UM UK
                          have RT : Hid (∀ k, k < c → (rowTo r c i u us k).set (i * c + k) (u k) = rowTo r c i u us (k + 1)) := fun k hk => rowTo_step hir hk
                          have RX : Hid (∀ k, k < c → (rowTo r c i u us k).getD (i * c + k) 0 = mxC c us i k) := fun k hk => rowTo_old hir hk (.inr (Nat.le_refl _))
                          have RY : Hid (∀ k, k < c → (rowTo r c i u us k).getD (t * c + k) 0 = mxC c us t k) := fun k hk => rowTo_old htr hk (.inl (fun e => hit e.symm))
                          have RL : Hid (∀ k, (rowTo r c i u us k).length = N) := fun k => by rw [rowTo_length, HN.out]
                          have NI : Hid (∀ k, k < c → NumP (mxC c us i k)) := fun k hk => mx_nums (by rw [UL.out, HN.out]) UN.out hir hk
                          have NT : Hid (∀ k, k < c → NumP (mxC c us t k)) := fun k hk => mx_nums (by rw [UL.out, HN.out]) UN.out htr hk
                          rw [← rowTo_zero (r := r) (c := c) (i := i) (v := u) (xs := us) (by rw [UL.out, HN.out])] at ST
                          clear p0 p1 p2 hcell hcell2 hgp
                          generalize wr.drewN nq = wz at ST ⊢
                          obtain ⟨p0, p1, p2, -, -, -⟩ := ST.out.blk.all
                          go_wp2_with fail
                          clear p0 p1 p2
                          go_loopw [3, 4, 15, 16] (fun _ _ v15 _ wv => ∃ h : Nat, v15 = .int .i64 h ∧ h ≤ c ∧ (∀ k, k < h → NumP (u k)) ∧ EcSt w (b + 1) b rb r c g N cap (rowTo r c i u us h) (.slice q t qc) pv wv) (fun _ _ v15 _ _ => c - (intOf v15).toNat)
                          case atStart => exact ⟨0, rfl, by omega, fun k hk => by omega, by first | exact ST.out | (have h := ST.out; rw [rowTo_zero (by rw [rowTo_length])] at h; exact h)⟩
                          case round =>
                            clear ST
                            obtain ⟨h, rfl, hh, hhn, hst⟩ := hrel
                            have ST := Lib.hid hst
                            have HH := Lib.hid hhn
                            clear hst hhn
                            obtain ⟨p0, p1, p2, -, -, -⟩ := ST.out.blk.all
                            by_cases hhc : h < c
                            · obtain ⟨P, hP, hPN, u1, u2⟩ := IX.out i h hir hhc
                              have Pa : (0 : Int) ≤ (P : Int) := by omega
                              have Pb : (P : Int) < (N : Int) := by omega
                              have hcell := ST.out.ints.cell (i := P) (by rw [RL.out]; exact hPN)
                              have hfr := ST.out.ints.free P
                              rw [← hP, RX.out h hhc, hP] at hcell
                              obtain ⟨Q, hQ, hQN, y1, y2⟩ := IX.out t h htr hhc
                              have Qa : (0 : Int) ≤ (Q : Int) := by omega
                              have Qb : (Q : Int) < (N : Int) := by omega
                              have hcell2 := ST.out.ints.cell (i := Q) (by rw [RL.out]; exact hQN)
                              rw [← hQ, RY.out h hhc, hQ] at hcell2
                              have na := NI.out h hhc
                              have nb := NT.out h hhc
                              have uv := UV.out h
                              have RS := Lib.hid (RT.out h hhc)
                              rw [hP] at RS
                              generalize mxC c us i h = ea at hcell na uv
                              generalize mxC c us t h = eb at hcell2 nb uv
                              have m1 := mul_num qy ea b2 na
                              have m2 := mul_num qx eb b1 nb
                              have v1 : IntKind.i64.wrap (qy * ea) = qy * ea := IntWalk.i64_in _ (by omega)
                              have v2 : IntKind.i64.wrap (qx * eb) = qx * eb := IntWalk.i64_in _ (by omega)
                              have v3 : IntKind.i64.wrap (qy * ea - qx * eb) = qy * ea - qx * eb := IntWalk.i64_in _ (by omega)
                              obtain ⟨z, hz⟩ : ∃ z, u h = z := ⟨_, rfl⟩
                              have Z := Lib.hid hz
                              rw [hz] at uv RS
                              have q0 : qy * ea - qx * eb = z := uv.symm
                              rw [q0] at v3
                              clear na nb m1 m2 hz hP hQ uv
                              go_wp2_with fail
                              go_still_tail 29, (by kernel_rfl)
                              go_wp2_with fail
                              refine (sFit z _).mono ?_
                              rintro e w6 ⟨rfl, rfl⟩
                              have S3 := Lib.hid ST.out.drew
                              clear ST p0 p1 p2 hcell hcell2 hfr
                              generalize wr.drew = wy at S3 ⊢
                              obtain ⟨p0, p1, p2, -, -, -⟩ := S3.out.blk.all
                              have hold := S3.out.ints.cell (i := P) (by rw [RL.out]; exact hPN)
                              have hfr := S3.out.ints.free P
                              by_cases hz : NumP z
                              · have n4 : (z == -4611686018427387904) = false := by have h := hz; unfold NumP at h; simp; omega
                                rw [show fitB z = z from if_pos hz]
                                have HH2 : Hid (∀ k, k < h + 1 → NumP (u k)) := fun k hk => by
                                  rcases Nat.lt_or_ge k h with h3 | h3
                                  · exact HH.out k h3
                                  · obtain rfl : k = h := by omega
                                    rw [Z.out]; exact hz
                                clear hz
                                go_wp2_with fail
                                go_roundw
                                case rel => exact ⟨h + 1, by go_num, by omega, HH2.out, by rw [← RS.out]; exact S3.out.put (by omega) (by omega) (by omega) (by omega) P z⟩
                                case measure => simp [intOf]; omega
                              · have RZ : Hid (RES = none) := EN.out (UB.out fun h1 => hz (by rw [← Z.out]; exact rowN_iff.mp h1 h hhc))
                                rw [show fitB z = -4611686018427387904 from if_neg hz]
                                clear hz hold hfr p0 p1 p2
                                obtain ⟨r0, r1, r2, f0, f1, f2⟩ := S3.out.ret.all
                                obtain ⟨e0, e1, e2, l0, l1, l2⟩ := (S3.out.ret.old (.cells #[] 3)).all
                                go_wp2_with fail
                                obtain ⟨E0, E1, E2, -, -, -⟩ := ((((S3.out.ret.old (.cells #[] 3)).set0 (.int .i64 0)).set1 (.int .i64 0)).set2 (.slice none 0 0)).all
                                exact bodyPost_ret (v := .tuple #[.agg #[.int .i64 0, .int .i64 0, .slice none 0 0], .slice (some ⟨wy.heap.size, 0, none⟩) 0 0, .bool false]) (by simp [results, Try.results47, go_sem, E0, E1, E2]) rfl (by rw [RZ.out]; exact S3.out.bad (by omega) (by omega) (by omega) _ _ _)
                            · obtain rfl : c = h := by omega
                              clear hhc
                              have RW : Hid (rowN c u = true) := rowN_iff.mpr HH.out
                              go_wp2_with fail
                              refine (sPrim r c i N g cap (rowTo r c i u us c) _ HN.out (RL.out c) hr hc hir (by rw [rowTo_all]; exact rowL_nums (by rw [UL.out, HN.out]) UN.out (fun q hq => HH.out q hq)) ST.out.ints).mono ?_
                              rintro e w7 ⟨rfl, hi7, hg7⟩
                              have hs := ST.out.one hi7 hg7 (by omega) (by omega) (by omega) (by omega)
                              rw [rowTo_all, UD.out] at hs
                              have S7 := Lib.hid hs
                              clear hs hi7 hg7
                              go_wp2_with fail
                              go_roundw
                              case rel => exact ⟨i + 1, l, vs, by go_num, by omega, UK.out, UM.out RW.out, UO.out RW.out, S7.out⟩
                              case measure => simp [intOf]; omega
                      · obtain rfl : l = 0 := by omega
                        have UF : Hid (echC r c k (j + 1) us (pv ++ [j]) = RES) := EO.out us UE.out.symm
                        obtain ⟨fi, hfi, hz0, hz1, hz2⟩ := facts_int
                        have HO : Hid ((wr.alloc (.cells #[.int .i64 j] 3)).ownsRow (b + 1) 3 1 (.slice q t qc) t ((pvI pv).map (Value.int .i64))) := by
                          have h1 := ST.out.own.keep ((Below.refl _ _).alloc (Nat.le_refl _) (.cells #[.int .i64 j] 3))
                          unfold OwnQ at h1
                          rw [pvI_length, PT.out] at h1
                          exact h1
                        have le := ST.out.le
                        go_wp2_with (at_builtin; refine wpList_append_own_at _ rfl _ _ 22 rfl (b + 1) 3 fi (.int .i64 0) 1 8 underlying_ints hfi hz0 hz1 hz2 rfl (by decide) _ _ _ rfl HO.out ⟨wr.heap.size, 0, none⟩ 1 1 [.int .i64 j] ?hx ?hl ?hnews ?h1 ?h63 ?hbytes ?hbase ?hnext)
                        case hx => rfl
                        case hl => rfl
                        case hnews => exact cell_one_new _ _ _
                        case h1 => intro v hv; simp at hv; subst hv; rfl
                        case h63 => unfold maxLen; omega
                        case hbytes => omega
                        case hbase => simp; omega
                        case hnext =>
                          rintro v' w7 ho hg7 - -
                          have O7 : OwnQ (b + 1) w7 v' (pvI (pv ++ [j])) := by
                            unfold OwnQ pvI
                            rw [List.map_append, List.length_append, List.map_append, List.length_map, PT.out]
                            exact ho
                          have hs := ST.out.app hg7 O7 (by omega) (by omega) (by omega) (by omega)
                          obtain ⟨q', qc', rfl⟩ := O7.form
                          rw [pvI_length] at hs ⊢
                          have S7 := Lib.hid hs
                          clear hs O7 ho hg7
                          go_wp2_with fail
                          go_roundw
                          case rel => exact ⟨j + 1, k, us, q', qc', pv ++ [j], rfl, by go_num, by omega, UL.out, UN.out, by rw [List.length_append, PT.out]; simp; omega, UF.out, S7.out⟩
                          case measure => simp [intOf]; omega
              · have hpe : p = r := by omega
                have FS : Hid (fstR c j ys (r - pv.length) pv.length = r) := fstR_eq (by rw [PT.out]; omega) (by rw [PT.out]; omega) (fun i h1 h2 => P0.out i (by rw [← PT.out]; exact h1) (by omega)) (fun h => by rw [PT.out] at h; omega)
                have RN : Hid (echC r c k (j + 1) ys pv = RES) := by
                  have h1 := HR.out
                  rw [echC_skip (by rw [PT.out]; exact htr) FS.out] at h1
                  exact h1
                have n1 : decide ((p : Int) < (r : Int)) = false := by simpa using hpr
                have n2 : ((p : Int) == (r : Int)) = true := by simp [hpe]
                clear hpe
                go_wp2_with fail
                go_roundw
                case rel => exact ⟨j + 1, k, ys, q, qc, pv, by rw [PT.out], by go_num, by omega, HL.out, HY.out, by rw [PT.out]; exact hpv, RN.out, by rw [PT.out]; exact ST.out⟩
                case measure => simp [intOf]; omega
          · have RF : Hid (some (ys, pv) = RES) := by
              have h1 := HR.out
              rw [echC_end (by rw [PT.out]; exact htr)] at h1
              exact h1
            obtain ⟨NR, -, -, -⟩ := PR.out ys pv RF.out.symm
            have NR := Lib.hid NR
            go_wp2_with fail
            clear p0 p1 p2
            go_loopw [17] (fun v17 wf => ∃ i : Nat, v17 = .int .i64 i ∧ i ≤ t ∧ EcSt w (b + 1) b rb r c g N cap ys (.slice q t qc) pv wf) (fun v17 _ => t - (intOf v17).toNat)
            case atStart => exact ⟨0, rfl, by omega, ST.out⟩
            case round =>
              clear ST
              obtain ⟨i, rfl, hi, hst⟩ := hrel
              have ST := Lib.hid hst
              clear hst
              obtain ⟨p0, p1, p2, f0, f1, f2⟩ := ST.out.blk.all
              by_cases hlt : i < t
              · go_wp2_with fail
                refine (sPrim r c i N g cap ys _ HN.out HL.out hr hc (by omega) HY.out ST.out.ints).mono ?_
                rintro e w2 ⟨rfl, hi2, hg2⟩
                have hs := ST.out.one hi2 hg2 (by omega) (by omega) (by omega) (by omega)
                rw [NR.out i (by omega)] at hs
                have S2 := Lib.hid hs
                clear hs hi2 hg2
                go_wp2_with fail
                go_roundw
                case rel => exact ⟨i + 1, by go_num, by omega, S2.out⟩
                case measure => simp [intOf]; omega
              · have hlt := hlt
                obtain ⟨r0, r1, r2, h0, h1, h2⟩ := ST.out.ret.all
                go_wp2_with fail
                obtain ⟨E0, E1, E2, -, -, -⟩ := (((ST.out.ret.set0 (.int .i64 r)).set1 (.int .i64 c)).set2 (.slice (some ⟨g, 0, none⟩) N cap)).all
                exact bodyPost_ret (v := .tuple #[.agg #[.int .i64 r, .int .i64 c, .slice (some ⟨g, 0, none⟩) N cap], .slice q t qc, .bool true]) (by simp [results, Try.results47, go_sem, E0, E1, E2]) rfl (by rw [← RF.out]; exact ST.out.end_ HL.out hcap (by omega) (by rw [PT.out]; omega) (by omega) (by omega) (by omega) (by omega) (by omega) _ _ _)
        · obtain rfl : k = 0 := by omega
          have RF : Hid (some (ys, pv) = RES) := HR.out
          obtain ⟨NR, -, -, -⟩ := PR.out ys pv RF.out.symm
          have NR := Lib.hid NR
          go_wp2_with fail
          clear p0 p1 p2
          go_loopw [17] (fun v17 wf => ∃ i : Nat, v17 = .int .i64 i ∧ i ≤ t ∧ EcSt w (b + 1) b rb r c g N cap ys (.slice q t qc) pv wf) (fun v17 _ => t - (intOf v17).toNat)
          case atStart => exact ⟨0, rfl, by omega, ST.out⟩
          case round =>
            clear ST
            obtain ⟨i, rfl, hi, hst⟩ := hrel
            have ST := Lib.hid hst
            clear hst
            obtain ⟨p0, p1, p2, f0, f1, f2⟩ := ST.out.blk.all
            by_cases hlt : i < t
            · go_wp2_with fail
              refine (sPrim r c i N g cap ys _ HN.out HL.out hr hc (by omega) HY.out ST.out.ints).mono ?_
              rintro e w2 ⟨rfl, hi2, hg2⟩
              have hs := ST.out.one hi2 hg2 (by omega) (by omega) (by omega) (by omega)
              rw [NR.out i (by omega)] at hs
              have S2 := Lib.hid hs
              clear hs hi2 hg2
              go_wp2_with fail
              go_roundw
              case rel => exact ⟨i + 1, by go_num, by omega, S2.out⟩
              case measure => simp [intOf]; omega
            · have hlt := hlt
              obtain ⟨r0, r1, r2, h0, h1, h2⟩ := ST.out.ret.all
              go_wp2_with fail
              obtain ⟨E0, E1, E2, -, -, -⟩ := (((ST.out.ret.set0 (.int .i64 r)).set1 (.int .i64 c)).set2 (.slice (some ⟨g, 0, none⟩) N cap)).all
              exact bodyPost_ret (v := .tuple #[.agg #[.int .i64 r, .int .i64 c, .slice (some ⟨g, 0, none⟩) N cap], .slice q t qc, .bool true]) (by simp [results, Try.results47, go_sem, E0, E1, E2]) rfl (by rw [← RF.out]; exact ST.out.end_ HL.out hcap (by omega) (by rw [PT.out]; omega) (by omega) (by omega) (by omega) (by omega) (by omega) _ _ _)
end Go.Proofs.Ytbdofgkcedpamaa
end

section
/-
  Chapter 7, in the model: EchelonOf, RankOf.
-/
namespace Go.Proofs.Ytbdofgkcedpamaa
set_option maxRecDepth 100000
open Go.RowKit

/-- What EchelonOf gives: a matrix, its pivots, whether there is such a form in range. -/
structure ER where
  r : Int
  c : Int
  zs : List Int
  pv : List Int
  ok : Bool
def ER.no : ER := ⟨0, 0, [], [], false⟩
def ER.of (r c : Int) : Option (List Int × List Nat) → ER
  | some (ys, pv) => ⟨r, c, ys, pvI pv, true⟩
  | none => ER.no
def echR (r c : Int) (xs : List Int) : ER := if isMat r c xs = true then ER.of r c (echM r.toNat c.toNat xs) else ER.no
def EchG (w : World) (R : ER) (e : Ending) (w' : World) : Prop :=
  ∃ (va vb : Value), e = .returned (.tuple #[.agg #[.int .i64 R.r, .int .i64 R.c, va], vb, .bool R.ok]) ∧ Own w.heap.size w' va R.zs ∧ Own w.heap.size w' vb R.pv ∧ (∀ k, va.ownBlock = some k → vb.ownBlock ≠ some k) ∧ Below w.heap.size w w'
theorem EchP.g {w : World} {r c : Nat} {o : Option (List Int × List Nat)} {e : Ending} {w' : World} (h : EchP w r c o e w') : EchG w (ER.of r c o) e w' := by
  rcases h with ⟨va, vb, ys, pv, rfl, rfl, h1, h2, h3, h4⟩ | ⟨vb, rfl, rfl, h2, h4⟩
  · exact ⟨va, vb, rfl, h1, h2, h3, h4⟩
  · exact ⟨_, vb, rfl, .inl ⟨rfl, rfl⟩, h2, fun k hk => by simp [Value.ownBlock] at hk, h4⟩
theorem Own.far' {B : Nat} {w : World} {v : Value} {zs : List Int} (h : Own B w v zs) {a : Addr} (ha : a.block < B) (u : Value) : Own B (w.setCell a u) v zs := by
  rcases h with h | ⟨g, cap, hv, hB, hi, hl, hc⟩
  · exact .inl h
  · exact .inr ⟨g, cap, hv, hB, hi.far (by omega) u, hl, hc⟩
theorem Own.far3' {B b : Nat} {w : World} {v : Value} {zs : List Int} (h : Own B w v zs) (hb : b < B) (x y z : Value) : Own B (((w.setCell ⟨b, 0, none⟩ x).setCell ⟨b, 1, none⟩ y).setCell ⟨b, 2, none⟩ z) v zs :=
  ((h.far' (a := ⟨b, 0, none⟩) hb x).far' (a := ⟨b, 1, none⟩) hb y).far' (a := ⟨b, 2, none⟩) hb z
set_option maxHeartbeats 2000000 in
theorem sEchelonOf (r c : Int) (a : Option Addr) (m : Nat) (xs : List Int) (w : World) (h : Rd w a xs) (hn : xs.length ≤ 16777216) (ha : Spot a) :
    Calls Try.prog 13 #[.agg #[.int .i64 r, .int .i64 c, .slice a xs.length m]] w (EchG w (echR r c xs)) := by
  have IM : Hid (∀ w', Below w.heap.size w w' → Calls Try.prog 46 #[.agg #[.int .i64 r, .int .i64 c, .slice a xs.length m]] w' (Gives (.bool (isMat r c xs)) w')) := fun w' hb => sIsMat r c a m xs w' (h.below hb) hn
  have EC : Hid (isMat r c xs = true → ∀ w', Below w.heap.size w w' → Calls Try.prog 47 #[.agg #[.int .i64 r, .int .i64 c, .slice a xs.length m]] w' (EchG w' (echR r c xs))) := fun hm w' hb => by
    obtain ⟨⟨r0, r1⟩, ⟨c0, c1⟩, hl, nx⟩ := isMat_says hm
    unfold echR
    rw [if_pos hm]
    obtain ⟨R, rfl⟩ := Int.eq_ofNat_of_zero_le r0
    obtain ⟨C, rfl⟩ := Int.eq_ofNat_of_zero_le c0
    exact (sEch R C xs.length a m xs w' (h.below hb) ha rfl (by rw [← Int.natCast_mul] at hl; omega) (by omega) (by omega) nx).mono fun _ _ h => h.g
  have NO : Hid (isMat r c xs = false → echR r c xs = ER.no) := fun hm => by unfold echR; rw [if_neg (by rw [hm]; decide)]
  generalize isMat r c xs = ok at IM EC NO
  generalize echR r c xs = RES at EC NO ⊢
  clear h hn ha
  generalize xs.length = L at IM EC ⊢
  go_enter Try.func13, Try.ntmps13
  go_upto_region 1 with fail
  have K0 : Hid (Blk3 ((w.alloc (.cells #[.int .i64 r, .int .i64 c, .slice a L m] 26)).alloc (.cells #[.int .i64 0, .int .i64 0, .slice none 0 0] 26)) w.heap.size 26 (.int .i64 r) (.int .i64 c) (.slice a L m)) := (Blk3.at_ _ _ _ _ rfl).old _
  have R0 : Hid (Blk3 ((w.alloc (.cells #[.int .i64 r, .int .i64 c, .slice a L m] 26)).alloc (.cells #[.int .i64 0, .int .i64 0, .slice none 0 0] 26)) (w.heap.size + 1) 26 (.int .i64 0) (.int .i64 0) (.slice none 0 0)) := Blk3.at_ _ _ _ _ (by simp)
  have B0 : Hid (Below w.heap.size w ((w.alloc (.cells #[.int .i64 r, .int .i64 c, .slice a L m] 26)).alloc (.cells #[.int .i64 0, .int .i64 0, .slice none 0 0] 26))) := ((Below.refl _ _).alloc (Nat.le_refl _) _).alloc (by simp) _
  have S0 : Hid (((w.alloc (.cells #[.int .i64 r, .int .i64 c, .slice a L m] 26)).alloc (.cells #[.int .i64 0, .int .i64 0, .slice none 0 0] 26)).heap.size = w.heap.size + 2) := by show _ = _; simp
  generalize (w.alloc (.cells #[.int .i64 r, .int .i64 c, .slice a L m] 26)).alloc (.cells #[.int .i64 0, .int .i64 0, .slice none 0 0] 26) = W0 at K0 R0 B0 S0 ⊢
  obtain ⟨p0, p1, p2, -, -, -⟩ := K0.out.all
  go_wp2_with fail
  refine (IM.out _ B0.out).mono ?_
  rintro e w1 ⟨rfl, hb⟩
  have s0 := S0.out
  have sb := hb.size
  have K1 := Lib.hid (K0.out.step hb)
  have R1 := Lib.hid (R0.out.step hb)
  have B1 := Lib.hid (B0.out.trans (hb.mono (by omega)))
  clear hb K0 R0 B0 S0 p0 p1 p2
  obtain ⟨p0, p1, p2, -, -, -⟩ := K1.out.all
  cases ok with
  | false =>
    have RN := Lib.hid (NO.out rfl)
    clear p0 p1 p2
    obtain ⟨r0, r1, r2, f0, f1, f2⟩ := R1.out.all
    obtain ⟨e0, e1, e2, l0, l1, l2⟩ := (R1.out.old (.cells #[] 3)).all
    go_wp2_with fail
    obtain ⟨E0, E1, E2, -, -, -⟩ := ((((R1.out.old (.cells #[] 3)).set0 (.int .i64 0)).set1 (.int .i64 0)).set2 (.slice none 0 0)).all
    refine bodyPost_ret (v := .tuple #[.agg #[.int .i64 0, .int .i64 0, .slice none 0 0], .slice (some ⟨w1.heap.size, 0, none⟩) 0 0, .bool false]) (by simp [results, Try.results13, go_sem, E0, E1, E2]) rfl ?_
    rw [RN.out]
    refine ⟨_, _, rfl, .inl ⟨rfl, rfl⟩, ?_, fun k hk => by simp [Value.ownBlock] at hk, ?_⟩
    · exact (((OwnQ.none_ (B := w1.heap.size) (Nat.le_refl _) ⟨Nat.zero_le _, [], rfl, heap_alloc_new w1 _⟩).own (by simp)).far3' (b := w.heap.size + 1) (by omega) _ _ _).le (by omega)
    · exact (((B1.out.alloc B1.out.size _).setCell (by simp) _).setCell (by simp) _).setCell (by simp) _
  | true =>
    go_wp2_with fail
    refine (EC.out trivial _ B1.out).mono ?_
    rintro e w2 ⟨va, vb, rfl, oa, ob, hd, hb⟩
    obtain ⟨qa, ca, hva, -, -⟩ := oa.form
    subst hva
    have sb2 := hb.size
    have R2 := Lib.hid ((R1.out.step hb).old (.cells #[.int .i64 RES.r, .int .i64 RES.c, .slice qa RES.zs.length ca] 26))
    have B2 := Lib.hid (B1.out.trans (hb.mono (by omega)))
    have A2 : Hid (Blk3 (w2.alloc (.cells #[.int .i64 RES.r, .int .i64 RES.c, .slice qa RES.zs.length ca] 26)) w2.heap.size 26 (.int .i64 RES.r) (.int .i64 RES.c) (.slice qa RES.zs.length ca)) := Blk3.at_ _ _ _ _ rfl
    have OA := Lib.hid (oa.keep ((Below.refl _ _).alloc (Nat.le_refl _) (.cells #[.int .i64 RES.r, .int .i64 RES.c, .slice qa RES.zs.length ca] 26)))
    have OB := Lib.hid (ob.keep ((Below.refl _ _).alloc (Nat.le_refl _) (.cells #[.int .i64 RES.r, .int .i64 RES.c, .slice qa RES.zs.length ca] 26)))
    have B3 := Lib.hid (B2.out.alloc B2.out.size (.cells #[.int .i64 RES.r, .int .i64 RES.c, .slice qa RES.zs.length ca] 26))
    have HD := Lib.hid hd
    clear hb oa ob hd p0 p1 p2 K1
    go_upto_region 4 with fail
    generalize w2.alloc (.cells #[.int .i64 RES.r, .int .i64 RES.c, .slice qa RES.zs.length ca] 26) = W3 at R2 A2 OA OB B3 ⊢
    obtain ⟨p0, p1, p2, -, -, -⟩ := A2.out.all
    obtain ⟨r0, r1, r2, f0, f1, f2⟩ := R2.out.all
    go_wp2_with fail
    obtain ⟨E0, E1, E2, -, -, -⟩ := (((R2.out.set0 (.int .i64 RES.r)).set1 (.int .i64 RES.c)).set2 (.slice qa RES.zs.length ca)).all
    refine bodyPost_ret (v := .tuple #[.agg #[.int .i64 RES.r, .int .i64 RES.c, .slice qa RES.zs.length ca], vb, .bool RES.ok]) (by simp [results, Try.results13, go_sem, E0, E1, E2]) rfl ?_
    refine ⟨_, vb, rfl, ?_, ?_, HD.out, ?_⟩
    · exact (OA.out.far3' (b := w.heap.size + 1) (by omega) _ _ _).le (by omega)
    · exact (OB.out.far3' (b := w.heap.size + 1) (by omega) _ _ _).le (by omega)
    · exact ((B3.out.setCell (by simp) _).setCell (by simp) _).setCell (by simp) _
end Go.Proofs.Ytbdofgkcedpamaa
end

section
/-
  Chapter 7, in the model: SameSpace.
-/
namespace Go.Proofs.Ytbdofgkcedpamaa
set_option maxRecDepth 100000
open Go.RowKit

theorem echR_ok {r c : Int} {xs : List Int} (h : (echR r c xs).ok = true) : isMat r c xs = true ∧ ∃ (R C : Nat) (ys : List Int) (pv : List Nat), r = R ∧ c = C ∧ R ≤ 24 ∧ C ≤ 24 ∧ xs.length = R * C ∧ nums xs = true ∧ echM R C xs = some (ys, pv) ∧ echR r c xs = ⟨R, C, ys, pvI pv, true⟩ ∧ ys.length = R * C ∧ pv.length ≤ R := by
  unfold echR at h
  by_cases hm : isMat r c xs = true
  · rw [if_pos hm] at h
    obtain ⟨⟨r0, r1⟩, ⟨c0, c1⟩, hl, nx⟩ := isMat_says hm
    obtain ⟨R, rfl⟩ := Int.eq_ofNat_of_zero_le r0
    obtain ⟨C, rfl⟩ := Int.eq_ofNat_of_zero_le c0
    have hx : xs.length = R * C := by rw [← Int.natCast_mul] at hl; omega
    have e1 : echR R C xs = ER.of R C (echM R C xs) := if_pos hm
    cases he : echM R C xs with
    | none =>
      have h2 : (ER.of R C (echM R C xs)).ok = true := h
      rw [he] at h2; exact absurd h2 (by simp [ER.of, ER.no])
    | some o =>
      obtain ⟨ys, pv⟩ := o
      obtain ⟨h1, -, -, h4, -, -⟩ := echM_says hx nx he
      rw [he] at e1
      exact ⟨hm, R, C, ys, pv, rfl, rfl, by omega, by omega, hx, nx, he, e1, h4, h1.le⟩
  · rw [if_neg hm] at h; exact absurd h (by simp [ER.no])
def spOf (r c : Int) (xs : List Int) (r2 c2 : Int) (ys : List Int) : Bool × Bool :=
  if (echR r c xs).ok = true ∧ (echR r2 c2 ys).ok = true ∧ c = c2 then
    (decide ((echR r c xs).pv.length = (echR r2 c2 ys).pv.length) && decide (∀ i, i < (echR r c xs).pv.length * c.toNat → (echR r c xs).zs.getD i 0 = (echR r2 c2 ys).zs.getD i 0), true)
  else (false, false)
structure SpSt (w : World) (s2 x y : Nat) (r c r2 c2 : Int) (a a2 qa qd : Option Addr) (L m L2 m2 ca cd : Nat) (A D : ER) (wr : World) : Prop where
  b1 : Blk3 wr w.heap.size 26 (.int .i64 r) (.int .i64 c) (.slice a L m)
  b2 : Blk3 wr s2 26 (.int .i64 r2) (.int .i64 c2) (.slice a2 L2 m2)
  bx : Blk3 wr x 26 (.int .i64 A.r) (.int .i64 A.c) (.slice qa A.zs.length ca)
  by_ : Blk3 wr y 26 (.int .i64 D.r) (.int .i64 D.c) (.slice qd D.zs.length cd)
  rx : Rd wr qa A.zs
  ry : Rd wr qd D.zs
  bel : Below w.heap.size w wr
theorem SpSt.drewN {w : World} {s2 x y : Nat} {r c r2 c2 : Int} {a a2 qa qd : Option Addr} {L m L2 m2 ca cd : Nat} {A D : ER} {wr : World} (h : SpSt w s2 x y r c r2 c2 a a2 qa qd L m L2 m2 ca cd A D wr) (n : Nat) : SpSt w s2 x y r c r2 c2 a a2 qa qd L m L2 m2 ca cd A D (wr.drewN n) :=
  ⟨h.b1.drewN n, h.b2.drewN n, h.bx.drewN n, h.by_.drewN n, h.rx.drewN n, h.ry.drewN n, below_drewN h.bel n⟩
set_option maxHeartbeats 2000000 in
theorem sSameSpace (r c : Int) (a : Option Addr) (m : Nat) (xs : List Int) (r2 c2 : Int) (a2 : Option Addr) (m2 : Nat) (ys : List Int) (w : World) (h : Rd w a xs) (hn : xs.length ≤ 16777216) (ha : Spot a) (h2 : Rd w a2 ys) (hn2 : ys.length ≤ 16777216) (ha2 : Spot a2) :
    Calls Try.prog 26 #[.agg #[.int .i64 r, .int .i64 c, .slice a xs.length m], .agg #[.int .i64 r2, .int .i64 c2, .slice a2 ys.length m2]] w (Gives (.tuple #[.bool (spOf r c xs r2 c2 ys).1, .bool (spOf r c xs r2 c2 ys).2]) w) := by
  have E1 : Hid (∀ w', Below w.heap.size w w' → Calls Try.prog 13 #[.agg #[.int .i64 r, .int .i64 c, .slice a xs.length m]] w' (EchG w' (echR r c xs))) := fun w' hb => sEchelonOf r c a m xs w' (h.below hb) hn ha
  have E2 : Hid (∀ w', Below w.heap.size w w' → Calls Try.prog 13 #[.agg #[.int .i64 r2, .int .i64 c2, .slice a2 ys.length m2]] w' (EchG w' (echR r2 c2 ys))) := fun w' hb => sEchelonOf r2 c2 a2 m2 ys w' (h2.below hb) hn2 ha2
  have O1 : Hid ((echR r c xs).ok = true → ∃ R C : Nat, r = R ∧ c = C ∧ R ≤ 24 ∧ C ≤ 24 ∧ (echR r c xs).zs.length = R * C ∧ (echR r c xs).pv.length ≤ R) := fun ho => by
    obtain ⟨-, R, C, us, pv, e1, e2, h1, h2, -, -, -, e3, h4, h5⟩ := echR_ok ho
    exact ⟨R, C, e1, e2, h1, h2, by rw [e3]; exact h4, by rw [e3]; show (pvI pv).length ≤ R; rw [pvI_length]; exact h5⟩
  have O2 : Hid ((echR r2 c2 ys).ok = true → ∃ R C : Nat, r2 = R ∧ c2 = C ∧ R ≤ 24 ∧ C ≤ 24 ∧ (echR r2 c2 ys).zs.length = R * C ∧ (echR r2 c2 ys).pv.length ≤ R) := fun ho => by
    obtain ⟨-, R, C, us, pv, e1, e2, h1, h2, -, -, -, e3, h4, h5⟩ := echR_ok ho
    exact ⟨R, C, e1, e2, h1, h2, by rw [e3]; exact h4, by rw [e3]; show (pvI pv).length ≤ R; rw [pvI_length]; exact h5⟩
  have PF : Hid (¬ ((echR r c xs).ok = true ∧ (echR r2 c2 ys).ok = true ∧ c = c2) → spOf r c xs r2 c2 ys = (false, false)) := fun h => if_neg h
  have PT : Hid ((echR r c xs).ok = true → (echR r2 c2 ys).ok = true → c = c2 → spOf r c xs r2 c2 ys = (decide ((echR r c xs).pv.length = (echR r2 c2 ys).pv.length) && decide (∀ i, i < (echR r c xs).pv.length * c.toNat → (echR r c xs).zs.getD i 0 = (echR r2 c2 ys).zs.getD i 0), true)) := fun h1 h2 h3 => if_pos ⟨h1, h2, h3⟩
  generalize spOf r c xs r2 c2 ys = P at PF PT ⊢
  generalize echR r c xs = A at E1 O1 PF PT ⊢
  generalize echR r2 c2 ys = D at E2 O2 PF PT ⊢
  clear h hn ha h2 hn2 ha2
  generalize xs.length = L at E1 ⊢
  generalize ys.length = L2 at E2 ⊢
  go_enter Try.func26, Try.ntmps26
  go_upto_region 1 with fail
  have K0 : Hid (Blk3 ((w.alloc (.cells #[.int .i64 r, .int .i64 c, .slice a L m] 26)).alloc (.cells #[.int .i64 r2, .int .i64 c2, .slice a2 L2 m2] 26)) w.heap.size 26 (.int .i64 r) (.int .i64 c) (.slice a L m)) := (Blk3.at_ _ _ _ _ rfl).old _
  have K1 : Hid (Blk3 ((w.alloc (.cells #[.int .i64 r, .int .i64 c, .slice a L m] 26)).alloc (.cells #[.int .i64 r2, .int .i64 c2, .slice a2 L2 m2] 26)) (w.heap.size + 1) 26 (.int .i64 r2) (.int .i64 c2) (.slice a2 L2 m2)) := Blk3.at_ _ _ _ _ (by simp)
  have B0 : Hid (Below w.heap.size w ((w.alloc (.cells #[.int .i64 r, .int .i64 c, .slice a L m] 26)).alloc (.cells #[.int .i64 r2, .int .i64 c2, .slice a2 L2 m2] 26))) := ((Below.refl _ _).alloc (Nat.le_refl _) _).alloc (by simp) _
  generalize (w.alloc (.cells #[.int .i64 r, .int .i64 c, .slice a L m] 26)).alloc (.cells #[.int .i64 r2, .int .i64 c2, .slice a2 L2 m2] 26) = W0 at K0 K1 B0 ⊢
  obtain ⟨p0, p1, p2, -, -, -⟩ := K0.out.all
  go_wp2_with fail
  refine (E1.out _ B0.out).mono ?_
  rintro e w1 ⟨va, vb, rfl, oa, ob, hd, hb⟩
  obtain ⟨qa, ca, hva, hra, -⟩ := oa.form
  obtain ⟨qb, cb, hvb, -, -⟩ := ob.form
  subst hva hvb
  have sb := hb.size
  have K0 := Lib.hid ((K0.out.step hb).old (.cells #[.int .i64 A.r, .int .i64 A.c, .slice qa A.zs.length ca] 26))
  have K1 := Lib.hid ((K1.out.step hb).old (.cells #[.int .i64 A.r, .int .i64 A.c, .slice qa A.zs.length ca] 26))
  have Bx := B0.out.trans (hb.mono B0.out.size)
  have B1 := Lib.hid (Bx.alloc Bx.size (.cells #[.int .i64 A.r, .int .i64 A.c, .slice qa A.zs.length ca] 26))
  have X1 : Hid (Blk3 (w1.alloc (.cells #[.int .i64 A.r, .int .i64 A.c, .slice qa A.zs.length ca] 26)) w1.heap.size 26 (.int .i64 A.r) (.int .i64 A.c) (.slice qa A.zs.length ca)) := Blk3.at_ _ _ _ _ rfl
  have RX := Lib.hid (hra.below ((Below.refl _ _).alloc (Nat.le_refl _) (.cells #[.int .i64 A.r, .int .i64 A.c, .slice qa A.zs.length ca] 26)))
  clear hb oa ob hd p0 p1 p2 Bx hra sb
  go_upto_region 2 with fail
  generalize w1.alloc (.cells #[.int .i64 A.r, .int .i64 A.c, .slice qa A.zs.length ca] 26) = W1 at K0 K1 B1 X1 RX ⊢
  obtain ⟨p0, p1, p2, -, -, -⟩ := K1.out.all
  go_wp2_with fail
  refine (E2.out _ B1.out).mono ?_
  rintro e w2 ⟨vc, vd, rfl, oc, od, hd, hb⟩
  obtain ⟨qd, cd, hvc, hrd, -⟩ := oc.form
  obtain ⟨qe, ce, hvd, -, -⟩ := od.form
  subst hvc hvd
  have Bx := B1.out.trans (hb.mono B1.out.size)
  have ST : Hid (SpSt w (w.heap.size + 1) w1.heap.size w2.heap.size r c r2 c2 a a2 qa qd L m L2 m2 ca cd A D (w2.alloc (.cells #[.int .i64 D.r, .int .i64 D.c, .slice qd D.zs.length cd] 26))) := ⟨(K0.out.step hb).old _, (K1.out.step hb).old _, (X1.out.step hb).old _, Blk3.at_ _ _ _ _ rfl, (RX.out.below hb).below ((Below.refl _ _).alloc (Nat.le_refl _) _), hrd.below ((Below.refl _ _).alloc (Nat.le_refl _) _), Bx.alloc Bx.size _⟩
  clear hb oc od hd p0 p1 p2 Bx hrd K0 K1 X1 RX B1 B0
  go_upto_region 3 with fail
  generalize w2.alloc (.cells #[.int .i64 D.r, .int .i64 D.c, .slice qd D.zs.length cd] 26) = W2 at ST ⊢
  obtain ⟨p0, p1, p2, -, -, -⟩ := ST.out.b1.all
  obtain ⟨t0, t1, t2, -, -, -⟩ := ST.out.b2.all
  have BL := Lib.hid ST.out.bel
  generalize A.ok = k1 at O1 PF PT ⊢
  generalize D.ok = k2 at O2 PF PT ⊢
  cases k1 with
  | false =>
    have PN := Lib.hid (PF.out (fun h => absurd h.1 (by decide)))
    go_wp2_with fail
    exact bodyPost_ret (v := .tuple #[.bool false, .bool false]) (by simp [results, Try.results26, go_sem]) rfl ⟨by rw [PN.out], BL.out⟩
  | true =>
    cases k2 with
    | false =>
      have PN := Lib.hid (PF.out (fun h => absurd h.2.1 (by decide)))
      go_wp2_with fail
      exact bodyPost_ret (v := .tuple #[.bool false, .bool false]) (by simp [results, Try.results26, go_sem]) rfl ⟨by rw [PN.out], BL.out⟩
    | true =>
      by_cases hc : c = c2
      · subst hc
        obtain ⟨R, C, rfl, rfl, hR, hC, hz, hp⟩ := O1.out rfl
        obtain ⟨R2, C2, -, e2, hR2, hC2, hz2, hp2⟩ := O2.out rfl
        obtain rfl : C = C2 := by omega
        have PP := Lib.hid (PT.out rfl rfl rfl)
        have n1 : ((C : Int) != (C : Int)) = false := by simp
        generalize hna : A.pv.length = na at hp PP ⊢
        generalize hnd : D.pv.length = nd at hp2 PP ⊢
        clear e2 PF PT O1 O2 hna hnd
        have l1 : na * C ≤ R * C := Nat.mul_le_mul_right _ hp
        have l2 : nd * C ≤ R2 * C := Nat.mul_le_mul_right _ hp2
        have l3 : R * C ≤ 24 * 24 := Nat.mul_le_mul hR hC
        rw [← hz] at l1
        rw [← hz2] at l2
        rw [← hz] at l3
        have HL1 := Lib.hid l1
        have HL2 := Lib.hid l2
        have T2 : Hid (A.zs.length ≤ 576) := l3
        have n5 : IntKind.i64.wrap ((na : Int) * (C : Int)) = ((na * C : Nat) : Int) := by
          rw [← Int.natCast_mul]; exact IntWalk.i64_in _ (by omega)
        have PQ : Hid (P = (decide (na = nd) && decide (∀ i, i < na * C → A.zs.getD i 0 = D.zs.getD i 0), true)) := by
          have h := PP.out
          rw [show (C : Int).toNat = C from by omega] at h
          exact h
        clear l1 l2 l3 hz hz2 PP hp hp2
        by_cases hl : na = nd
        · subst hl
          have n2 : ((na : Int) != (na : Int)) = false := by simp
          generalize hT : na * C = T at HL1 HL2 n5 PQ
          clear hT
          go_wp2_with fail
          clear p0 p1 p2 t0 t1 t2
          go_loopw [4, 5, 12] (fun _ _ v12 wr => ∃ i : Nat, v12 = .int .i64 i ∧ i ≤ T ∧ (∀ k, k < i → A.zs.getD k 0 = D.zs.getD k 0) ∧ SpSt w (w.heap.size + 1) w1.heap.size w2.heap.size R C r2 C a a2 qa qd L m L2 m2 ca cd A D wr) (fun _ _ v12 _ => T - (intOf v12).toNat)
          case atStart => exact ⟨0, rfl, by omega, fun k hk => by omega, ST.out⟩
          case round =>
            clear ST BL
            obtain ⟨i, rfl, hi, hsame, hst⟩ := hrel
            have ST := Lib.hid hst
            have SM := Lib.hid hsame
            have BL := Lib.hid hst.bel
            clear hst hsame
            obtain ⟨p0, p1, p2, -, -, -⟩ := ST.out.b1.all
            obtain ⟨x0, x1, x2, -, -, -⟩ := ST.out.bx.all
            obtain ⟨y0, y1, y2, -, -, -⟩ := ST.out.by_.all
            have h1 := HL1.out
            have h576 := T2.out
            have h2 := HL2.out
            by_cases hlt : i < T
            · obtain ⟨bx, ox, hqx, hcx⟩ := ST.out.rx i (by omega)
              obtain ⟨bd, od, hqd, hcd⟩ := ST.out.ry i (by omega)
              subst hqx hqd
              have i1 : (i : Int) < (A.zs.length : Int) := by omega
              have i2 : (i : Int) < (D.zs.length : Int) := by omega
              have i0 : (0 : Int) ≤ (i : Int) := by omega
              generalize A.zs.length = la at x2 i1 h1 h576 ST HL1 T2
              generalize D.zs.length = ld at y2 i2 h2 ST HL2
              obtain ⟨vx, hvx⟩ : ∃ vx, A.zs.getD i 0 = vx := ⟨_, rfl⟩
              obtain ⟨vy, hvy⟩ : ∃ vy, D.zs.getD i 0 = vy := ⟨_, rfl⟩
              have VX := Lib.hid hvx
              have VY := Lib.hid hvy
              rw [hvx] at hcx
              rw [hvy] at hcd
              clear hvx hvy
              by_cases he : vx = vy
              · have n3 : (vx != vy) = false := by simp [he]
                have SM2 : Hid (∀ k, k < i + 1 → A.zs.getD k 0 = D.zs.getD k 0) := fun k hk => by
                  rcases Nat.lt_or_ge k i with h3 | h3
                  · exact SM.out k h3
                  · obtain rfl : k = i := by omega
                    rw [VX.out, VY.out, he]
                clear he
                go_wp2_with fail
                go_quiet (fail)
                go_wp2_with fail
                go_roundw
                case rel => exact ⟨i + 1, by go_num, by omega, SM2.out, by first | exact ST.out | exact ST.out.drewN _⟩
                case measure => simp [intOf]; omega
              · have n3 : (vx != vy) = true := by simpa using he
                have PN : Hid (P = (false, true)) := by
                  show P = _
                  rw [PQ.out, decide_eq_false (p := ∀ i, i < T → A.zs.getD i 0 = D.zs.getD i 0) (fun h => he (by rw [← VX.out, ← VY.out]; exact h i hlt))]
                  simp
                clear he
                go_wp2_with fail
                go_quiet (fail)
                go_wp2_with fail
                exact bodyPost_ret (v := .tuple #[.bool false, .bool true]) (by simp [results, Try.results26, go_sem]) rfl ⟨by rw [PN.out], by first | exact BL.out | exact below_drewN BL.out _⟩
            · have PN : Hid (P = (true, true)) := by
                show P = _
                rw [PQ.out, decide_eq_true (p := ∀ i, i < T → A.zs.getD i 0 = D.zs.getD i 0) (fun k hk => SM.out k (by omega))]
                simp
              go_wp2_with fail
              exact bodyPost_ret (v := .tuple #[.bool true, .bool true]) (by simp [results, Try.results26, go_sem]) rfl ⟨by rw [PN.out], BL.out⟩
        · have n2 : ((na : Int) != (nd : Int)) = true := by simp; omega
          have PN : Hid (P = (false, true)) := by show P = _; rw [PQ.out, decide_eq_false hl]; rfl
          clear hl
          go_wp2_with fail
          exact bodyPost_ret (v := .tuple #[.bool false, .bool true]) (by simp [results, Try.results26, go_sem]) rfl ⟨by rw [PN.out], BL.out⟩
      · have n1 : (c != c2) = true := by simpa using hc
        have hc2 := hc
        clear hc
        have PN := Lib.hid (PF.out (fun h => hc2 h.2.2))
        clear hc2
        go_wp2_with fail
        exact bodyPost_ret (v := .tuple #[.bool false, .bool false]) (by simp [results, Try.results26, go_sem]) rfl ⟨by rw [PN.out], BL.out⟩
end Go.Proofs.Ytbdofgkcedpamaa
end
