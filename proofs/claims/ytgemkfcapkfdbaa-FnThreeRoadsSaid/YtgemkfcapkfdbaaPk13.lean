/-
  Texts of this seat, joined: SgMath · LdI · PmI · RdI · IvI · DmI · CmI · PvR · SwR · ClI · EcI · ElI · RkI
-/
import Derived.Deep.DeepCutAuto
import Derived.IntWalk
import Derived.StillTailTactics
import Derived.Deep.RegionHeld3
import Derived.BigQuiet
import Derived.Test.YtgemkfcapkfdbaaPk4
import Derived.Test.YtgemkfcapkfdbaaPk5
import Derived.Test.YtgemkfcapkfdbaaPk8
import Derived.Test.YtgemkfcapkfdbaaPk9
import Derived.Test.YtgemkfcapkfdbaaPk10
import Derived.Test.YtgemkfcapkfdbaaPk12

section
/-
  Plain mathematics of chapter 7: what a row is divided by in the program. Nothing of a program is used.
-/
namespace Go.Proofs.Ytgemkfcapkfdbaa

/-- What a row is divided by. -/
def sgD (c : Nat) (v : Nat → Int) : Int := if gcdN c v = 0 then 1 else sgnN c v * gcdN c v
theorem sgD_div {c : Nat} {v : Nat → Int} (j : Nat) : (v j).tdiv (sgD c v) = prV c v j := by
  unfold sgD prV
  by_cases h : gcdN c v = 0
  · rw [if_pos h, if_pos h, Int.tdiv_one]
  · rw [if_neg h, if_neg h]
    rcases sgnN_or c v with hs | hs | hs
    · exact absurd hs (sgnN_ne h)
    · rw [hs, Int.one_mul, Int.one_mul]
    · rw [hs, Int.neg_mul, Int.neg_mul, Int.one_mul, Int.one_mul, Int.tdiv_neg, Int.neg_tdiv]
theorem sgD_ne (c : Nat) (v : Nat → Int) : sgD c v ≠ 0 := by
  unfold sgD
  by_cases h : gcdN c v = 0
  · rw [if_pos h]; decide
  · rw [if_neg h]
    exact Int.mul_ne_zero (sgnN_ne h) h
theorem sgD_num {c : Nat} {v : Nat → Int} (h : ∀ j, j < c → NumP (v j)) : NumP (sgD c v) := by
  have hg := gcdN_num h
  unfold sgD
  split
  · exact ⟨by decide, by decide⟩
  · unfold NumP at hg ⊢
    rcases sgnN_or c v with hs | hs | hs <;> rw [hs] <;> omega
theorem lead_zero {c : Nat} {v : Nat → Int} : leadC c v = c ↔ gcdN c v = 0 := by
  obtain ⟨h1, h2, h3⟩ := leadC_says c v
  constructor
  · intro h
    exact gcdN_all fun j hj => h2 j (by omega)
  · intro h
    rcases Nat.lt_or_ge (leadC c v) c with h4 | h4
    · exact absurd (gcdN_none h _ h4) (h3 h4)
    · omega
theorem sgD_end {c : Nat} {v : Nat → Int} (h : leadC c v = c) : sgD c v = 1 := by
  unfold sgD
  rw [if_pos (lead_zero.mp h)]
theorem sgD_lead {c : Nat} {v : Nat → Int} (h : leadC c v < c) : sgD c v = if v (leadC c v) < 0 then -gcdN c v else gcdN c v := by
  obtain ⟨h1, h2, h3⟩ := leadC_says c v
  unfold sgD
  rw [if_neg (fun e => by have := lead_zero.mpr e; omega), sgnN_first h h2 (h3 h)]
  split
  · rw [Int.neg_mul, Int.one_mul]
  · rw [Int.one_mul]
/-- The divisor is 1 for a row as an echelon form has it. -/
theorem sgD_one {c : Nat} {v : Nat → Int} : sgD c v = 1 ↔ ¬ (leadC c v < c ∧ (v (leadC c v) < 0 ∨ gcdN c v ≠ 1)) := by
  have g0 := gcdN_nonneg c v
  obtain ⟨h1, h2, h3⟩ := leadC_says c v
  rcases Nat.lt_or_ge (leadC c v) c with h | h
  · rw [sgD_lead h]
    by_cases hn : v (leadC c v) < 0
    · rw [if_pos hn]
      constructor
      · intro e; omega
      · intro e; exact absurd ⟨h, .inl hn⟩ e
    · rw [if_neg hn]
      constructor
      · rintro e ⟨-, h4 | h4⟩
        · exact hn h4
        · exact h4 e
      · intro e
        exact Classical.byContradiction fun h4 => e ⟨h, .inr h4⟩
  · rw [sgD_end (by omega)]
    exact ⟨fun _ h4 => by omega, fun _ => rfl⟩
/-- A row that is primitive has no other divisor. -/
theorem prL_norm {r c i : Nat} {xs : List Int} (hx : xs.length = r * c) (h : i < r → Norm c (mxC c xs i)) : prL r c i xs = xs := by
  rw [prL_row]
  exact rowL_self hx fun hi q hq => prV_id (h hi) hq
/-- A row with 0 in the pivot's column stays as it is. -/
theorem rdV_skip {u v : Nat → Int} {j : Nat} (hu : u j = 0) (hv : 0 < v j) (k : Nat) : rdV j u v k = u k := by
  unfold rdV
  rw [hu, Int.gcd_zero_left, Int.natAbs_of_nonneg (by omega), Int.tdiv_self (by omega), Int.zero_tdiv]
  omega
theorem rdL_skip {r c t j i : Nat} {xs : List Int} (hx : xs.length = r * c) (hu : mxC c xs i j = 0) (hv : 0 < mxC c xs t j) (hn : i < r → Norm c (mxC c xs i)) : rdL r c t j i xs = xs := by
  rw [rdL_row]
  refine rowL_self hx fun hi q hq => ?_
  have e : prV c (rdV j (mxC c xs i) (mxC c xs t)) q = prV c (mxC c xs i) q := prV_congr (fun k _ => rdV_skip hu hv k) q hq
  rw [e, prV_id (hn hi) hq]
theorem rowN_skip {c t j i r : Nat} {xs : List Int} (hx : xs.length = r * c) (nx : nums xs = true) (hi : i < r) (hu : mxC c xs i j = 0) (hv : 0 < mxC c xs t j) : rowN c (rdV j (mxC c xs i) (mxC c xs t)) = true :=
  rowN_iff.mpr fun q hq => by rw [rdV_skip hu hv]; exact mx_nums hx nx hi hq
/-- One row of the elimination as the program does it: rows with 0 are not left out. -/
theorem elimR_go {r c t j k i : Nat} {xs : List Int} (hx : xs.length = r * c) (nx : nums xs = true) (hi : i < r) (hit : i ≠ t) (hv : 0 < mxC c xs t j) (hn : Norm c (mxC c xs i)) :
    (rowN c (rdV j (mxC c xs i) (mxC c xs t)) = true → elimR r c t j (k + 1) i xs = elimR r c t j k (i + 1) (rdL r c t j i xs)) ∧ (rowN c (rdV j (mxC c xs i) (mxC c xs t)) ≠ true → elimR r c t j (k + 1) i xs = none) := by
  by_cases h0 : mxC c xs i j = 0
  · refine ⟨fun _ => ?_, fun h => absurd (rowN_skip hx nx hi h0 hv) h⟩
    rw [elimR_skip (.inr h0), rdL_skip hx h0 hv fun _ => hn]
  · have h1 : ¬ (i = t ∨ mxC c xs i j = 0) := fun e => e.elim hit h0
    exact ⟨fun h => elimR_on h1 h, fun h => elimR_bad h1 h⟩
/-- Where all rows have their pivots, nothing is left to do. -/
theorem echC_full {r c : Nat} {xs : List Int} {pv : List Nat} (h : ¬ pv.length < r) (k j : Nat) : echC r c k j xs pv = some (xs, pv) := by
  cases k with
  | zero => rfl
  | succ k => exact if_neg h
end Go.Proofs.Ytgemkfcapkfdbaa
end

section
/-
  Chapter 7, in the program: a row's first cell with something, and what the row is divided by.
-/
namespace Go.Proofs.Ytgemkfcapkfdbaa
set_option maxRecDepth 100000
open Go.RowKit

end Go.Proofs.Ytgemkfcapkfdbaa
end

section
/-
  Chapter 7, in the program: a row made primitive (the closure of EchelonOf).
-/
namespace Go.Proofs.Ytgemkfcapkfdbaa
set_option maxRecDepth 100000
open Go.RowKit

/-- The cells of a matrix: nil, or all of what shows in block g. -/
def Cel (w : World) (q : Option Addr) (N cap g : Nat) (xs : List Int) : Prop := (q = none ∧ cap = 0 ∧ N = 0 ∧ xs = []) ∨ (q = some ⟨g, 0, none⟩ ∧ N ≤ cap ∧ xs.length = N ∧ Ints w g xs)
theorem Cel.spot {w : World} {q : Option Addr} {N cap g : Nat} {xs : List Int} (h : Cel w q N cap g xs) : Spot q := by
  rcases h with ⟨h, -⟩ | ⟨h, -⟩
  · exact .inl h
  · exact .inr ⟨g, 0, h⟩
theorem Cel.le {w : World} {q : Option Addr} {N cap g : Nat} {xs : List Int} (h : Cel w q N cap g xs) : N ≤ cap := by
  rcases h with ⟨-, h1, h2, -⟩ | ⟨-, h, -⟩ <;> omega
theorem Cel.nil {w : World} {q : Option Addr} {N cap g : Nat} {xs : List Int} (h : Cel w q N cap g xs) (hq : q = none) : cap = 0 := by
  rcases h with ⟨-, h1, -⟩ | ⟨h, -⟩
  · exact h1
  · rw [hq] at h; cases h
theorem Cel.len {w : World} {q : Option Addr} {N cap g : Nat} {xs : List Int} (h : Cel w q N cap g xs) : xs.length = N := by
  rcases h with ⟨-, -, h1, h2⟩ | ⟨-, -, h, -⟩
  · rw [h1, h2]; rfl
  · exact h
theorem Cel.ints {w : World} {q : Option Addr} {N cap g : Nat} {xs : List Int} (h : Cel w q N cap g xs) (h0 : 0 < N) : q = some ⟨g, 0, none⟩ ∧ Ints w g xs := by
  rcases h with ⟨-, -, h1, -⟩ | ⟨h1, -, -, h2⟩
  · omega
  · exact ⟨h1, h2⟩
theorem Cel.rd {w : World} {q : Option Addr} {N cap g : Nat} {xs : List Int} (h : Cel w q N cap g xs) : Rd w q xs := by
  rcases h with ⟨-, -, -, rfl⟩ | ⟨rfl, -, -, h⟩
  · exact Rd.nil _ _
  · exact h.rd
theorem Cel.move {w w' : World} {q : Option Addr} {N cap g : Nat} {xs : List Int} (h : Cel w q N cap g xs) (e : g < w.heap.size → w'.heap[g]? = w.heap[g]?) : Cel w' q N cap g xs := by
  rcases h with h | ⟨h1, h2, h3, h4⟩
  · exact .inl h
  · exact .inr ⟨h1, h2, h3, h4.move (e h4.lt)⟩
theorem Cel.keep {w w' : World} {q : Option Addr} {N cap g : Nat} {xs : List Int} (h : Cel w q N cap g xs) (hb : Below w.heap.size w w') : Cel w' q N cap g xs := h.move fun hl => hb.block g hl
theorem Cel.drewN {w : World} {q : Option Addr} {N cap g : Nat} {xs : List Int} (h : Cel w q N cap g xs) (n : Nat) : Cel (w.drewN n) q N cap g xs := h
theorem Cel.put {w w' : World} {q : Option Addr} {N cap g : Nat} {xs ys : List Int} (h : Cel w q N cap g xs) (h0 : 0 < N) (hl : ys.length = N) (hi : Ints w' g ys) : Cel w' q N cap g ys :=
  .inr ⟨(h.ints h0).1, h.le, hl, hi⟩
theorem Cel.own {w : World} {q : Option Addr} {N cap g B : Nat} {xs : List Int} (h : Cel w q N cap g xs) (hB : B ≤ g) (hN : N ≤ 16777216) : Own B w (.slice q N cap) xs := by
  rcases h with ⟨rfl, rfl, rfl, rfl⟩ | ⟨rfl, h1, h2, h3⟩
  · exact .inl ⟨rfl, rfl⟩
  · exact .inr ⟨g, cap, by rw [h2], hB, h3, by omega, by omega⟩
end Go.Proofs.Ytgemkfcapkfdbaa
end

section
/-
  Chapter 8, in the program: ReduceMod.
-/
namespace Go.Proofs.Ytgemkfcapkfdbaa
set_option maxRecDepth 100000
open Go.RowKit

set_option maxHeartbeats 2000000 in
theorem iRed (r c p : Int) (a : Option Addr) (m : Nat) (xs : List Int) (w : World) (h : Rd w a xs) (hn : xs.length ≤ 16777216) :
    Calls Try.prog 87 #[.agg #[.int .i64 r, .int .i64 c, .slice a xs.length m], .int .i64 p] w (MatRes (redM r c p xs) w) := by
  have IM : Hid (∀ w', Below w.heap.size w w' → Calls Try.prog 76 #[.agg #[.int .i64 r, .int .i64 c, .slice a xs.length m]] w' (Gives (.bool (isMat r c xs)) w')) := fun w' hb => iIsMat r c a m xs w' (h.below hb) hn
  have HX : Hid (isMat r c xs = true → xs.length ≤ 576) := fun hm => by
    obtain ⟨⟨r0, r1⟩, ⟨c0, c1⟩, hl, -⟩ := isMat_says hm
    have h2 : r * c ≤ 24 * 24 := Int.mul_le_mul (by omega) (by omega) c0 (by omega)
    omega
  have CP : Hid (xs.length ≤ 576 → ∀ w', Below w.heap.size w w' → Calls Try.prog 51 #[.agg #[.int .i64 r, .int .i64 c, .slice a xs.length m]] w' (CopyM r c xs.length xs w')) := fun hl w' hb => iCopyOf r c a m xs.length xs rfl w' (h.below hb) (by omega)
  have H := Lib.hid h
  have VN : Hid (isMat r c xs = false ∨ prmB p = false → redM r c p xs = MR.no) := fun h => by
    show _ = _
    unfold redM
    rcases h with h | h
    · rw [h]; rfl
    · rw [h, Bool.and_false]; rfl
  have VY : Hid (isMat r c xs = true → prmB p = true → redM r c p xs = ⟨true, r, c, resL p xs⟩) := fun h1 h2 => by
    show _ = _
    unfold redM
    rw [h1, h2]; rfl
  have NX : Hid (isMat r c xs = true → ∀ k, k < xs.length → -400000000 ≤ xs.getD k 0 ∧ xs.getD k 0 ≤ 400000000) := fun hm k hk => nums_at (isMat_says hm).2.2.2 hk
  have PB : Hid (prmB p = true → 2 ≤ p ∧ p ≤ 10000) := fun h => ⟨(prmB_says h).1.1, (prmB_says h).2⟩
  have ML : Hid (∀ k, (mixL xs k fun i => xs.getD i 0 % p).length = xs.length) := fun k => mixL_length _ _ _
  have MA : Hid (∀ k, (mixL xs k fun i => xs.getD i 0 % p).getD k 0 = xs.getD k 0) := fun k => mixL_at _ _ _
  have MS : Hid (∀ k, (mixL xs k fun i => xs.getD i 0 % p).set k (xs.getD k 0 % p) = mixL xs (k + 1) fun i => xs.getD i 0 % p) := fun k => mixL_step xs k (fun i => xs.getD i 0 % p)
  have MZ : Hid ((mixL xs 0 fun i => xs.getD i 0 % p) = xs) := mixL_zero _ _
  have ME : Hid ((mixL xs xs.length fun i => xs.getD i 0 % p) = resL p xs) := resL_mix
  have RN : Hid ((resL p xs).length = xs.length) := by show _ = _; unfold resL; exact List.length_map ..
  obtain ⟨N, hN⟩ : ∃ N, xs.length = N := ⟨_, rfl⟩
  rw [hN] at IM CP HX NX ML ME RN hn ⊢
  generalize redM r c p xs = RES at VN VY ⊢
  generalize isMat r c xs = bm at IM HX NX VN VY
  have XN := Lib.hid hN
  clear h hN
  go_enter Try.func87, Try.ntmps87
  go_upto_region 1 with fail
  have K0 : Hid (Blk3 ((w.alloc (.cells #[.int .i64 r, .int .i64 c, .slice a N m] 34)).alloc (.cells #[.int .i64 0, .int .i64 0, .slice none 0 0] 34)) w.heap.size 34 (.int .i64 r) (.int .i64 c) (.slice a N m)) := (Blk3.at_ _ _ _ _ rfl).old _
  have R0 : Hid (Blk3 ((w.alloc (.cells #[.int .i64 r, .int .i64 c, .slice a N m] 34)).alloc (.cells #[.int .i64 0, .int .i64 0, .slice none 0 0] 34)) (w.heap.size + 1) 34 (.int .i64 0) (.int .i64 0) (.slice none 0 0)) := Blk3.at_ _ _ _ _ (by simp)
  have B0 : Hid (Below w.heap.size w ((w.alloc (.cells #[.int .i64 r, .int .i64 c, .slice a N m] 34)).alloc (.cells #[.int .i64 0, .int .i64 0, .slice none 0 0] 34))) := ((Below.refl _ _).alloc (Nat.le_refl _) _).alloc (by simp) _
  have S0 : Hid (((w.alloc (.cells #[.int .i64 r, .int .i64 c, .slice a N m] 34)).alloc (.cells #[.int .i64 0, .int .i64 0, .slice none 0 0] 34)).heap.size = w.heap.size + 2) := by show _ = _; simp
  generalize (w.alloc (.cells #[.int .i64 r, .int .i64 c, .slice a N m] 34)).alloc (.cells #[.int .i64 0, .int .i64 0, .slice none 0 0] 34) = W0 at K0 R0 B0 S0 ⊢
  obtain ⟨p0, p1, p2, -, -, -⟩ := K0.out.all
  go_wp2_with fail
  refine (IM.out _ B0.out).mono ?_
  rintro e w1 ⟨rfl, hb⟩
  have s0 := S0.out
  have sb := hb.size
  have K1 := Lib.hid (K0.out.step hb)
  have R1 := Lib.hid (R0.out.step hb)
  have B1 := Lib.hid (B0.out.trans (hb.mono (by omega)))
  clear hb K0 R0 B0 S0 p0 p1 p2
  obtain ⟨p0, p1, p2, -, -, -⟩ := K1.out.all
  cases bm with
  | false =>
    have RX := Lib.hid (VN.out (.inl rfl))
    clear p0 p1 p2
    obtain ⟨r0, r1, r2, f0, f1, f2⟩ := R1.out.all
    go_wp2_with fail
    obtain ⟨E0, E1, E2, -, -, -⟩ := (((R1.out.set0 (.int .i64 0)).set1 (.int .i64 0)).set2 (.slice none 0 0)).all
    rw [RX.out]
    exact bodyPost_ret (v := .tuple #[.agg #[.int .i64 0, .int .i64 0, .slice none 0 0], .bool false]) (by simp [results, Try.results87, go_sem, E0, E1, E2]) rfl ⟨_, rfl, .inl ⟨rfl, rfl⟩, ((B1.out.setCell (Nat.le_succ _) _).setCell (Nat.le_succ _) _).setCell (Nat.le_succ _) _⟩
  | true =>
    go_wp2_with fail
    refine (iPrime p _).mono ?_
    rintro e w2 ⟨rfl, hb2⟩
    have sb2 := hb2.size
    have K2 := Lib.hid (K1.out.step hb2)
    have R2 := Lib.hid (R1.out.step hb2)
    have B2 := Lib.hid (B1.out.trans (hb2.mono (by omega)))
    clear hb2 K1 R1 B1 p0 p1 p2
    obtain ⟨p0, p1, p2, -, -, -⟩ := K2.out.all
    obtain ⟨bp, hbp⟩ : ∃ b, prmB p = b := ⟨_, rfl⟩
    rw [hbp] at VN VY PB ⊢
    clear hbp
    cases bp with
    | false =>
      have RX := Lib.hid (VN.out (.inr rfl))
      clear p0 p1 p2
      obtain ⟨r0, r1, r2, f0, f1, f2⟩ := R2.out.all
      go_wp2_with fail
      obtain ⟨E0, E1, E2, -, -, -⟩ := (((R2.out.set0 (.int .i64 0)).set1 (.int .i64 0)).set2 (.slice none 0 0)).all
      rw [RX.out]
      exact bodyPost_ret (v := .tuple #[.agg #[.int .i64 0, .int .i64 0, .slice none 0 0], .bool false]) (by simp [results, Try.results87, go_sem, E0, E1, E2]) rfl ⟨_, rfl, .inl ⟨rfl, rfl⟩, ((B2.out.setCell (Nat.le_succ _) _).setCell (Nat.le_succ _) _).setCell (Nat.le_succ _) _⟩
    | true =>
      obtain ⟨hp1, hp2⟩ := PB.out rfl
      have N5 := HX.out trivial
      have np : p ≠ 0 := by omega
      have RX := Lib.hid (VY.out trivial rfl)
      go_wp2_with fail
      refine (CP.out N5 _ B2.out).mono ?_
      rintro e w3 ⟨q, cap, rfl, own, hb⟩
      have sb3 := hb.size
      have s0 := K2.out.lt
      have s9 := R2.out.lt
      obtain ⟨g, C3, g1, g2, g3⟩ : ∃ g, Cel w3 q N cap g xs ∧ w.heap.size ≤ g ∧ g < w3.heap.size ∧ g ≠ w.heap.size + 1 := by
        rcases own with ⟨e, e2⟩ | ⟨g, c', e, hB, hi, hl, -⟩
        · injection e with e1 e3 e4
          exact ⟨w.heap.size, .inl ⟨e1, e4, e3, e2⟩, by omega, by omega, by omega⟩
        · injection e with e1 e3 e4
          subst e1
          exact ⟨g, .inr ⟨rfl, by omega, e3.symm, hi⟩, by omega, hi.lt, by omega⟩
      have R3 := Lib.hid ((R2.out.step hb).old (.cells #[.int .i64 r, .int .i64 c, .slice q N cap] 34))
      have O3 := Lib.hid ((K2.out.step hb).old (.cells #[.int .i64 r, .int .i64 c, .slice q N cap] 34))
      have Bx := B2.out.trans (hb.mono (by omega))
      have B3 := Lib.hid (Bx.alloc Bx.size (.cells #[.int .i64 r, .int .i64 c, .slice q N cap] 34))
      have I3 := Lib.hid (C3.keep (Below.alloc (Below.refl _ _) (Nat.le_refl _) (.cells #[.int .i64 r, .int .i64 c, .slice q N cap] 34)))
      have A3 : Hid (Blk3 (w3.alloc (.cells #[.int .i64 r, .int .i64 c, .slice q N cap] 34)) w3.heap.size 34 (.int .i64 r) (.int .i64 c) (.slice q N cap)) := Blk3.at_ _ _ _ _ rfl
      clear hb Bx p0 p1 p2 K2 R2 B2 IM CP own C3
      go_upto_region 4 with fail
      generalize w3.alloc (.cells #[.int .i64 r, .int .i64 c, .slice q N cap] 34) = W3 at R3 O3 B3 I3 A3 ⊢
      obtain ⟨b, hbb⟩ : ∃ b, w3.heap.size = b := ⟨_, rfl⟩
      rw [hbb] at A3 g2 ⊢
      obtain ⟨rb, hrb⟩ : ∃ rb, w.heap.size + 1 = rb := ⟨_, rfl⟩
      rw [hrb] at R3 g3 ⊢
      have l1 : w.heap.size ≤ rb := by omega
      have gne : g ≠ w.heap.size ∨ N = 0 := by
        rcases I3.out with h | h
        · have : xs = [] := h.2.2.2
          exact .inr (by rw [← XN.out, this]; rfl)
        · refine .inl fun e => ?_
          obtain ⟨-, -, -, h4⟩ := h
          obtain ⟨rest, h4⟩ := h4
          have h5 := O3.out
          unfold Blk3 at h5
          rw [e, h5] at h4
          injection h4 with h4
          injection h4 with h4 h6 h7
          exact absurd h6 (by decide)
      have WW := Lib.hid B3.out
      clear hbb hrb sb3 sb s0 s9 sb2
      obtain ⟨p0, p1, p2, -, -, -⟩ := O3.out.all
      go_wp2_with fail
      clear p0 p1 p2
      go_loopw [7, 8, 23] (fun _ _ v23 wr => ∃ k : Nat, v23 = .int .i64 k ∧ k ≤ N ∧ Cel wr q N cap g (mixL xs k fun i => xs.getD i 0 % p) ∧ W3.grownBy wr (some g)) (fun _ _ v23 _ => N - (intOf v23).toNat)
      case atStart => exact ⟨0, rfl, by omega, by rw [MZ.out]; exact I3.out, World.grownBy.refl _ _⟩
      case round =>
        obtain ⟨k, rfl, hk, hi, hgr⟩ := hrel
        have CI := Lib.hid hi
        have G := Lib.hid hgr
        clear hi hgr
        have R4 := Lib.hid (R3.out.keepOne G.out g3.symm)
        have A4 := Lib.hid (A3.out.keepOne G.out (by omega))
        have B4 := Lib.hid (B3.out.trans (below_of_one G.out g1 B3.out.size))
        by_cases hlt : k < N
        · obtain ⟨rfl, hi⟩ := CI.out.ints (by omega)
          have I := Lib.hid hi
          clear hi
          have MK := Lib.hid (MS.out k)
          obtain ⟨b1, o1, rfl, hc1⟩ := H.out k (by rw [XN.out]; exact hlt)
          have u1 := World.block_lt_of_cell? w _ hc1
          have hc1 := G.out.cell ((B3.out.cell (p := ⟨b1, o1 + k, none⟩) u1).trans hc1) (by simp; simp at u1; omega)
          obtain ⟨v1, v2⟩ := NX.out trivial k hlt
          obtain ⟨x, hx⟩ : ∃ x, xs.getD k 0 = x := ⟨_, rfl⟩
          rw [hx] at hc1 v1 v2 MK
          clear hx u1
          go_wp2_with fail
          refine wp_region_held_drew (S := fun w' => Blk3 w' b 34 (.int .i64 r) (.int .i64 c) (.slice (some ⟨g, 0, none⟩) N cap)) (by kernel_rfl) A4.out.drew (fun hH => ?_)
          refine wpAnyH_take (i := 0) (v := ?_) (by simp only [List.getElem?_toArray, List.getElem?_cons_zero]; rfl) (by kernel_rfl) (by kernel_rfl) (by kernel_rfl) (by exact fun _ _ _ h => h) (Or.inl ⟨by rfl, ?_⟩) hH ?_
          rotate_left
          · (intro wS hS; clear hS; go_simp; try rfl)
          try simp only [Act.put, List.setIfInBounds_toArray, List.set_cons_zero, List.set_cons_succ]
          refine wpAnyH_take (i := 1) (v := ?_) (by simp only [List.getElem?_toArray, List.getElem?_cons_succ, List.getElem?_cons_zero]; rfl) (by kernel_rfl) (by kernel_rfl) (by kernel_rfl) (by exact fun _ _ _ h => h) (Or.inl ⟨by rfl, ?_⟩) hH ?_
          rotate_left
          · (intro wS hS; (try dsimp only at hS); have k2 := hS.cell2; clear hS; go_simp; try rfl)
          try simp only [Act.put, List.setIfInBounds_toArray, List.set_cons_zero, List.set_cons_succ]
          refine wpAnyH_take (i := 2) (v := ?_) (by simp only [List.getElem?_toArray, List.getElem?_cons_succ, List.getElem?_cons_zero]; rfl) (by kernel_rfl) (by kernel_rfl) (by kernel_rfl) (by exact fun _ _ _ h => h) (Or.inl ⟨by rfl, ?_⟩) hH ?_
          rotate_left
          · (intro wS hS; clear hS; go_simp; try rfl)
          try simp only [Act.put, List.setIfInBounds_toArray, List.set_cons_zero, List.set_cons_succ]
          refine wpAnyH_take (i := 3) (v := ?_) (by simp only [List.getElem?_toArray, List.getElem?_cons_succ, List.getElem?_cons_zero]; rfl) (by kernel_rfl) (by kernel_rfl) (by kernel_rfl) (by exact fun _ _ _ h => h) (Or.inl ⟨by rfl, ?_⟩) hH ?_
          rotate_left
          · (intro wS hS; clear hS; go_simp; try rfl)
          try simp only [Act.put, List.setIfInBounds_toArray, List.set_cons_zero, List.set_cons_succ]
          refine wpAnyH_take (i := 4) (v := ?_) (by simp only [List.getElem?_toArray, List.getElem?_cons_succ, List.getElem?_cons_zero]; rfl) (by kernel_rfl) (by kernel_rfl) (by kernel_rfl) (by exact fun _ _ _ h => h) (Or.inl ⟨by rfl, ?_⟩) hH ?_
          rotate_left
          · (intro wS hS; clear hS; go_simp; try rfl)
          try simp only [Act.put, List.setIfInBounds_toArray, List.set_cons_zero, List.set_cons_succ]
          refine wpAnyH_ready (rs := [5]) (by kernel_rfl) (by simp) ?_
          refine AllReadyH.cons (by simp only [List.getElem?_toArray, List.getElem?_cons_succ, List.getElem?_cons_zero]; rfl) (fun K hK => ?_) AllReadyH.nil
          go_simp
          (with_reducible refine (iDiv x p _ v1 v2 (by omega) (by omega) np).mono ?_)
          rintro e v3 ⟨rfl, nq, rfl⟩
          try dsimp only
          refine hK.out _ _ (hH.drewN nq) (fun hH2 => ?_)
          clear hK K hH
          have hH := hH2
          clear hH2
          try simp only [Act.put, List.setIfInBounds_toArray, List.set_cons_zero, List.set_cons_succ]
          refine wpAnyH_take (i := 6) (v := ?_) (by simp only [List.getElem?_toArray, List.getElem?_cons_succ, List.getElem?_cons_zero]; rfl) (by kernel_rfl) (by kernel_rfl) (by kernel_rfl) (by exact fun _ _ _ h => h) (Or.inl ⟨by rfl, ?_⟩) hH ?_
          rotate_left
          · (intro wS hS; clear hS; go_simp; try rfl)
          try simp only [Act.put, List.setIfInBounds_toArray, List.set_cons_zero, List.set_cons_succ]
          refine wpAnyH_take (i := 7) (v := ?_) (by simp only [List.getElem?_toArray, List.getElem?_cons_succ, List.getElem?_cons_zero]; rfl) (by kernel_rfl) (by kernel_rfl) (by kernel_rfl) (by exact fun _ _ _ h => h) (Or.inl ⟨by rfl, ?_⟩) hH ?_
          rotate_left
          · (intro wS hS; clear hS; go_simp; try rfl)
          try simp only [Act.put, List.setIfInBounds_toArray, List.set_cons_zero, List.set_cons_succ]
          refine wpAnyH_take (i := 8) (v := ?_) (by simp only [List.getElem?_toArray, List.getElem?_cons_succ, List.getElem?_cons_zero]; rfl) (by kernel_rfl) (by kernel_rfl) (by kernel_rfl) (by exact fun _ _ _ h => h) (Or.inl ⟨by rfl, ?_⟩) hH ?_
          rotate_left
          · (intro wS hS; clear hS; go_simp; try rfl)
          try simp only [Act.put, List.setIfInBounds_toArray, List.set_cons_zero, List.set_cons_succ]
          refine wpAnyH_take (i := 9) (v := ?_) (by simp only [List.getElem?_toArray, List.getElem?_cons_succ, List.getElem?_cons_zero]; rfl) (by kernel_rfl) (by kernel_rfl) (by kernel_rfl) (by exact fun _ _ _ h => h) (Or.inl ⟨by rfl, ?_⟩) hH ?_
          rotate_left
          · (intro wS hS; clear hS; go_simp; try rfl)
          try simp only [Act.put, List.setIfInBounds_toArray, List.set_cons_zero, List.set_cons_succ]
          refine wpAnyH_take (i := 10) (v := ?_) (by simp only [List.getElem?_toArray, List.getElem?_cons_succ, List.getElem?_cons_zero]; rfl) (by kernel_rfl) (by kernel_rfl) (by kernel_rfl) (by exact fun _ _ _ h => h) (Or.inl ⟨by rfl, ?_⟩) hH ?_
          rotate_left
          · (intro wS hS; clear hS; go_simp; try rfl)
          try simp only [Act.put, List.setIfInBounds_toArray, List.set_cons_zero, List.set_cons_succ]
          have I5 := Lib.hid ((I.out.drewN (1 + nq)).set k (x % p))
          have G5 := Lib.hid (grown_set_one (a := ⟨g, k, none⟩) (grown_drewN_one G.out (1 + nq)) rfl (.int .i64 (x % p)))
          have A5 := Lib.hid ((A4.out.drewN (1 + nq)).far (a := ⟨g, k, none⟩) (by show b ≠ g; omega) (.int .i64 (x % p)))
          have hold := I.out.cell (i := k) (by rw [ML.out]; exact hlt)
          have hfr := I.out.free k
          refine wpAnyH_ready (rs := [11]) (by kernel_rfl) (by simp) ?_
          refine AllReadyH.cons (by simp only [List.getElem?_toArray, List.getElem?_cons_succ, List.getElem?_cons_zero]; rfl) (fun K hK => ?_) AllReadyH.nil
          clear hH
          go_simp
          try dsimp only
          refine hK.out _ _ A5.out (fun hH2 => ?_)
          clear hK K hH2 hold hfr
          try simp only [Act.put, List.setIfInBounds_toArray, List.set_cons_zero, List.set_cons_succ]
          refine wpAnyH_done (by kernel_rfl) ?_ _
          go_wp2_with fail
          go_roundw
          case rel => exact ⟨k + 1, by go_num, by omega, by rw [← MK.out]; exact .inr ⟨rfl, CI.out.le, by rw [List.length_set, ML.out], I5.out⟩, G5.out⟩
          case measure => simp [intOf]; omega
        · obtain rfl : N = k := by omega
          rw [ME.out] at CI
          obtain ⟨r0, r1, r2, f0, f1, f2⟩ := R4.out.all
          obtain ⟨p0, p1, p2, -, -, -⟩ := A4.out.all
          go_wp2_with fail
          obtain ⟨E0, E1, E2, -, -, -⟩ := (((R4.out.set0 (.int .i64 r)).set1 (.int .i64 c)).set2 (.slice q N cap)).all
          rw [RX.out]
          refine bodyPost_ret (v := .tuple #[.agg #[.int .i64 r, .int .i64 c, .slice q N cap], .bool true]) (by simp [results, Try.results87, go_sem, E0, E1, E2]) rfl ⟨_, rfl, ?_, ((B4.out.setCell l1 _).setCell l1 _).setCell l1 _⟩
          refine Cel.own (g := g) (CI.out.move fun _ => ?_) g1 (by omega)
          exact ((Below.heap_setCell _ _ _ g (by show g ≠ rb; omega)).trans (Below.heap_setCell _ _ _ g (by show g ≠ rb; omega))).trans (Below.heap_setCell _ _ _ g (by show g ≠ rb; omega))
end Go.Proofs.Ytgemkfcapkfdbaa
end

section
/-
  Chapter 8, in the program: InverseModulo; a row divided by a pivot; a row without its cell in the pivot's column.
-/
namespace Go.Proofs.Ytgemkfcapkfdbaa
set_option maxRecDepth 100000
open Go.RowKit

/-- The combination that ExtendedGcd makes of any number and a prime. -/
theorem ext_any {p a : Int} (hp : Prm p) (hp2 : p ≤ 10000) (ha : NumP a) (hn : a % p ≠ 0) : ∃ x z : Int, egAns a p = (1, x, z) ∧ invF p (a % p) = x % p ∧ -400000000 ≤ x ∧ x ≤ 400000000 := by
  have hp1 := hp.1
  obtain ⟨x, z, e, hxz, b1, b2, -, -⟩ := egAns_is a p ha ⟨by omega, by omega⟩
  have hnd : ¬ p ∣ a := fun h => hn (Int.emod_eq_zero_of_dvd h)
  have hg : (Int.gcd a p : Int) = 1 := by have := hp.gcd hnd; omega
  rw [hg] at e hxz
  refine ⟨x, z, e, invF_ext (y := z + a / p * x) (g := 1) hp ?_ rfl, b1, b2⟩
  rw [Int.emod_def]
  grind
/-- .. of a multiple of the prime: its divisor is not 1. -/
theorem ext_mult {p a : Int} (hp : Prm p) (hp2 : p ≤ 10000) (ha : NumP a) (hn : a % p = 0) : ∃ g x z : Int, egAns a p = (g, x, z) ∧ g ≠ 1 := by
  have hp1 := hp.1
  obtain ⟨x, z, e, hxz, -, -, -, -⟩ := egAns_is a p ha ⟨by omega, by omega⟩
  refine ⟨_, x, z, e, fun h1 => ?_⟩
  have hdv : p ∣ (Int.gcd a p : Int) := by
    rw [← hxz]
    exact Int.dvd_add (Int.dvd_trans (Int.dvd_of_emod_eq_zero hn) (Int.dvd_mul_right a x)) (Int.dvd_mul_right p z)
  rw [h1] at hdv
  have := Int.le_of_dvd (by omega) hdv
  omega
theorem iInvM (a p : Int) (w : World) : Calls Try.prog 110 #[.int .i64 a, .int .i64 p] w fun e w' => e = .returned (.tuple #[.int .i64 (ivM p a).1, .bool (ivM p a).2]) ∧ Below w.heap.size w w' := by
  rcases Bool.eq_false_or_eq_true (prmB p) with h1 | h1
  · obtain ⟨hp, hp2⟩ := prmB_says h1
    have hp1 := hp.1
    have np : p ≠ 0 := by omega
    have P1 := Lib.hid h1
    by_cases h2 : NumP a
    · by_cases h3 : a % p = 0
      · have V := Lib.hid (ivM_no3 h3)
        obtain ⟨g, x, z, hx, hg⟩ := ext_mult hp hp2 h2 h3
        have HX : Hid (egVal (egAns a p) = .tuple #[.int .i64 g, .int .i64 x, .int .i64 z, .bool true]) := by show _ = _; rw [hx]; rfl
        have n1 : (g != 1) = true := by simpa using hg
        clear h1 h3 hp hx hg
        go_enter Try.func110, Try.ntmps110
        go_wp2_with fail
        refine (iPrime p _).mono ?_
        rintro e w1 ⟨rfl, hb1⟩
        rw [P1.out]
        go_wp2_with fail
        refine (iExt a p _ h2 ⟨by omega, by omega⟩).mono ?_
        rintro e w2 ⟨rfl, hb2⟩
        have B := Lib.hid (hb1.trans (hb2.mono hb1.size))
        clear hb1 hb2
        rw [HX.out]
        go_wp2_with fail
        exact bodyPost_ret (v := .tuple #[.int .i64 0, .bool false]) (by simp [results, Try.results110, go_sem]) rfl ⟨by rw [V.out], B.out⟩
      · have V := Lib.hid (ivM_yes h1 h2 rfl h3)
        obtain ⟨x, z, hx, hi, b1, b2⟩ := ext_any hp hp2 h2 h3
        have HI := Lib.hid hi
        have HX : Hid (egVal (egAns a p) = .tuple #[.int .i64 1, .int .i64 x, .int .i64 z, .bool true]) := by show _ = _; rw [hx]; rfl
        clear h1 h3 hp hi hx
        go_enter Try.func110, Try.ntmps110
        go_wp2_with fail
        refine (iPrime p _).mono ?_
        rintro e w1 ⟨rfl, hb1⟩
        rw [P1.out]
        go_wp2_with fail
        refine (iExt a p _ h2 ⟨by omega, by omega⟩).mono ?_
        rintro e w2 ⟨rfl, hb2⟩
        have B := Lib.hid (hb1.trans (hb2.mono hb1.size))
        clear hb1 hb2
        rw [HX.out]
        go_wp2_with fail
        refine (iDiv x p _ b1 b2 (by omega) (by omega) np).mono ?_
        rintro e w3 ⟨rfl, n, rfl⟩
        have B2 := Lib.hid (below_drewN B.out n)
        go_wp2_with fail
        exact bodyPost_ret (v := .tuple #[.int .i64 (x % p), .bool true]) (by simp [results, Try.results110, go_sem]) rfl ⟨by rw [V.out, ← HI.out], B2.out⟩
    · have V := Lib.hid (ivM_no2 (p := p) h2)
      have h2' : ¬ ((-400000000 ≤ a ∧ a ≤ 400000000) ∧ (-400000000 ≤ p ∧ p ≤ 400000000)) := fun h => h2 h.1
      clear h1 h2 hp
      go_enter Try.func110, Try.ntmps110
      go_wp2_with fail
      refine (iPrime p _).mono ?_
      rintro e w1 ⟨rfl, hb1⟩
      rw [P1.out]
      go_wp2_with fail
      refine (iExt_f a p _ h2').mono ?_
      rintro e w2 ⟨rfl, rfl⟩
      go_wp2_with fail
      exact bodyPost_ret (v := .tuple #[.int .i64 0, .bool false]) (by simp [results, Try.results110, go_sem]) rfl ⟨by rw [V.out], hb1⟩
  · have V := Lib.hid (ivM_no1 (a := a) h1)
    have P1 := Lib.hid h1
    clear h1
    go_enter Try.func110, Try.ntmps110
    go_wp2_with fail
    refine (iPrime p _).mono ?_
    rintro e w1 ⟨rfl, hb1⟩
    rw [P1.out]
    go_wp2_with fail
    exact bodyPost_ret (v := .tuple #[.int .i64 0, .bool false]) (by simp [results, Try.results110, go_sem]) rfl ⟨by rw [V.out], hb1⟩
end Go.Proofs.Ytgemkfcapkfdbaa
end

section
/-
  Chapter 8, in the program: a row divided by a pivot; a row without its cell in the pivot's column.
-/
namespace Go.Proofs.Ytgemkfcapkfdbaa
set_option maxRecDepth 100000
open Go.RowKit

set_option maxHeartbeats 2000000 in
theorem iDivide (r c t N g m : Nat) (x p : Int) (xs : List Int) (w : World) (hN : N = r * c) (hx : xs.length = N) (hc : c ≤ 24) (htr : t < r) (hp : prmB p = true) (hcan : CanL p xs) (h0 : 0 ≤ x) (h1 : x < p) (hn : x ≠ 0) (hi : Ints w g xs) :
    Calls Try.prog 102 #[.slice (some ⟨g, t * c, none⟩) c m, .int .i64 x, .int .i64 p] w (fun e w' => Void e ∧ Ints w' g (rowL r c t (scV p (invF p x) (mxC c xs t)) xs) ∧ w.grownBy w' (some g)) := by
  have hl : xs.length = r * c := by rw [hx, hN]
  obtain ⟨pp, hp2⟩ := prmB_says hp
  have hp1 := pp.1
  obtain ⟨-, i0, i1⟩ := pp.hasInv.inv pp (can_nd ⟨h0, h1⟩ hn)
  have IV := Lib.hid (ivM_can hp h0 h1 hn)
  have LI : Hid (∀ q, q < c → t * c + q < N) := fun q hq => by rw [hN]; exact idx_lt htr hq
  have RX : Hid (∀ k, k < c → (rowTo r c t (scV p (invF p x) (mxC c xs t)) xs k).getD (t * c + k) 0 = mxC c xs t k) := fun k hk => rowTo_old htr hk (.inr (Nat.le_refl _))
  have RS : Hid (∀ k, k < c → (rowTo r c t (scV p (invF p x) (mxC c xs t)) xs k).set (t * c + k) ((mxC c xs t k * invF p x) % p) = rowTo r c t (scV p (invF p x) (mxC c xs t)) xs (k + 1)) := fun k hk => rowTo_step htr hk
  have RL : Hid (∀ k, (rowTo r c t (scV p (invF p x) (mxC c xs t)) xs k).length = N) := fun k => by rw [rowTo_length, hN]
  have RZ : Hid (rowTo r c t (scV p (invF p x) (mxC c xs t)) xs 0 = xs) := rowTo_zero hl
  have RA : Hid (rowTo r c t (scV p (invF p x) (mxC c xs t)) xs c = rowL r c t (scV p (invF p x) (mxC c xs t)) xs) := rowTo_all
  have ZT : Hid (∀ q, q < c → 0 ≤ mxC c xs t q ∧ mxC c xs t q < p) := fun q hq => hcan.mx hl htr hq
  have I := Lib.hid hi

  have lg := hi.lt
  obtain ⟨v, hv⟩ : ∃ v, invF p x = v := ⟨_, rfl⟩
  rw [hv] at IV i0 i1 RX RS RL RZ RA ⊢
  obtain ⟨D, hD⟩ : ∃ D, t * c = D := ⟨_, rfl⟩
  rw [hD] at LI RX RS ⊢
  have np : ¬ p = 0 := by omega
  clear hl hx hN hD hi hv pp hp hcan
  go_enter Try.func102, Try.ntmps102
  go_wp2_with fail
  refine (iInvM x p _).mono ?_
  rintro e w1 ⟨rfl, hb⟩
  rw [IV.out]
  have I := Lib.hid (I.out.keep hb lg)
  have G := Lib.hid (grown_of_below hb (some g))
  clear hb
  go_wp2_with fail
  go_loopw [8, 17] (fun _ v17 wr => ∃ h : Nat, v17 = .int .i64 h ∧ h ≤ c ∧ Ints wr g (rowTo r c t (scV p v (mxC c xs t)) xs h) ∧ w.grownBy wr (some g)) (fun _ v17 _ => c - (intOf v17).toNat)
  case atStart => exact ⟨0, rfl, by omega, by rw [RZ.out]; exact I.out, G.out⟩
  case round =>
    clear I G
    obtain ⟨h, rfl, hh, hi, hgr⟩ := hrel
    have I := Lib.hid hi
    have G := Lib.hid hgr
    clear hi hgr
    by_cases hlt : h < c
    · have hca := I.out.cell (i := D + h) (by rw [RL.out]; exact LI.out h hlt)
      have hfr := I.out.free (D + h)
      rw [RX.out h hlt] at hca
      obtain ⟨z1, z2⟩ := ZT.out h hlt
      have RS := Lib.hid (RS.out h hlt)
      generalize mxC c xs t h = ea at hca z1 z2 RS
      obtain ⟨m3, m4⟩ := mul_bd z1 z2 i0 i1 hp2
      obtain ⟨y, hy⟩ : ∃ y, ea * v = y := ⟨_, rfl⟩
      have w2 : IntKind.i64.wrap (ea * v) = y := by rw [← hy]; exact IntWalk.i64_in _ (by omega)
      rw [hy] at m3 m4 RS
      have e2 : Int.tmod y p = y % p := Int.tmod_eq_emod_of_nonneg m3
      have IS := Lib.hid (I.out.set (D + h) (y % p))
      have GS := Lib.hid (grown_set_one (a := ⟨g, D + h, none⟩) G.out rfl (.int .i64 (y % p)))
      clear hy
      go_wp2_with fail
      go_roundw
      case rel => exact ⟨h + 1, by go_num, by omega, by rw [← RS.out]; exact IS.out, GS.out⟩
      case measure => simp [intOf]; omega
    · obtain rfl : c = h := by omega
      go_wp2_with fail
      go_end0
      exact ⟨rfl, by rw [← RA.out]; exact I.out, G.out⟩
end Go.Proofs.Ytgemkfcapkfdbaa
end

section
/-
  Chapter 8, in the program: a row without its cell in the pivot's column.
-/
namespace Go.Proofs.Ytgemkfcapkfdbaa
set_option maxRecDepth 100000
open Go.RowKit

theorem less_mod {p a x b : Int} : (a + (p - x) * b) % p = (a - x * b) % p := by
  rw [show a + (p - x) * b = (a - x * b) + p * b by grind, Int.add_mul_emod_self_left]
set_option maxHeartbeats 2000000 in
theorem iClearM (r c i t j N g mi mt : Nat) (p : Int) (xs : List Int) (w : World) (hN : N = r * c) (hx : xs.length = N) (hc : c ≤ 24) (hir : i < r) (htr : t < r) (hit : i ≠ t) (hj : j < c) (hp : prmB p = true) (hcan : CanL p xs) (hi : Ints w g xs) :
    Calls Try.prog 103 #[.slice (some ⟨g, i * c, none⟩) c mi, .slice (some ⟨g, t * c, none⟩) c mt, .int .i64 j, .int .i64 p] w (fun e w' => Void e ∧ Ints w' g (rowL r c i (lsV p (mxC c xs i j) (mxC c xs i) (mxC c xs t)) xs) ∧ w.grownBy w' (some g)) := by
  have hl : xs.length = r * c := by rw [hx, hN]
  obtain ⟨pp, hp2⟩ := prmB_says hp
  have hp1 := pp.1
  have IL : Hid (∀ i q, i < r → q < c → i * c + q < N) := fun i q hi hq => by rw [hN]; exact idx_lt hi hq
  have NI : Hid (∀ k, k < c → 0 ≤ mxC c xs i k ∧ mxC c xs i k < p) := fun k hk => hcan.mx hl hir hk
  have NT : Hid (∀ k, k < c → 0 ≤ mxC c xs t k ∧ mxC c xs t k < p) := fun k hk => hcan.mx hl htr hk
  have hcx : w.cell? ⟨g, i * c + j, none⟩ = some (.int .i64 (mxC c xs i j)) := hi.cell (by rw [hl]; exact idx_lt hir hj)
  obtain ⟨x0, x1⟩ := NI.out j hj
  obtain ⟨x, hxx⟩ : ∃ x, mxC c xs i j = x := ⟨_, rfl⟩
  rw [hxx] at x0 x1 hcx ⊢
  have RT : Hid (∀ k, k < c → (rowTo r c i (lsV p x (mxC c xs i) (mxC c xs t)) xs k).set (i * c + k) ((mxC c xs i k + (p - x) * mxC c xs t k) % p) = rowTo r c i (lsV p x (mxC c xs i) (mxC c xs t)) xs (k + 1)) := fun k hk => by rw [less_mod]; exact rowTo_step hir hk
  have RX : Hid (∀ k, k < c → (rowTo r c i (lsV p x (mxC c xs i) (mxC c xs t)) xs k).getD (i * c + k) 0 = mxC c xs i k) := fun k hk => rowTo_old hir hk (.inr (Nat.le_refl _))
  have RY : Hid (∀ k, k < c → (rowTo r c i (lsV p x (mxC c xs i) (mxC c xs t)) xs k).getD (t * c + k) 0 = mxC c xs t k) := fun k hk => rowTo_old htr hk (.inl (fun e => hit e.symm))
  have RL : Hid (∀ k, (rowTo r c i (lsV p x (mxC c xs i) (mxC c xs t)) xs k).length = N) := fun k => by rw [rowTo_length, hN]
  have RZ : Hid (rowTo r c i (lsV p x (mxC c xs i) (mxC c xs t)) xs 0 = xs) := rowTo_zero hl
  have RA : Hid (rowTo r c i (lsV p x (mxC c xs i) (mxC c xs t)) xs c = rowL r c i (lsV p x (mxC c xs i) (mxC c xs t)) xs) := rowTo_all
  have I := Lib.hid hi
  have lg := hi.lt
  generalize lsV p x (mxC c xs i) (mxC c xs t) = u at RT RX RY RL RZ RA ⊢
  obtain ⟨Di, hDi⟩ : ∃ D, i * c = D := ⟨_, rfl⟩
  obtain ⟨Dt, hDt⟩ : ∃ D, t * c = D := ⟨_, rfl⟩
  have LI : Hid (∀ q, q < c → Di + q < N) := fun q hq => by rw [← hDi]; exact IL.out i q hir hq
  have LT : Hid (∀ q, q < c → Dt + q < N) := fun q hq => by rw [← hDt]; exact IL.out t q htr hq
  rw [hDi] at RT RX hcx ⊢
  rw [hDt] at RY ⊢
  have np : ¬ p = 0 := by omega
  obtain ⟨v, hv⟩ : ∃ v, p - x = v := ⟨_, rfl⟩
  have w0 : IntKind.i64.wrap (p - x) = v := by rw [← hv]; exact IntWalk.i64_in _ (by omega)
  have v0 : 0 ≤ v ∧ v ≤ 10000 := by omega
  rw [hv] at RT
  clear hl hx hN hDi hDt hi IL hv hxx pp hp hcan
  go_enter Try.func103, Try.ntmps103
  go_wp2_with fail
  go_loopw [9, 18] (fun _ v18 wr => ∃ h : Nat, v18 = .int .i64 h ∧ h ≤ c ∧ Ints wr g (rowTo r c i u xs h) ∧ w.grownBy wr (some g)) (fun _ v18 _ => c - (intOf v18).toNat)
  case atStart => exact ⟨0, rfl, by omega, by rw [RZ.out]; exact I.out, World.grownBy.refl _ _⟩
  case round =>
    clear I hcx
    obtain ⟨h, rfl, hh, hi, hgr⟩ := hrel
    have I := Lib.hid hi
    have G := Lib.hid hgr
    clear hi hgr
    by_cases hlt : h < c
    · have hca := I.out.cell (i := Di + h) (by rw [RL.out]; exact LI.out h hlt)
      have hcb := I.out.cell (i := Dt + h) (by rw [RL.out]; exact LT.out h hlt)
      have hfr := I.out.free (Di + h)
      rw [RX.out h hlt] at hca
      rw [RY.out h hlt] at hcb
      obtain ⟨na1, na2⟩ := NI.out h hlt
      obtain ⟨nb1, nb2⟩ := NT.out h hlt
      have RS := Lib.hid (RT.out h hlt)
      generalize mxC c xs i h = ea at hca na1 na2 RS
      generalize mxC c xs t h = eb at hcb nb1 nb2 RS
      have m1 : 0 ≤ v * eb := Int.mul_nonneg v0.1 nb1
      have m2 : v * eb ≤ 10000 * 10000 := Int.mul_le_mul v0.2 (by omega) nb1 (by omega)
      obtain ⟨o, ho⟩ : ∃ o, v * eb = o := ⟨_, rfl⟩
      have v2 : IntKind.i64.wrap (v * eb) = o := by rw [← ho]; exact IntWalk.i64_in _ (by omega)
      rw [ho] at RS m1 m2
      obtain ⟨f, hf⟩ : ∃ f, ea + o = f := ⟨_, rfl⟩
      have v3 : IntKind.i64.wrap (ea + o) = f := by rw [← hf]; exact IntWalk.i64_in _ (by omega)
      rw [hf] at RS
      have e2 : Int.tmod f p = f % p := Int.tmod_eq_emod_of_nonneg (by omega)
      have IS := Lib.hid ((I.out.drew).set (Di + h) (f % p))
      have GS := Lib.hid (grown_set_one (a := ⟨g, Di + h, none⟩) (grown_drew_one G.out) rfl (.int .i64 (f % p)))
      clear ho hf
      go_wp2_with fail
      go_still_tail 16, (by kernel_rfl)
      go_wp2_with fail
      go_roundw
      case rel => exact ⟨h + 1, by go_num, by omega, by rw [← RS.out]; exact IS.out, GS.out⟩
      case measure => simp [intOf]; omega
    · obtain rfl : c = h := by omega
      go_wp2_with fail
      go_end0
      exact ⟨rfl, by rw [← RA.out]; exact I.out, G.out⟩
end Go.Proofs.Ytgemkfcapkfdbaa
end

section
/-
  Chapter 7, in the program: the pivot's row of any matrix.
-/
namespace Go.Proofs.Ytgemkfcapkfdbaa
set_option maxRecDepth 100000
open Go.RowKit

/-- What pivotRow answers. -/
def pvR (r c j t : Nat) (xs : List Int) : Int := if fstR c j xs (r - t) t = r then -1 else (fstR c j xs (r - t) t : Int)
set_option maxHeartbeats 1000000 in
theorem iPivR (r c t j N cap g : Nat) (q : Option Addr) (xs : List Int) (w : World) (hN : N = r * c) (hr : r ≤ 24) (hc : c ≤ 24) (ht : t ≤ r) (hj : j < c) (hg : Cel w q N cap g xs) :
    Calls Try.prog 52 #[.agg #[.int .i64 r, .int .i64 c, .slice q N cap], .int .i64 t, .int .i64 j] w (Gives (.int .i64 (pvR r c j t xs)) w) := by
  have hle : r * c ≤ 24 * 24 := Nat.mul_le_mul hr hc
  rw [← hN] at hle
  have hx := hg.len
  have hl : xs.length = r * c := by rw [hx, hN]
  have IX : Hid (∀ i, i < r → ∃ P : Nat, i * c + j = P ∧ P < N ∧ IntKind.i64.wrap ((i : Int) * (c : Int)) = (i : Int) * (c : Int) ∧ IntKind.i64.wrap ((i : Int) * (c : Int) + (j : Int)) = (P : Int)) := fun i hi => by
    have h1 : i * c + j < r * c := idx_lt hi hj
    have c1 : (i : Int) * (c : Int) = ((i * c : Nat) : Int) := (Int.natCast_mul _ _).symm
    refine ⟨i * c + j, rfl, by omega, IntWalk.i64_in _ (by rw [c1]; omega), ?_⟩
    rw [show (i : Int) * (c : Int) + (j : Int) = ((i * c + j : Nat) : Int) by rw [c1]; omega]
    exact IntWalk.i64_in _ (by omega)
  have BW : Hid (Below w.heap.size w (w.alloc (.cells #[.int .i64 r, .int .i64 c, .slice q N cap] 34))) := (Below.refl _ _).alloc (Nat.le_refl _) _
  have K0 : Hid (Blk3 (w.alloc (.cells #[.int .i64 r, .int .i64 c, .slice q N cap] 34)) w.heap.size 34 (.int .i64 r) (.int .i64 c) (.slice q N cap)) := Blk3.at_ _ _ _ _ rfl
  have CX : Hid (∀ i P, i < r → i * c + j = P → ∃ b o : Nat, q = some ⟨b, o, none⟩ ∧ (w.alloc (.cells #[.int .i64 r, .int .i64 c, .slice q N cap] 34)).cell? ⟨b, o + P, none⟩ = some (.int .i64 (mxC c xs i j))) := fun i P hi hP => by
    subst hP
    exact hg.rd.below BW.out _ (by rw [hl]; exact idx_lt hi hj)
  clear hN hx hl hg
  go_enter Try.func52, Try.ntmps52
  go_wp2_with fail
  generalize w.alloc (.cells #[.int .i64 r, .int .i64 c, .slice q N cap] 34) = W at BW K0 CX
  obtain ⟨p0, p1, p2, -, -, -⟩ := K0.out.all
  go_loopw [6, 7] (fun _ v7 wq => ∃ p : Nat, v7 = .int .i64 p ∧ t ≤ p ∧ p ≤ r ∧ (∀ i, t ≤ i → i < p → mxC c xs i j = 0) ∧ wq = W) (fun _ v7 _ => r - (intOf v7).toNat)
  case atStart => exact ⟨t, rfl, Nat.le_refl _, by omega, fun i h1 h2 => by omega, rfl⟩
  case round =>
    obtain ⟨p, rfl, hp1, hp2, hp0, rfl⟩ := hrel
    have P0 := Lib.hid hp0
    clear hp0
    by_cases hpn : p < r
    · obtain ⟨P, hP, hPN, u1, u2⟩ := IX.out p hpn
      have Pa : (0 : Int) ≤ (P : Int) := by omega
      have Pb : (P : Int) < (N : Int) := by omega
      obtain ⟨b, o, rfl, hcell⟩ := CX.out p P hpn hP
      obtain ⟨x, hxx⟩ : ∃ x, mxC c xs p j = x := ⟨_, rfl⟩
      have X := Lib.hid hxx
      rw [hxx] at hcell
      clear hxx hP
      by_cases h0 : x = 0
      · have n1 : (x != 0) = false := by simp [h0]
        have n2 : (x == 0) = true := by simp [h0]
        have P1 : Hid (∀ i, t ≤ i → i < p + 1 → mxC c xs i j = 0) := fun i h1 h2 => by
          rcases Nat.lt_or_ge i p with h3 | h3
          · exact P0.out i h1 h3
          · obtain rfl : i = p := by omega
            rw [X.out, h0]
        clear h0
        go_wp2_with fail
        go_roundw
        case rel => exact ⟨p + 1, by go_num, by omega, by omega, P1.out, trivial⟩
        case measure => simp [intOf]; omega
      · have n1 : (x != 0) = true := by simpa using h0
        have n2 : (x == 0) = false := by simpa using h0
        have PV : Hid (pvR r c j t xs = p) := by
          have e : fstR c j xs (r - t) t = p := fstR_eq hp1 (by omega) P0.out fun _ => by rw [X.out]; exact h0
          show pvR r c j t xs = p
          unfold pvR
          rw [e, if_neg (by omega)]
        clear h0
        go_wp2_with fail
        go_ret
        exact ⟨by rw [PV.out]; rfl, BW.out⟩
    · have hpe : p = r := by omega
      have PV : Hid (pvR r c j t xs = -1) := by
        show pvR r c j t xs = -1
        unfold pvR
        rw [if_pos ((fstR_eq hp1 (by omega) P0.out fun h => by omega).trans hpe)]
      clear hpe
      go_wp2_with fail
      go_ret
      exact ⟨by rw [PV.out]; rfl, BW.out⟩
end Go.Proofs.Ytgemkfcapkfdbaa
end

section
/-
  Chapter 7, in the program: two rows of any matrix swapped in place.
-/
namespace Go.Proofs.Ytgemkfcapkfdbaa
set_option maxRecDepth 100000
open Go.RowKit

theorem keepC {W : World} {b g : Nat} {p q v : Value} (h : W.cell? ⟨b, 0, none⟩ = some p ∧ W.cell? ⟨b, 1, none⟩ = some q ∧ W.cell? ⟨b, 2, none⟩ = some v) (hne : b ≠ g) (o : Nat) (u : Value) :
    (W.setCell ⟨g, o, none⟩ u).cell? ⟨b, 0, none⟩ = some p ∧ (W.setCell ⟨g, o, none⟩ u).cell? ⟨b, 1, none⟩ = some q ∧ (W.setCell ⟨g, o, none⟩ u).cell? ⟨b, 2, none⟩ = some v := by
  have e : ∀ k, (W.setCell ⟨g, o, none⟩ u).cell? ⟨b, k, none⟩ = W.cell? ⟨b, k, none⟩ := fun k => World.cell?_setCell_other W _ _ _ (fun e => hne (by injection e with e; exact e.symm))
  exact ⟨(e 0).trans h.1, (e 1).trans h.2.1, (e 2).trans h.2.2⟩
/-- The cells before column q of rows p and t swapped. -/
def swTo (p t c : Nat) (xs : List Int) (q : Nat) : List Int := if p = t then xs else opTo 0 p t 0 c xs q
theorem swTo_length (p t c : Nat) (xs : List Int) (q : Nat) : (swTo p t c xs q).length = xs.length := by
  unfold swTo
  split
  · rfl
  · exact opTo_length _ _ _ _ _ _ _
theorem swTo_zero (p t c : Nat) (xs : List Int) : swTo p t c xs 0 = xs := by
  unfold swTo
  split
  · rfl
  · exact opTo_zero _ _ _ _ _ _
theorem swTo_all {p t c : Nat} {xs : List Int} (h : 0 < c) : swTo p t c xs c = swC p t c xs := by
  unfold swTo swC
  split
  · rfl
  · exact opTo_all _ _ _ _ _ _ (.inr h)
theorem set_self (xs : List Int) (i : Nat) : xs.set i (xs.getD i 0) = xs := by
  rcases Nat.lt_or_ge i xs.length with h | h
  · simp [List.getD, h]
  · exact List.set_eq_of_length_le h
theorem swTo_step {r p t c q : Nat} {xs : List Int} (hx : xs.length = r * c) (hp : p < r) (ht : t < r) (hq : q < c) : ((swTo p t c xs q).set (p * c + q) (xs.getD (t * c + q) 0)).set (t * c + q) (xs.getD (p * c + q) 0) = swTo p t c xs (q + 1) := by
  unfold swTo
  by_cases e : p = t
  · rw [if_pos e, if_pos e, e, set_self, set_self]
  · rw [if_neg e, if_neg e]
    exact (op_swap p t 0 c r xs q hx hp ht hq).resolve_right e
theorem swTo_at {r p t c q i : Nat} {xs : List Int} (hx : xs.length = r * c) (hi : i < r) (hq : q < c) : (swTo p t c xs q).getD (i * c + q) 0 = xs.getD (i * c + q) 0 := by
  unfold swTo
  split
  · rfl
  · exact opTo_at _ _ _ _ _ _ _ _ hq (by rw [hx]; exact idx_lt hi hq)
set_option maxHeartbeats 2000000 in
theorem iSwR (r c p t N cap g : Nat) (xs : List Int) (w : World) (hN : N = r * c) (hx : xs.length = N) (hr : r ≤ 24) (hc : c ≤ 24) (hc0 : 0 < c) (hp : p < r) (ht : t < r) (hi : Ints w g xs) :
    Calls Try.prog 53 #[.agg #[.int .i64 r, .int .i64 c, .slice (some ⟨g, 0, none⟩) N cap], .int .i64 p, .int .i64 t] w (fun e w' => Void e ∧ Ints w' g (swC p t c xs) ∧ w.grownBy w' (some g)) := by
  have hle : r * c ≤ 24 * 24 := Nat.mul_le_mul hr hc
  rw [← hN] at hle
  have hl : xs.length = r * c := by rw [hx, hN]
  have SL : Hid (∀ q, (swTo p t c xs q).length = N) := fun q => by rw [swTo_length, hx]
  have SS : Hid (∀ q, q < c → ((swTo p t c xs q).set (p * c + q) (xs.getD (t * c + q) 0)).set (t * c + q) (xs.getD (p * c + q) 0) = swTo p t c xs (q + 1)) := fun q hq => swTo_step hl hp ht hq
  have SA : Hid (∀ i q, i < r → q < c → (swTo p t c xs q).getD (i * c + q) 0 = xs.getD (i * c + q) 0) := fun i q hi hq => swTo_at hl hi hq
  have SZ : Hid (swTo p t c xs 0 = xs) := swTo_zero _ _ _ _
  have SE : Hid (swTo p t c xs c = swC p t c xs) := swTo_all hc0
  have IL : Hid (∀ i q, i < r → q < c → i * c + q < N) := fun i q hi hq => by rw [hN]; exact idx_lt hi hq
  have lg := hi.lt
  have GW : Hid (w.grownBy (w.alloc (.cells #[.int .i64 r, .int .i64 c, .slice (some ⟨g, 0, none⟩) N cap] 34)) (some g)) := World.grownBy_alloc _ _ _
  have K0 : Hid (Blk3 (w.alloc (.cells #[.int .i64 r, .int .i64 c, .slice (some ⟨g, 0, none⟩) N cap] 34)) w.heap.size 34 (.int .i64 r) (.int .i64 c) (.slice (some ⟨g, 0, none⟩) N cap)) := Blk3.at_ _ _ _ _ rfl
  have I := Lib.hid (hi.old (.cells #[.int .i64 r, .int .i64 c, .slice (some ⟨g, 0, none⟩) N cap] 34))
  clear hN hx hi hl
  go_enter Try.func53, Try.ntmps53
  go_wp2_with fail
  generalize w.alloc (.cells #[.int .i64 r, .int .i64 c, .slice (some ⟨g, 0, none⟩) N cap] 34) = W at GW K0 I
  obtain ⟨z0, z1, z2, -, -, -⟩ := K0.out.all
  go_loopw [6, 7, 8, 11] (fun _ _ _ v11 wr => ∃ q : Nat, v11 = .int .i64 q ∧ q ≤ c ∧ Ints wr g (swTo p t c xs q) ∧ W.grownBy wr (some g)) (fun _ _ _ v11 _ => c - (intOf v11).toNat)
  case atStart => exact ⟨0, rfl, by omega, by rw [SZ.out]; exact I.out, World.grownBy.refl _ _⟩
  case round =>
    clear z0 z1 z2
    obtain ⟨q, rfl, hq, hi, hgr⟩ := hrel
    have I := Lib.hid hi
    have G := Lib.hid hgr
    clear hi hgr
    have R0 := Lib.hid (K0.out.keepOne G.out (by omega))
    obtain ⟨r0, r1, r2, -, -, -⟩ := R0.out.all
    by_cases hlt : q < c
    · have ja := IL.out p q hp hlt
      have jb := IL.out t q ht hlt
      have ca : (p : Int) * (c : Int) = ((p * c : Nat) : Int) := (Int.natCast_mul _ _).symm
      have cb : (t : Int) * (c : Int) = ((t * c : Nat) : Int) := (Int.natCast_mul _ _).symm
      obtain ⟨A, hA⟩ : ∃ A, p * c + q = A := ⟨_, rfl⟩
      obtain ⟨C, hC⟩ : ∃ C, t * c + q = C := ⟨_, rfl⟩
      have va0 : IntKind.i64.wrap ((p : Int) * (c : Int)) = (p : Int) * (c : Int) := IntWalk.i64_in _ (by rw [ca]; omega)
      have va1 : IntKind.i64.wrap ((p : Int) * (c : Int) + (q : Int)) = (A : Int) := by
        rw [show (p : Int) * (c : Int) + (q : Int) = (A : Int) by rw [ca, ← hA]; omega]
        exact IntWalk.i64_in _ (by omega)
      have vb0 : IntKind.i64.wrap ((t : Int) * (c : Int)) = (t : Int) * (c : Int) := IntWalk.i64_in _ (by rw [cb]; omega)
      have vb1 : IntKind.i64.wrap ((t : Int) * (c : Int) + (q : Int)) = (C : Int) := by
        rw [show (t : Int) * (c : Int) + (q : Int) = (C : Int) by rw [cb, ← hC]; omega]
        exact IntWalk.i64_in _ (by omega)
      have a0 : (0 : Int) ≤ (A : Int) := by omega
      have a1 : (A : Int) < (N : Int) := by omega
      have b0 : (0 : Int) ≤ (C : Int) := by omega
      have b1 : (C : Int) < (N : Int) := by omega
      have s0 := SS.out q hlt
      have oa := SA.out p q hp hlt
      have ob := SA.out t q ht hlt
      rw [hA] at oa s0
      rw [hC] at ob s0
      have h1 := I.out.cell (i := A) (by rw [SL.out]; omega)
      have h2 := I.out.cell (i := C) (by rw [SL.out]; omega)
      rw [oa] at h1
      rw [ob] at h2
      obtain ⟨x, hxx⟩ : ∃ x, xs.getD A 0 = x := ⟨_, rfl⟩
      obtain ⟨y, hyy⟩ : ∃ y, xs.getD C 0 = y := ⟨_, rfl⟩
      rw [hxx, hyy] at s0
      rw [hxx] at h1
      rw [hyy] at h2
      have S0 := Lib.hid s0
      have OY : Hid (A = C → x = y) := fun h => by rw [← hxx, ← hyy, h]
      have f1 := I.out.free A
      have C36 : C < N := by omega
      clear ca cb hA hC s0 oa ob hxx hyy ja jb
      go_wp2_with fail
      go_quiet (fail)
      have I := Lib.hid (I.out.drewN nq)
      have G := Lib.hid (grown_drewN_one G.out nq)
      have ng : w.heap.size ≠ g := by omega
      replace h1 : (wr.drewN nq).cell? ⟨g, A, none⟩ = some (.int .i64 x) := h1
      replace h2 : (wr.drewN nq).cell? ⟨g, C, none⟩ = some (.int .i64 y) := h2
      replace f1 : (wr.drewN nq).frozen? ⟨g, A, none⟩ = false := f1
      replace r0 : (wr.drewN nq).cell? ⟨w.heap.size, 0, none⟩ = some (.int .i64 r) := r0
      replace r1 : (wr.drewN nq).cell? ⟨w.heap.size, 1, none⟩ = some (.int .i64 c) := r1
      replace r2 : (wr.drewN nq).cell? ⟨w.heap.size, 2, none⟩ = some (.slice (some ⟨g, 0, none⟩) N cap) := r2
      generalize wr.drewN nq = wd at I G h1 h2 f1 r0 r1 r2
      go_upto_region 5 with fail
      have hS := Lib.hid (show wd.drew.cell? ⟨w.heap.size, 0, none⟩ = some (.int .i64 r) ∧ wd.drew.cell? ⟨w.heap.size, 1, none⟩ = some (.int .i64 c) ∧ wd.drew.cell? ⟨w.heap.size, 2, none⟩ = some (.slice (some ⟨g, 0, none⟩) N cap) from ⟨r0, r1, r2⟩)
      have G := Lib.hid (grown_drew_one G.out)
      have ID := I.out.drew
      have IS := ID.set A y
      have f2 := IS.free C
      have h3 := IS.cell (i := C) (by rw [List.length_set, SL.out]; omega)
      have IS2 := Lib.hid (IS.set C x)
      replace h1 : wd.drew.cell? ⟨g, A, none⟩ = some (.int .i64 x) := h1
      replace h2 : wd.drew.cell? ⟨g, C, none⟩ = some (.int .i64 y) := h2
      replace f1 : wd.drew.frozen? ⟨g, A, none⟩ = false := f1
      clear r0 r1 r2 I ID IS

      refine wp_region_held_drew (S := fun w' => w'.cell? ⟨w.heap.size, 0, none⟩ = some (.int .i64 r) ∧ w'.cell? ⟨w.heap.size, 1, none⟩ = some (.int .i64 c) ∧ w'.cell? ⟨w.heap.size, 2, none⟩ = some (.slice (some ⟨g, 0, none⟩) N cap)) (by kernel_rfl) hS.out (fun hH => ?_)
      (try dsimp only at hH)
      generalize wd.drew = we at hS G f2 h3 IS2 h1 h2 f1 hH ⊢
      refine wpAnyH_take (i := 0) (v := ?_) (by simp only [List.getElem?_toArray, List.getElem?_cons_zero]; rfl) (by kernel_rfl) (by kernel_rfl) (by kernel_rfl) (by exact fun _ _ _ h => h) (Or.inl ⟨by rfl, ?_⟩) hH ?_
      rotate_left
      · (intro wS hS; clear hS; go_simp; try rfl)
      try simp only [Act.put, List.setIfInBounds_toArray, List.set_cons_zero, List.set_cons_succ]
      refine wpAnyH_take (i := 1) (v := ?_) (by simp only [List.getElem?_toArray, List.getElem?_cons_succ, List.getElem?_cons_zero]; rfl) (by kernel_rfl) (by kernel_rfl) (by kernel_rfl) (by exact fun _ _ _ h => h) (Or.inl ⟨by rfl, ?_⟩) hH ?_
      rotate_left
      · (intro wS hS; (try dsimp only at hS); obtain ⟨k0, k1, k2⟩ := hS; go_simp; try rfl)
      try simp only [Act.put, List.setIfInBounds_toArray, List.set_cons_zero, List.set_cons_succ]
      refine wpAnyH_take (i := 2) (v := ?_) (by simp only [List.getElem?_toArray, List.getElem?_cons_succ, List.getElem?_cons_zero]; rfl) (by kernel_rfl) (by kernel_rfl) (by kernel_rfl) (by exact fun _ _ _ h => h) (Or.inl ⟨by rfl, ?_⟩) hH ?_
      rotate_left
      · (intro wS hS; clear hS; go_simp; try rfl)
      try simp only [Act.put, List.setIfInBounds_toArray, List.set_cons_zero, List.set_cons_succ]
      refine wpAnyH_take (i := 3) (v := ?_) (by simp only [List.getElem?_toArray, List.getElem?_cons_succ, List.getElem?_cons_zero]; rfl) (by kernel_rfl) (by kernel_rfl) (by kernel_rfl) (by exact fun _ _ _ h => h) (Or.inl ⟨by rfl, ?_⟩) hH ?_
      rotate_left
      · (intro wS hS; clear hS; go_simp; try rfl)
      try simp only [Act.put, List.setIfInBounds_toArray, List.set_cons_zero, List.set_cons_succ]
      refine wpAnyH_take (i := 4) (v := ?_) (by simp only [List.getElem?_toArray, List.getElem?_cons_succ, List.getElem?_cons_zero]; rfl) (by kernel_rfl) (by kernel_rfl) (by kernel_rfl) (by exact fun _ _ _ h => h) (Or.inl ⟨by rfl, ?_⟩) hH ?_
      rotate_left
      · (intro wS hS; (try dsimp only at hS); obtain ⟨k0, k1, k2⟩ := hS; go_simp; try rfl)
      try simp only [Act.put, List.setIfInBounds_toArray, List.set_cons_zero, List.set_cons_succ]
      refine wpAnyH_take (i := 5) (v := ?_) (by simp only [List.getElem?_toArray, List.getElem?_cons_succ, List.getElem?_cons_zero]; rfl) (by kernel_rfl) (by kernel_rfl) (by kernel_rfl) (by exact fun _ _ _ h => h) (Or.inl ⟨by rfl, ?_⟩) hH ?_
      rotate_left
      · (intro wS hS; clear hS; go_simp; try rfl)
      try simp only [Act.put, List.setIfInBounds_toArray, List.set_cons_zero, List.set_cons_succ]
      refine wpAnyH_take (i := 6) (v := ?_) (by simp only [List.getElem?_toArray, List.getElem?_cons_succ, List.getElem?_cons_zero]; rfl) (by kernel_rfl) (by kernel_rfl) (by kernel_rfl) (by exact fun _ _ _ h => h) (Or.inl ⟨by rfl, ?_⟩) hH ?_
      rotate_left
      · (intro wS hS; clear hS; go_simp; try rfl)
      try simp only [Act.put, List.setIfInBounds_toArray, List.set_cons_zero, List.set_cons_succ]
      refine wpAnyH_take (i := 7) (v := ?_) (by simp only [List.getElem?_toArray, List.getElem?_cons_succ, List.getElem?_cons_zero]; rfl) (by kernel_rfl) (by kernel_rfl) (by kernel_rfl) (by exact fun _ _ _ h => h) (Or.inl ⟨by rfl, ?_⟩) hH ?_
      rotate_left
      · (intro wS hS; (try dsimp only at hS); obtain ⟨k0, k1, k2⟩ := hS; go_simp; try rfl)
      try simp only [Act.put, List.setIfInBounds_toArray, List.set_cons_zero, List.set_cons_succ]
      refine wpAnyH_take (i := 8) (v := ?_) (by simp only [List.getElem?_toArray, List.getElem?_cons_succ, List.getElem?_cons_zero]; rfl) (by kernel_rfl) (by kernel_rfl) (by kernel_rfl) (by exact fun _ _ _ h => h) (Or.inl ⟨by rfl, ?_⟩) hH ?_
      rotate_left
      · (intro wS hS; clear hS; go_simp; try rfl)
      try simp only [Act.put, List.setIfInBounds_toArray, List.set_cons_zero, List.set_cons_succ]
      refine wpAnyH_take (i := 9) (v := ?_) (by simp only [List.getElem?_toArray, List.getElem?_cons_succ, List.getElem?_cons_zero]; rfl) (by kernel_rfl) (by kernel_rfl) (by kernel_rfl) (by exact fun _ _ _ h => h) (Or.inl ⟨by rfl, ?_⟩) hH ?_
      rotate_left
      · (intro wS hS; (try dsimp only at hS); obtain ⟨k0, k1, k2⟩ := hS; go_simp; try rfl)
      try simp only [Act.put, List.setIfInBounds_toArray, List.set_cons_zero, List.set_cons_succ]
      refine wpAnyH_take (i := 11) (v := ?_) (by simp only [List.getElem?_toArray, List.getElem?_cons_succ, List.getElem?_cons_zero]; rfl) (by kernel_rfl) (by kernel_rfl) (by kernel_rfl) (by exact fun _ _ _ h => h) (Or.inl ⟨by rfl, ?_⟩) hH ?_
      rotate_left
      · (intro wS hS; clear hS; go_simp; try rfl)
      try simp only [Act.put, List.setIfInBounds_toArray, List.set_cons_zero, List.set_cons_succ]
      refine wpAnyH_take (i := 12) (v := ?_) (by simp only [List.getElem?_toArray, List.getElem?_cons_succ, List.getElem?_cons_zero]; rfl) (by kernel_rfl) (by kernel_rfl) (by kernel_rfl) (by exact fun _ _ _ h => h) (Or.inl ⟨by rfl, ?_⟩) hH ?_
      rotate_left
      · (intro wS hS; (try dsimp only at hS); obtain ⟨k0, k1, k2⟩ := hS; go_simp; try rfl)
      try simp only [Act.put, List.setIfInBounds_toArray, List.set_cons_zero, List.set_cons_succ]
      refine wpAnyH_take (i := 13) (v := ?_) (by simp only [List.getElem?_toArray, List.getElem?_cons_succ, List.getElem?_cons_zero]; rfl) (by kernel_rfl) (by kernel_rfl) (by kernel_rfl) (by exact fun _ _ _ h => h) (Or.inl ⟨by rfl, ?_⟩) hH ?_
      rotate_left
      · (intro wS hS; clear hS; go_simp; try rfl)
      try simp only [Act.put, List.setIfInBounds_toArray, List.set_cons_zero, List.set_cons_succ]
      refine wpAnyH_take (i := 14) (v := ?_) (by simp only [List.getElem?_toArray, List.getElem?_cons_succ, List.getElem?_cons_zero]; rfl) (by kernel_rfl) (by kernel_rfl) (by kernel_rfl) (by exact fun _ _ _ h => h) (Or.inl ⟨by rfl, ?_⟩) hH ?_
      rotate_left
      · (intro wS hS; (try dsimp only at hS); obtain ⟨k0, k1, k2⟩ := hS; go_simp; try rfl)
      try simp only [Act.put, List.setIfInBounds_toArray, List.set_cons_zero, List.set_cons_succ]
      refine wpAnyH_ready (rs := [10, 15]) (by kernel_rfl) (by simp) ?_
      refine AllReadyH.cons (by simp only [List.getElem?_toArray, List.getElem?_cons_succ, List.getElem?_cons_zero]; rfl) (fun KK hKK => ?_) (AllReadyH.cons (by simp only [List.getElem?_toArray, List.getElem?_cons_succ, List.getElem?_cons_zero]; rfl) (fun KK hKK => ?_) AllReadyH.nil)
      · go_simp
        try dsimp only
        refine hKK.out _ _ ?_ (fun hH2 => ?_)
        · exact hH
        clear hKK KK
        have hO := hH
        clear hH
        have hH := hH2
        clear hH2
        try simp only [Act.put, List.setIfInBounds_toArray, List.set_cons_zero, List.set_cons_succ]
        refine wpAnyH_ready (rs := [15]) (by kernel_rfl) (by simp) ?_
        refine AllReadyH.cons (by simp only [List.getElem?_toArray, List.getElem?_cons_succ, List.getElem?_cons_zero]; rfl) (fun KK hKK => ?_) AllReadyH.nil
        go_simp
        try dsimp only
        refine hKK.out _ _ ?_ (fun hH2 => ?_)
        · exact hH
        clear hKK KK
        have hO := hH
        clear hH
        have hH := hH2
        clear hH2
        try simp only [Act.put, List.setIfInBounds_toArray, List.set_cons_zero, List.set_cons_succ]
        refine wpAnyH_take (i := 16) (v := ?_) (by simp only [List.getElem?_toArray, List.getElem?_cons_succ, List.getElem?_cons_zero]; rfl) (by kernel_rfl) (by kernel_rfl) (by kernel_rfl) (by exact fun _ _ _ h => h) (Or.inl ⟨by rfl, ?_⟩) hH ?_
        rotate_left
        · (intro wS hS; (try dsimp only at hS); obtain ⟨k0, k1, k2⟩ := hS; go_simp; try rfl)
        try simp only [Act.put, List.setIfInBounds_toArray, List.set_cons_zero, List.set_cons_succ]
        refine wpAnyH_ready (rs := [17]) (by kernel_rfl) (by simp) ?_
        refine AllReadyH.cons (by simp only [List.getElem?_toArray, List.getElem?_cons_succ, List.getElem?_cons_zero]; rfl) (fun KK hKK => ?_) AllReadyH.nil
        go_simp
        try dsimp only
        refine hKK.out _ _ ?_ (fun hH2 => ?_)
        · exact keepC hH ng _ _
        clear hKK KK
        have hO := hH
        clear hH
        have hH := hH2
        clear hH2
        try simp only [Act.put, List.setIfInBounds_toArray, List.set_cons_zero, List.set_cons_succ]
        refine wpAnyH_take (i := 18) (v := ?_) (by simp only [List.getElem?_toArray, List.getElem?_cons_succ, List.getElem?_cons_zero]; rfl) (by kernel_rfl) (by kernel_rfl) (by kernel_rfl) (by exact fun _ _ _ h => h) (Or.inl ⟨by rfl, ?_⟩) hH ?_
        rotate_left
        · (intro wS hS; (try dsimp only at hS); obtain ⟨k0, k1, k2⟩ := hS; go_simp; try rfl)
        try simp only [Act.put, List.setIfInBounds_toArray, List.set_cons_zero, List.set_cons_succ]
        refine wpAnyH_ready (rs := [19]) (by kernel_rfl) (by simp) ?_
        refine AllReadyH.cons (by simp only [List.getElem?_toArray, List.getElem?_cons_succ, List.getElem?_cons_zero]; rfl) (fun KK hKK => ?_) AllReadyH.nil
        go_simp
        try dsimp only
        refine hKK.out _ _ ?_ (fun hH2 => ?_)
        · exact keepC hH ng _ _
        clear hKK KK
        have hO := hH
        clear hH
        have hH := hH2
        clear hH2
        try simp only [Act.put, List.setIfInBounds_toArray, List.set_cons_zero, List.set_cons_succ]
        refine wpAnyH_done (by kernel_rfl) ?_ _
        go_wp2_with fail
        go_roundw
        case rel => exact ⟨q + 1, by go_num, by omega, by rw [← S0.out]; exact IS2.out, grown_set_one (a := ⟨g, C, none⟩) (grown_set_one (a := ⟨g, A, none⟩) G.out rfl _) rfl _⟩
        case measure => simp [intOf]; omega
      · go_simp
        try dsimp only
        refine hKK.out _ _ ?_ (fun hH2 => ?_)
        · exact hH
        clear hKK KK
        have hO := hH
        clear hH
        have hH := hH2
        clear hH2
        try simp only [Act.put, List.setIfInBounds_toArray, List.set_cons_zero, List.set_cons_succ]
        refine wpAnyH_ready (rs := [10]) (by kernel_rfl) (by simp) ?_
        refine AllReadyH.cons (by simp only [List.getElem?_toArray, List.getElem?_cons_succ, List.getElem?_cons_zero]; rfl) (fun KK hKK => ?_) AllReadyH.nil
        go_simp
        try dsimp only
        refine hKK.out _ _ ?_ (fun hH2 => ?_)
        · exact hH
        clear hKK KK
        have hO := hH
        clear hH
        have hH := hH2
        clear hH2
        try simp only [Act.put, List.setIfInBounds_toArray, List.set_cons_zero, List.set_cons_succ]
        refine wpAnyH_take (i := 16) (v := ?_) (by simp only [List.getElem?_toArray, List.getElem?_cons_succ, List.getElem?_cons_zero]; rfl) (by kernel_rfl) (by kernel_rfl) (by kernel_rfl) (by exact fun _ _ _ h => h) (Or.inl ⟨by rfl, ?_⟩) hH ?_
        rotate_left
        · (intro wS hS; (try dsimp only at hS); obtain ⟨k0, k1, k2⟩ := hS; go_simp; try rfl)
        try simp only [Act.put, List.setIfInBounds_toArray, List.set_cons_zero, List.set_cons_succ]
        refine wpAnyH_ready (rs := [17]) (by kernel_rfl) (by simp) ?_
        refine AllReadyH.cons (by simp only [List.getElem?_toArray, List.getElem?_cons_succ, List.getElem?_cons_zero]; rfl) (fun KK hKK => ?_) AllReadyH.nil
        go_simp
        try dsimp only
        refine hKK.out _ _ ?_ (fun hH2 => ?_)
        · exact keepC hH ng _ _
        clear hKK KK
        have hO := hH
        clear hH
        have hH := hH2
        clear hH2
        try simp only [Act.put, List.setIfInBounds_toArray, List.set_cons_zero, List.set_cons_succ]
        refine wpAnyH_take (i := 18) (v := ?_) (by simp only [List.getElem?_toArray, List.getElem?_cons_succ, List.getElem?_cons_zero]; rfl) (by kernel_rfl) (by kernel_rfl) (by kernel_rfl) (by exact fun _ _ _ h => h) (Or.inl ⟨by rfl, ?_⟩) hH ?_
        rotate_left
        · (intro wS hS; (try dsimp only at hS); obtain ⟨k0, k1, k2⟩ := hS; go_simp; try rfl)
        try simp only [Act.put, List.setIfInBounds_toArray, List.set_cons_zero, List.set_cons_succ]
        refine wpAnyH_ready (rs := [19]) (by kernel_rfl) (by simp) ?_
        refine AllReadyH.cons (by simp only [List.getElem?_toArray, List.getElem?_cons_succ, List.getElem?_cons_zero]; rfl) (fun KK hKK => ?_) AllReadyH.nil
        go_simp
        try dsimp only
        refine hKK.out _ _ ?_ (fun hH2 => ?_)
        · exact keepC hH ng _ _
        clear hKK KK
        have hO := hH
        clear hH
        have hH := hH2
        clear hH2
        try simp only [Act.put, List.setIfInBounds_toArray, List.set_cons_zero, List.set_cons_succ]
        refine wpAnyH_done (by kernel_rfl) ?_ _
        go_wp2_with fail
        go_roundw
        case rel => exact ⟨q + 1, by go_num, by omega, by rw [← S0.out]; exact IS2.out, grown_set_one (a := ⟨g, C, none⟩) (grown_set_one (a := ⟨g, A, none⟩) G.out rfl _) rfl _⟩
        case measure => simp [intOf]; omega
    · obtain rfl : c = q := by omega
      clear hlt
      go_wp2_with fail
      go_end0
      exact ⟨rfl, by rw [← SE.out]; exact I.out, GW.out.trans G.out⟩
end Go.Proofs.Ytgemkfcapkfdbaa
end

section
/-
  Chapter 7, in the program: a row without its cell in the pivot's column.
-/
namespace Go.Proofs.Ytgemkfcapkfdbaa
set_option maxRecDepth 100000
open Go.RowKit

end Go.Proofs.Ytgemkfcapkfdbaa
end

section
/-
  Chapter 7, in the program: the elimination.
-/
namespace Go.Proofs.Ytgemkfcapkfdbaa
set_option maxRecDepth 100000
open Go.RowKit

theorem OwnQ.ne_blk {B b : Nat} {w : World} {v : Value} {zs : List Int} {x y z : Value} (h : OwnQ B w v zs) (k : Blk3 w b 34 x y z) : v.ownBlock ≠ some b := fun e => by
  obtain ⟨h1, ⟨h2, h3⟩ | ⟨g, cap, cur, rfl, hB, hg, rest⟩⟩ := h
  · rw [h2] at e; cases e
  · simp only [Value.ownBlock, Option.some.injEq] at e
    subst e
    unfold Blk3 at k
    rw [hg] at k
    injection k with k
    injection k with _ k2 _
    exact absurd k2 (by decide)
/-- The worlds of the walk: the copy's box, the result's block, the cells, the pivots. -/
structure EpSt (w : World) (B b rb r c N cap g : Nat) (q : Option Addr) (ys : List Int) (v : Value) (pv : List Nat) (wr : World) : Prop where
  blk : Blk3 wr b 34 (.int .i64 r) (.int .i64 c) (.slice q N cap)
  ret : Blk3 wr rb 34 (.int .i64 0) (.int .i64 0) (.slice none 0 0)
  cel : Cel wr q N cap g ys
  own : OwnQ B wr v (pvI pv)
  bel : Below w.heap.size w wr
  le : B ≤ wr.heap.size
theorem EpSt.one {w : World} {B b rb r c N cap g : Nat} {q : Option Addr} {ys ys' : List Int} {v : Value} {pv : List Nat} {wr w' : World} (h : EpSt w B b rb r c N cap g q ys v pv wr) (hi : Cel w' q N cap g ys') (hg : wr.grownBy w' (some g)) (hb : b ≠ g) (hr : rb ≠ g) (hB : g < B) (hw : w.heap.size ≤ g) : EpSt w B b rb r c N cap g q ys' v pv w' :=
  ⟨h.blk.keepOne hg hb, h.ret.keepOne hg hr, hi, h.own.one hg hB, h.bel.trans (below_of_one hg hw h.bel.size), Nat.le_trans h.le hg.size⟩
theorem EpSt.below {w : World} {B b rb r c N cap g : Nat} {q : Option Addr} {ys : List Int} {v : Value} {pv : List Nat} {wr w' : World} (h : EpSt w B b rb r c N cap g q ys v pv wr) (hb : Below wr.heap.size wr w') : EpSt w B b rb r c N cap g q ys v pv w' :=
  ⟨h.blk.step hb, h.ret.step hb, h.cel.keep hb, h.own.keep hb, h.bel.trans (hb.mono h.bel.size), Nat.le_trans h.le hb.size⟩
theorem EpSt.drewN {w : World} {B b rb r c N cap g : Nat} {q : Option Addr} {ys : List Int} {v : Value} {pv : List Nat} {wr : World} (h : EpSt w B b rb r c N cap g q ys v pv wr) (n : Nat) : EpSt w B b rb r c N cap g q ys v pv (wr.drewN n) :=
  ⟨h.blk.drewN n, h.ret.drewN n, h.cel.drewN n, h.own.drewN n, below_drewN h.bel n, h.le⟩
theorem EpSt.drew {w : World} {B b rb r c N cap g : Nat} {q : Option Addr} {ys : List Int} {v : Value} {pv : List Nat} {wr : World} (h : EpSt w B b rb r c N cap g q ys v pv wr) : EpSt w B b rb r c N cap g q ys v pv wr.drew := h.drewN 1
theorem EpSt.app {w : World} {B b rb r c N cap g : Nat} {q : Option Addr} {ys : List Int} {v v' : Value} {pv pv' : List Nat} {wr w' : World} (h : EpSt w B b rb r c N cap g q ys v pv wr) {o : Obj} (hg : (wr.alloc o).grownBy w' v.ownBlock) (ho : OwnQ B w' v' (pvI pv')) (hgB : g < B) (hw : w.heap.size ≤ B) : EpSt w B b rb r c N cap g q ys v' pv' w' := by
  have keep : ∀ k, v.ownBlock ≠ some k → k < wr.heap.size → w'.heap[k]? = wr.heap[k]? := fun k hk hl => (hg.block k (by simp; omega) (fun e => hk e.symm)).trans (Below.heap_alloc wr o k hl)
  have hs := hg.size
  simp at hs
  have hl := h.le
  exact ⟨(keep b (h.own.ne_blk h.blk) h.blk.lt).trans h.blk, (keep rb (h.own.ne_blk h.ret) h.ret.lt).trans h.ret, h.cel.move fun hl => keep g (fun e => by have := h.own.le e; omega) hl, ho, h.bel.trans ⟨hg.os, hg.tape, hg.output, by omega, fun k hk => keep k (fun e => by have := h.own.le e; omega) (by omega)⟩, by omega⟩
theorem OwnQ.far_ne {B : Nat} {w : World} {v : Value} {zs : List Int} (h : OwnQ B w v zs) {a : Addr} (ha : v.ownBlock ≠ some a.block) (u : Value) : OwnQ B (w.setCell a u) v zs :=
  h.move fun k hk => Below.heap_setCell w a u k (fun e => ha (by rw [hk, e]))
theorem EpSt.end_ {w : World} {B b rb r c N cap g : Nat} {q : Option Addr} {ys : List Int} {qv : Option Addr} {n qc : Nat} {pv : List Nat} {wr : World} (h : EpSt w B b rb r c N cap g q ys (.slice qv n qc) pv wr) (hN : N ≤ 576) (hpv : pv.length ≤ 24) (hgB : g < B) (hw : w.heap.size ≤ g) (hrw : w.heap.size ≤ rb) (hrg : rb ≠ g) (x y z : Value) :
    EchP w r c (some (ys, pv)) (.returned (.tuple #[.agg #[.int .i64 r, .int .i64 c, .slice q N cap], .slice qv n qc, .bool true])) (((wr.setCell ⟨rb, 0, none⟩ x).setCell ⟨rb, 1, none⟩ y).setCell ⟨rb, 2, none⟩ z) := by
  have hne := h.own.ne_blk h.ret
  refine .inl ⟨_, _, ys, pv, rfl, rfl, ?_, ?_, fun k hk e => ?_, ?_⟩
  · refine Cel.own (g := g) (h.cel.move fun _ => ?_) hw (by omega)
    exact ((Below.heap_setCell _ _ z g (by show g ≠ rb; omega)).trans (Below.heap_setCell _ _ y g (by show g ≠ rb; omega))).trans (Below.heap_setCell _ _ x g (by show g ≠ rb; omega))
  · exact ((((h.own.far_ne (a := ⟨rb, 0, none⟩) hne x).far_ne (a := ⟨rb, 1, none⟩) hne y).far_ne (a := ⟨rb, 2, none⟩) hne z).lower (by omega)).own (by rw [pvI_length]; omega)
  · have h1 := h.own.le e
    rcases h.cel with ⟨rfl, -⟩ | ⟨rfl, -⟩
    · cases hk
    · simp only [Value.ownBlock, Option.some.injEq] at hk
      omega
  · exact ((h.bel.setCell hrw x).setCell hrw y).setCell hrw z
theorem ep_bad {w wr : World} {rb r c : Nat} (hb : Below w.heap.size w wr) (hrw : w.heap.size ≤ rb) (x y z : Value) :
    EchP w r c none (.returned (.tuple #[.agg #[.int .i64 0, .int .i64 0, .slice none 0 0], .slice none 0 0, .bool false])) (((wr.setCell ⟨rb, 0, none⟩ x).setCell ⟨rb, 1, none⟩ y).setCell ⟨rb, 2, none⟩ z) :=
  .inr ⟨_, rfl, rfl, .inl ⟨rfl, rfl⟩, ((hb.setCell hrw x).setCell hrw y).setCell hrw z⟩
theorem cel3 {w : World} {b : Nat} {x y z : Value} (h : Blk3 w b 34 x y z) : w.cell? ⟨b, 0, none⟩ = some x ∧ w.cell? ⟨b, 1, none⟩ = some y ∧ w.cell? ⟨b, 2, none⟩ = some z := ⟨h.all.1, h.all.2.1, h.all.2.2.1⟩
end Go.Proofs.Ytgemkfcapkfdbaa
end

section
/-
  Chapter 8, in the program: the elimination over residues.
-/
namespace Go.Proofs.Ytgemkfcapkfdbaa
set_option maxRecDepth 100000
open Go.RowKit

/-- The worlds of the walk: the matrix's box, its cells; of the blocks that were there only that of the cells may have changed. -/
structure EmSt (w : World) (b r c N cap g : Nat) (q : Option Addr) (ys : List Int) (wr : World) : Prop where
  blk : Blk3 wr b 34 (.int .i64 r) (.int .i64 c) (.slice q N cap)
  cel : Cel wr q N cap g ys
  gro : w.grownBy wr (Value.slice q N cap).ownBlock
theorem EmSt.below {w : World} {b r c N cap g : Nat} {q : Option Addr} {ys : List Int} {wr w' : World} (h : EmSt w b r c N cap g q ys wr) (hb : Below wr.heap.size wr w') : EmSt w b r c N cap g q ys w' :=
  ⟨h.blk.step hb, h.cel.keep hb, h.gro.trans (grown_of_below hb _)⟩
theorem EmSt.one {w : World} {b r c N cap g : Nat} {ys ys' : List Int} {wr w' : World} (h : EmSt w b r c N cap g (some ⟨g, 0, none⟩) ys wr) (hl : ys'.length = N) (hi : Ints w' g ys') (hg : wr.grownBy w' (some g)) (hb : b ≠ g) : EmSt w b r c N cap g (some ⟨g, 0, none⟩) ys' w' :=
  ⟨h.blk.keepOne hg hb, .inr ⟨rfl, h.cel.le, hl, hi⟩, h.gro.trans hg⟩
theorem clP_clear {p : Int} {r c t j l i : Nat} {us : List Int} (hx : us.length = r * c) (hcan : CanL p us) (hi : i < r) (hit : i ≠ t) : clP p r c t j (l + 1) i us = clP p r c t j l (i + 1) (rowL r c i (lsV p (mxC c us i j) (mxC c us i) (mxC c us t)) us) := by
  by_cases h0 : mxC c us i j = 0
  · rw [clP_skip (.inr h0), h0]
    congr 1
    refine (rowL_self hx fun _ k hk => ?_).symm
    obtain ⟨h1, h2⟩ := hcan.mx hx hi hk
    show (mxC c us i k - 0 * mxC c us t k) % p = mxC c us i k
    rw [Int.zero_mul, Int.sub_zero]
    exact Int.emod_eq_of_lt h1 h2
  · exact clP_on (fun h => h.elim hit h0)
theorem elP_full {p : Int} {r c k j : Nat} {xs : List Int} {pv : List Nat} {d : Int} (h : ¬ pv.length < r) : elP p r c (k + 1) j xs pv d = elP p r c k (j + 1) xs pv d := by rw [elP_end h, elP_end h]
theorem prod_pos {p d x : Int} (hp : Prm p) (d0 : 0 < d) (d1 : d < p) (x0 : 0 < x) (x1 : x < p) : 0 < (d * x) % p := by
  have h1 := Int.emod_nonneg (d * x) (show p ≠ 0 by omega)
  rcases Int.lt_or_eq_of_le h1 with h | h
  · exact h
  · rcases hp.mul (Int.dvd_of_emod_eq_zero h.symm) with h2 | h2
    · have := Int.le_of_dvd d0 h2; omega
    · have := Int.le_of_dvd x0 h2; omega
theorem neg_mod {p d : Int} (d0 : 0 < d) (d1 : d < p) : (-d) % p = p - d := by
  rw [show -d = (p - d) + p * (-1) by grind, Int.add_mul_emod_self_left]
  exact Int.emod_eq_of_lt (by omega) (by omega)
set_option maxHeartbeats 4000000 in
theorem iElim (r c n N cap g : Nat) (q : Option Addr) (p : Int) (xs : List Int) (w : World) (hN : N = r * c) (hr : r ≤ 24) (hc : c ≤ 24) (hnc : n ≤ c) (hp : prmB p = true) (hcan : CanL p xs) (hi : Cel w q N cap g xs) :
    Calls Try.prog 88 #[.agg #[.int .i64 r, .int .i64 c, .slice q N cap], .int .i64 n, .int .i64 p] w (fun e w' => e = .returned (.tuple #[.int .i64 ((elP p r c n 0 xs [] 1).2.1.length : Int), .int .i64 (elP p r c n 0 xs [] 1).2.2]) ∧ Cel w' q N cap g (elP p r c n 0 xs [] 1).1 ∧ w.grownBy w' (Value.slice q N cap).ownBlock) := by
  have hle : r * c ≤ 24 * 24 := Nat.mul_le_mul hr hc
  rw [← hN] at hle
  obtain ⟨pp, hp2⟩ := prmB_says hp
  have hp1 := pp.1
  have np : ¬ p = 0 := by omega
  have PP := Lib.hid pp
  have PB := Lib.hid hp
  have DL : Hid (∀ i, i < r → i * c + c ≤ N) := fun i hi => by rw [hN, ← Nat.succ_mul]; exact Nat.mul_le_mul_right _ hi
  have bne : ∀ g', q = some ⟨g', 0, none⟩ → 0 < N → w.heap.size ≠ g' := fun g' e h0 => by
    obtain ⟨e2, hI⟩ := hi.ints h0
    rw [e] at e2
    injection e2 with e2
    injection e2 with e2
    have := hI.lt
    omega
  have BN := Lib.hid bne
  obtain ⟨RES, hRES⟩ : ∃ RES, elP p r c n 0 xs [] 1 = RES := ⟨_, rfl⟩
  have HR := Lib.hid hRES
  rw [hRES]
  have HN := Lib.hid hN
  have CX := Lib.hid hcan
  have S0 : Hid (EmSt w w.heap.size r c N cap g q xs (w.alloc (.cells #[.int .i64 r, .int .i64 c, .slice q N cap] 34))) := ⟨Blk3.at_ _ _ _ _ rfl, hi.keep ((Below.refl _ _).alloc (Nat.le_refl _) _), World.grownBy_alloc w _ _⟩
  obtain ⟨b, hb⟩ : ∃ b, w.heap.size = b := ⟨_, rfl⟩
  have HB := Lib.hid hb
  clear hN hcan pp hRES hp hi bne hb
  go_enter Try.func88, Try.ntmps88
  go_upto_region 1 with fail
  rw [HB.out] at S0 BN ⊢
  generalize w.alloc (.cells #[.int .i64 r, .int .i64 c, .slice q N cap] 34) = W at S0 ⊢
  go_wp2_with fail
  go_loopw [8, 9, 10, 11, 12, 13, 15, 54] (fun v8 v9 _ _ _ _ v15 _ wr => ∃ (j k : Nat) (ys : List Int) (pv : List Nat) (d : Int), v8 = .int .i64 (pv.length : Int) ∧ v9 = .int .i64 d ∧ v15 = .int .i64 j ∧ j + k = n ∧ CanL p ys ∧ pv.length ≤ r ∧ 0 < d ∧ d < p ∧ elP p r c k j ys pv d = RES ∧ EmSt w b r c N cap g q ys wr) (fun _ _ _ _ _ _ v15 _ _ => n - (intOf v15).toNat)
  case atStart => exact ⟨0, n, xs, [], 1, rfl, rfl, rfl, by omega, CX.out, by simp, by omega, by omega, HR.out, S0.out⟩
  case round =>
    clear S0 HR CX HB
    obtain ⟨j, k, ys, pv, d, rfl, rfl, rfl, hjk, hn, hpv, hd0, hd1, hR, hst⟩ := hrel
    have ST := Lib.hid hst
    have HY := Lib.hid hn
    have HR := Lib.hid hR
    have HL := Lib.hid hst.cel.len
    clear hst hn hR
    obtain ⟨t, ht⟩ : ∃ t, pv.length = t := ⟨_, rfl⟩
    have PT := Lib.hid ht
    rw [ht] at hpv ⊢
    clear ht
    obtain ⟨p0, p1, p2, -, -, -⟩ := ST.out.blk.all
    by_cases hjn : j < n
    · have hjc : j < c := by omega
      obtain ⟨k, rfl⟩ : ∃ k', k = k' + 1 := ⟨k - 1, by omega⟩
      obtain ⟨f1, f2, f3, f4⟩ := fstR_says (c := c) (j := j) (xs := ys) (k := r - t) (p := t)
      go_wp2_with fail
      refine (iPivR r c t j N cap g q ys _ HN.out hr hc hpv hjc ST.out.cel).mono ?_
      rintro e w5 ⟨rfl, hb5⟩
      have ST := Lib.hid (ST.out.below hb5)
      clear hb5 p0 p1 p2
      by_cases hf : fstR c j ys (r - t) t = r
      · have n1 : pvR r c j t ys = -1 := if_pos hf
        have HE : Hid (elP p r c k (j + 1) ys pv d = RES) := by
          have h1 := HR.out
          by_cases htl : t < r
          · rw [elP_skip (by rw [PT.out]; exact htl) (by rw [PT.out]; exact hf)] at h1
            exact h1
          · rw [elP_full (by rw [PT.out]; exact htl)] at h1
            exact h1
        rw [n1]
        clear n1 hf f1 f2 f3 f4
        go_wp2_with fail
        go_roundw
        case rel => exact ⟨j + 1, k, ys, pv, d, by rw [PT.out], rfl, by go_num, by omega, HY.out, by rw [PT.out]; exact hpv, hd0, hd1, HE.out, ST.out⟩
        case measure => simp [intOf]; omega
      · have n1 : pvR r c j t ys = (fstR c j ys (r - t) t : Int) := if_neg hf
        obtain ⟨s, hs⟩ : ∃ s, fstR c j ys (r - t) t = s := ⟨_, rfl⟩
        rw [hs] at n1 hf f1 f2 f3 f4
        have hsr : s < r := by omega
        have htl : t < r := by omega
        have N0 : 0 < N := by have := DL.out t htl; omega
        have FS : Hid (fstR c j ys (r - pv.length) pv.length = s) := by show _ = _; rw [PT.out]; exact hs
        obtain ⟨rfl, hI⟩ := ST.out.cel.ints N0
        have II := Lib.hid hI
        have bg : b ≠ g := BN.out g rfl N0
        have ZL : Hid ((swC s t c ys).length = N) := by show _ = _; rw [swC_length, HL.out]
        have ZC : Hid (CanL p (swC s t c ys)) := HY.out.sw (by rw [HL.out, HN.out]) hsr htl
        have x0 : mxC c (swC s t c ys) t j ≠ 0 := by
          rw [swC_at (by rw [HL.out, HN.out]) htl hjc]
          by_cases e : t = s
          · rw [if_pos e, e]; exact f4 (by omega)
          · rw [if_neg e, if_pos rfl]; exact f4 (by omega)
        obtain ⟨x1, x2⟩ := ZC.out.mx (by rw [ZL.out, HN.out]) htl hjc
        have EO : Hid (elP p r c k (j + 1) (clP p r c t j r 0 (rowL r c t (scV p (invF p (mxC c (swC s t c ys) t j)) (mxC c (swC s t c ys) t)) (swC s t c ys))) (pv ++ [j]) (((if s = t then d else (-d) % p) * mxC c (swC s t c ys) t j) % p) = RES) := by
          have h1 := HR.out
          rw [elP_on (s := s) (by rw [PT.out]; exact htl) FS.out (by omega), PT.out] at h1
          exact h1
        have SN : Hid (s = t → ys = swC s t c ys) := fun h => by unfold swC; rw [if_pos h]
        have n2 : decide ((s : Int) < 0) = false := decide_eq_false (by omega)
        obtain ⟨x, hx⟩ : ∃ x, mxC c (swC s t c ys) t j = x := ⟨_, rfl⟩
        have X := Lib.hid hx
        rw [hx] at x0 x1 x2 EO
        obtain ⟨d2, hd2⟩ : ∃ d2, (if s = t then d else (-d) % p) = d2 := ⟨_, rfl⟩
        have D2 := Lib.hid hd2
        rw [hd2] at EO
        have d20 : 0 < d2 ∧ d2 < p := by
          rw [← hd2]
          split
          · exact ⟨hd0, hd1⟩
          · rw [neg_mod hd0 hd1]; omega
        obtain ⟨d21, d22⟩ := d20
        have DP := Lib.hid (prod_pos PP.out d21 d22 (by omega) x2)
        have SWC : Hid (∀ w', Ints w' g ys → Calls Try.prog 53 #[.agg #[.int .i64 r, .int .i64 c, .slice (some ⟨g, 0, none⟩) N cap], .int .i64 s, .int .i64 t] w' (fun e w2 => Void e ∧ Ints w2 g (swC s t c ys) ∧ w'.grownBy w2 (some g))) := fun w' hi' => iSwR r c s t N cap g ys w' HN.out HL.out hr hc (by omega) hsr htl hi'
        have RW : Hid (∀ i, i < r → ∀ w', Calls Try.prog 83 #[.agg #[.int .i64 r, .int .i64 c, .slice (some ⟨g, 0, none⟩) N cap], .int .i64 i] w' (RowAt (some ⟨g, 0, none⟩) (i * c) c w')) := fun i hi w' => iRowIn r c i (i * c) N cap _ w' (.inr ⟨g, 0, rfl⟩) rfl (DL.out i hi) ST.out.cel.le (fun h => by cases h) (by omega) (by omega)
        rw [n1]
        clear n1 hf f1 f2 f3 f4 hI hs FS hx hd2 HR
        obtain ⟨p0, p1, p2, -, -, -⟩ := ST.out.blk.all
        go_upto_if 26 with fail
        generalize swC s t c ys = zs at ZL ZC EO SN X SWC
        go_cut [9] (fun v9 wx => v9 = .int .i64 d2 ∧ EmSt w b r c N cap g (some ⟨g, 0, none⟩) zs wx)
        case first =>
          by_cases hst : s = t
          · have n3 : ((s : Int) != (t : Int)) = false := by simp [hst]
            have hs := ST.out
            rw [SN.out hst] at hs
            have S2 := Lib.hid hs
            have DD : Hid (d = d2) := by show _ = _; rw [← D2.out, if_pos hst]
            clear hs hst
            go_wp2_with fail
            go_meet
            exact ⟨by rw [DD.out], S2.out⟩
          · have n3 : ((s : Int) != (t : Int)) = true := by simp; omega
            have DD : Hid (p - d = d2) := by show _ = _; rw [← D2.out, if_neg hst, neg_mod hd0 hd1]
            have w9 : IntKind.i64.wrap (p - d) = p - d := IntWalk.i64_in _ (by omega)
            clear hst
            go_wp2_with fail
            refine (SWC.out _ II.out).mono ?_
            rintro e w6 ⟨rfl, hi6, hg6⟩
            have S6 := Lib.hid (ST.out.one ZL.out hi6 hg6 bg)
            clear hi6 hg6 p0 p1 p2
            go_wp2_with fail
            go_meet
            exact ⟨by rw [DD.out], S6.out⟩
        case rest =>
          clear ST II SN HY HL D2 SWC
          obtain ⟨rfl, hst⟩ := hcut
          have ST := Lib.hid hst
          clear hst p0 p1 p2
          obtain ⟨p0, p1, p2, -, -, -⟩ := ST.out.blk.all
          have DV : Hid (∀ (m : Nat) (w' : World), Ints w' g zs → Calls Try.prog 102 #[.slice (some ⟨g, t * c, none⟩) c m, .int .i64 x, .int .i64 p] w' (fun e w2 => Void e ∧ Ints w2 g (rowL r c t (scV p (invF p x) (mxC c zs t)) zs) ∧ w'.grownBy w2 (some g))) := fun m w' hi' => iDivide r c t N g m x p zs w' HN.out ZL.out hc htl PB.out ZC.out x1 x2 x0 hi'
          have UL : Hid ((rowL r c t (scV p (invF p x) (mxC c zs t)) zs).length = N) := by show _ = _; rw [rowL_length, HN.out]
          have UC : Hid (CanL p (rowL r c t (scV p (invF p x) (mxC c zs t)) zs)) := ZC.out.row (by rw [ZL.out, HN.out]) fun q _ => ⟨Int.emod_nonneg _ (by omega), Int.emod_lt_of_pos _ (by omega)⟩
          generalize rowL r c t (scV p (invF p x) (mxC c zs t)) zs = vs at DV UL UC EO
          have CZ : Hid (∀ w', Ints w' g zs → w'.cell? ⟨g, t * c + j, none⟩ = some (.int .i64 x)) := fun w' hi' => by
            have h1 := hi'.cell (i := t * c + j) (by rw [ZL.out, HN.out]; exact idx_lt htl hjc)
            rw [show zs.getD (t * c + j) 0 = x from X.out] at h1
            exact h1
          obtain ⟨m3, m4⟩ := mul_bd (show 0 ≤ d2 by omega) d22 x1 x2 hp2
          obtain ⟨y, hy⟩ : ∃ y, d2 * x = y := ⟨_, rfl⟩
          have w8 : IntKind.i64.wrap (d2 * x) = y := by rw [← hy]; exact IntWalk.i64_in _ (by omega)
          rw [hy] at m3 m4 EO DP
          have e8 : Int.tmod y p = y % p := Int.tmod_eq_emod_of_nonneg m3
          clear hy ZC ZL X
          go_wp2_with fail
          refine (RW.out t htl _).mono ?_
          rintro e v1 ⟨q1, m1, rfl, hm1, hq1, -, hb1⟩
          obtain rfl := hq1 g 0 rfl (by omega)
          rw [Nat.zero_add]
          have S1 := Lib.hid (ST.out.below hb1)
          clear hq1 hb1 ST p0 p1 p2
          have hcz := CZ.out _ (S1.out.cel.ints N0).2
          go_wp2_with fail
          refine (DV.out _ _ (S1.out.cel.ints N0).2).mono ?_
          rintro e v2 ⟨rfl, hi2, hg2⟩
          have S2 := Lib.hid (S1.out.one UL.out hi2 hg2 bg)
          clear hi2 hg2 S1 hcz DV CZ
          obtain ⟨p0, p1, p2, -, -, -⟩ := S2.out.blk.all
          obtain ⟨E, hE⟩ : ∃ E, clP p r c t j r 0 vs = E := ⟨_, rfl⟩
          rw [hE] at EO
          have EE := Lib.hid hE
          clear hE
          go_wp2_with fail
          clear p0 p1 p2
          go_loopw [13, 54] (fun _ v54 wu => ∃ (i l : Nat) (us : List Int), v54 = .int .i64 i ∧ i + l = r ∧ CanL p us ∧ clP p r c t j l i us = E ∧ EmSt w b r c N cap g (some ⟨g, 0, none⟩) us wu) (fun _ v54 _ => r - (intOf v54).toNat)
          case atStart => exact ⟨0, r, vs, rfl, by omega, UC.out, EE.out, S2.out⟩
          case round =>
            clear S2 UL UC EE
            obtain ⟨i, l, us, rfl, hil, hun, hue, hst⟩ := hrel
            have ST := Lib.hid hst
            have UL := Lib.hid hst.cel.len
            have UN := Lib.hid hun
            have UE := Lib.hid hue
            clear hst hun hue
            obtain ⟨p0, p1, p2, -, -, -⟩ := ST.out.blk.all
            by_cases hir : i < r
            · obtain ⟨l, rfl⟩ : ∃ l', l = l' + 1 := ⟨l - 1, by omega⟩
              by_cases hit : i = t
              · have n2 : ((i : Int) != (t : Int)) = false := by simp [hit]
                have UE2 : Hid (clP p r c t j l (i + 1) us = E) := by
                  have h1 := UE.out
                  rw [clP_skip (.inl hit)] at h1
                  exact h1
                clear hit
                go_wp2_with fail
                go_roundw
                case rel => exact ⟨i + 1, l, us, by go_num, by omega, UN.out, UE2.out, ST.out⟩
                case measure => simp [intOf]; omega
              · have n2 : ((i : Int) != (t : Int)) = true := by simp; omega
                have CM : Hid (∀ (mi : Nat) (w' : World), Ints w' g us → Calls Try.prog 103 #[.slice (some ⟨g, i * c, none⟩) c mi, .slice (some ⟨g, t * c, none⟩) c m1, .int .i64 j, .int .i64 p] w' (fun e w2 => Void e ∧ Ints w2 g (rowL r c i (lsV p (mxC c us i j) (mxC c us i) (mxC c us t)) us) ∧ w'.grownBy w2 (some g))) := fun mi w' hi' => iClearM r c i t j N g mi m1 p us w' HN.out UL.out hc hir htl hit hjc PB.out UN.out hi'
                have UE2 : Hid (clP p r c t j l (i + 1) (rowL r c i (lsV p (mxC c us i j) (mxC c us i) (mxC c us t)) us) = E) := by
                  have h1 := UE.out
                  rw [clP_clear (by rw [UL.out, HN.out]) UN.out hir hit] at h1
                  exact h1
                have VL : Hid ((rowL r c i (lsV p (mxC c us i j) (mxC c us i) (mxC c us t)) us).length = N) := by show _ = _; rw [rowL_length, HN.out]
                have VC : Hid (CanL p (rowL r c i (lsV p (mxC c us i j) (mxC c us i) (mxC c us t)) us)) := UN.out.row (by rw [UL.out, HN.out]) fun q _ => ⟨Int.emod_nonneg _ (by omega), Int.emod_lt_of_pos _ (by omega)⟩
                generalize rowL r c i (lsV p (mxC c us i j) (mxC c us i) (mxC c us t)) us = ws at CM UE2 VL VC
                clear hit
                go_wp2_with fail
                refine (RW.out i hir _).mono ?_
                rintro e v3 ⟨q3, m3', rfl, -, hq3, -, hb3⟩
                obtain rfl := hq3 g 0 rfl (by omega)
                rw [Nat.zero_add]
                have S3 := Lib.hid (ST.out.below hb3)
                clear hq3 hb3 ST p0 p1 p2
                go_wp2_with fail
                refine (CM.out _ _ (S3.out.cel.ints N0).2).mono ?_
                rintro e v4 ⟨rfl, hi4, hg4⟩
                have S4 := Lib.hid (S3.out.one VL.out hi4 hg4 bg)
                clear hi4 hg4
                go_wp2_with fail
                go_roundw
                case rel => exact ⟨i + 1, l, ws, by go_num, by omega, VC.out, UE2.out, S4.out⟩
                case measure => simp [intOf]; omega
            · obtain rfl : l = 0 := by omega
              have UF : Hid (us = E) := UE.out
              have UR : Hid (elP p r c k (j + 1) us (pv ++ [j]) (y % p) = RES) := by
                have h1 := EO.out
                rw [← UF.out] at h1
                exact h1
              have y1 : y % p < p := Int.emod_lt_of_pos _ (by omega)
              have LP : Hid ((t : Int) + 1 = (((pv ++ [j]).length : Nat) : Int)) := by show _ = _; rw [List.length_append, PT.out]; simp
              have LR : Hid ((pv ++ [j]).length ≤ r) := by show _ ≤ _; rw [List.length_append, PT.out]; simp; omega
              have w7 : IntKind.i64.wrap ((t : Int) + 1) = (t : Int) + 1 := IntWalk.i64_in _ (by omega)
              go_wp2_with fail
              go_roundw
              case rel => exact ⟨j + 1, k, us, pv ++ [j], y % p, by rw [← LP.out], rfl, by go_num, by omega, UN.out, LR.out, DP.out, y1, UR.out, ST.out⟩
              case measure => simp [intOf]; omega
    · obtain rfl : k = 0 := by omega
      have RF : Hid ((ys, pv, d) = RES) := HR.out
      go_wp2_with fail
      refine bodyPost_ret (v := .tuple #[.int .i64 (t : Int), .int .i64 d]) (by simp [results, Try.results88, go_sem]) rfl ⟨?_, ?_, ST.out.gro⟩
      · rw [← RF.out, ← PT.out]
      · rw [← RF.out]; exact ST.out.cel
end Go.Proofs.Ytgemkfcapkfdbaa
end

section
/-
  Chapter 8, in the program: RankMod, DeterminantMod.
-/
namespace Go.Proofs.Ytgemkfcapkfdbaa
set_option maxRecDepth 100000
open Go.RowKit

/-- Own cells as the program's elimination wants them: they lie in a block from B on, or there are none. -/
theorem Own.cel' {B N cap : Nat} {w w0 : World} {q : Option Addr} {zs : List Int} (h : Own B w (.slice q N cap) zs) (_ : w0.heap.size ≤ w.heap.size) : ∃ g, Cel w q N cap g zs ∧ ∀ k, (Value.slice q N cap).ownBlock = some k → B ≤ k := by
  rcases h with ⟨hv, rfl⟩ | ⟨g, c', hv, hB, hi, hl, _⟩
  · injection hv with e1 e2 e3
    exact ⟨0, .inl ⟨e1, e3, e2, rfl⟩, fun k hk => by subst e1; cases hk⟩
  · injection hv with e1 e2 e3
    refine ⟨g, .inr ⟨e1, by omega, e2.symm, hi⟩, fun k hk => ?_⟩
    subst e1
    simp only [Value.ownBlock, Option.some.injEq] at hk
    omega
set_option maxHeartbeats 1000000 in
theorem iDetM (r c p : Int) (a : Option Addr) (m : Nat) (xs : List Int) (w : World) (h : Rd w a xs) (hn : xs.length ≤ 16777216) :
    Calls Try.prog 56 #[.agg #[.int .i64 r, .int .i64 c, .slice a xs.length m], .int .i64 p] w (Gives (.tuple #[.int .i64 (dtM r c p xs).1, .bool (dtM r c p xs).2]) w) := by
  have RD : Hid (∀ w', Below w.heap.size w w' → Calls Try.prog 87 #[.agg #[.int .i64 r, .int .i64 c, .slice a xs.length m], .int .i64 p] w' (MatRes (redM r c p xs) w')) := fun w' hb => iRed r c p a m xs w' (h.below hb) hn
  have B0 : Hid (Below w.heap.size w (w.alloc (.cells #[.int .i64 r, .int .i64 c, .slice a xs.length m] 34))) := (Below.refl _ _).alloc (Nat.le_refl _) _
  have K0 : Hid (Blk3 (w.alloc (.cells #[.int .i64 r, .int .i64 c, .slice a xs.length m] 34)) w.heap.size 34 (.int .i64 r) (.int .i64 c) (.slice a xs.length m)) := Blk3.at_ _ _ _ _ rfl
  rcases Bool.eq_false_or_eq_true (isMat r c xs && prmB p) with hh | hh
  · obtain ⟨R, C, N, rfl, rfl, hN, hR, hC, hx, hl, hp, hcan, e1, -, e3⟩ := rkM_yes hh
    rw [e1] at RD
    have D1 : Hid (R = C → (elM p R C xs).2.1.length < R → dtM R C p xs = (0, true)) := fun h1 h2 => by show _ = _; rw [e3, if_pos h1, if_pos h2]
    have D2 : Hid (R = C → ¬ (elM p R C xs).2.1.length < R → dtM R C p xs = ((elM p R C xs).2.2, true)) := fun h1 h2 => by show _ = _; rw [e3, if_pos h1, if_neg h2]
    have D3 : Hid (R ≠ C → dtM R C p xs = (0, false)) := fun h1 => by show _ = _; rw [e3, if_neg h1]
    generalize dtM R C p xs = DD at D1 D2 D3 ⊢
    have EL : Hid (∀ (q : Option Addr) (cap g : Nat) (w' : World), Cel w' q N cap g (resL p xs) → Calls Try.prog 88 #[.agg #[.int .i64 R, .int .i64 C, .slice q N cap], .int .i64 C, .int .i64 p] w' (fun e w2 => e = .returned (.tuple #[.int .i64 ((elM p R C xs).2.1.length : Int), .int .i64 (elM p R C xs).2.2]) ∧ Cel w2 q N cap g (elM p R C xs).1 ∧ w'.grownBy w2 (Value.slice q N cap).ownBlock)) := fun q cap g w' h1 => iElim R C C N cap g q p (resL p xs) w' hN hR hC (Nat.le_refl _) hp hcan h1
    generalize elM p R C xs = RES at EL D1 D2
    generalize resL p xs = zs at RD EL hl
    rw [hx] at RD B0 K0 ⊢
    clear h hn hx hN hcan e1 e3 hh hp
    go_enter Try.func56, Try.ntmps56
    go_wp2_with fail
    refine (RD.out _ B0.out).mono ?_
    rintro e w1 ⟨v, rfl, own, hb⟩
    obtain ⟨q, cap, rfl, -, -⟩ := own.form
    dsimp only
    rw [hl]
    rw [hl] at own
    have s1 := hb.size
    have B1 := B0.out.trans (hb.mono (by simp))
    have B2 := Lib.hid (B1.alloc B1.size (.cells #[.int .i64 R, .int .i64 C, .slice q N cap] 34))
    have O2 := Lib.hid (own.keep ((Below.refl _ _).alloc (Nat.le_refl _) (.cells #[.int .i64 R, .int .i64 C, .slice q N cap] 34)))
    have K2 : Hid (Blk3 (w1.alloc (.cells #[.int .i64 R, .int .i64 C, .slice q N cap] 34)) w1.heap.size 34 (.int .i64 R) (.int .i64 C) (.slice q N cap)) := Blk3.at_ _ _ _ _ rfl
    have K1 := Lib.hid ((K0.out.step hb).old (.cells #[.int .i64 R, .int .i64 C, .slice q N cap] 34))
    have lt1 : w.heap.size < w1.heap.size := (K0.out.step hb).lt
    clear hb own B1 B0 K0
    go_upto_region 2 with fail
    generalize w1.alloc (.cells #[.int .i64 R, .int .i64 C, .slice q N cap] 34) = W at B2 O2 K2 K1 ⊢
    obtain ⟨p0, p1, p2, -, -, -⟩ := K2.out.all
    obtain ⟨q0, q1, q2, -, -, -⟩ := K1.out.all
    by_cases hRC : R = C
    · have n1 : ((R : Int) != (C : Int)) = false := by simp [hRC]
      have D1 : Hid (RES.2.1.length < R → DD = (0, true)) := D1.out hRC
      have D2 : Hid (¬ RES.2.1.length < R → DD = (RES.2.2, true)) := D2.out hRC
      clear hRC
      go_wp2_with fail
      obtain ⟨g, C2, hg⟩ := Own.cel' O2.out B2.out.size
      refine (EL.out q cap g _ C2).mono ?_
      rintro e w2 ⟨rfl, -, hg2⟩
      have B4 := Lib.hid (B2.out.grown hg2 B2.out.size (fun k e => by have := hg k e; simp at this; omega))
      have K3 : Hid (Blk3 w2 w.heap.size 34 (.int .i64 R) (.int .i64 C) (.slice a N m)) := (hg2.block _ K1.out.lt (fun e => by have := hg _ e.symm; simp at this; omega)).trans K1.out
      clear hg2 C2 hg p0 p1 p2 q0 q1 q2
      obtain ⟨q0, q1, q2, -, -, -⟩ := K3.out.all
      by_cases hlt : RES.2.1.length < R
      · have DX := Lib.hid (D1.out hlt)
        go_wp2_with fail
        rw [DX.out]
        exact bodyPost_ret (v := .tuple #[.int .i64 0, .bool true]) (by simp [results, Try.results56, go_sem]) rfl ⟨rfl, B4.out⟩
      · have DX := Lib.hid (D2.out hlt)
        go_wp2_with fail
        rw [DX.out]
        exact bodyPost_ret (v := .tuple #[.int .i64 RES.2.2, .bool true]) (by simp [results, Try.results56, go_sem]) rfl ⟨rfl, B4.out⟩
    · have n1 : ((R : Int) != (C : Int)) = true := by simp; omega
      have DX := Lib.hid (D3.out hRC)
      clear hRC
      go_wp2_with fail
      rw [DX.out]
      exact bodyPost_ret (v := .tuple #[.int .i64 0, .bool false]) (by simp [results, Try.results56, go_sem]) rfl ⟨rfl, B2.out⟩
  · obtain ⟨-, e2, e1⟩ := rkM_no hh
    rw [e2] at RD
    rw [e1]
    generalize xs.length = L at RD B0 ⊢
    clear h hn e1 e2 hh K0
    go_enter Try.func56, Try.ntmps56
    go_wp2_with fail
    refine (RD.out _ B0.out).mono ?_
    rintro e w1 ⟨v, rfl, own, hb⟩
    obtain ⟨q, cap, rfl, -, -⟩ := own.form
    have B1 := B0.out.trans (hb.mono (by simp))
    have B2 := Lib.hid (B1.alloc B1.size (.cells #[.int .i64 MR.no.r, .int .i64 MR.no.c, .slice q MR.no.zs.length cap] 34))
    clear hb own B1 B0
    have ok : MR.no.ok = false := rfl
    rw [ok]
    go_wp2_with fail
    exact bodyPost_ret (v := .tuple #[.int .i64 0, .bool false]) (by simp [results, Try.results56, go_sem]) rfl ⟨rfl, B2.out⟩
end Go.Proofs.Ytgemkfcapkfdbaa
end
