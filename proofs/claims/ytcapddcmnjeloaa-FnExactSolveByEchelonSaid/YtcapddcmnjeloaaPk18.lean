/-
  Texts of this seat, joined: SvWd · RqA · SvSe · TwoL · BsM · BsI · CtI
-/
import Derived.Maps.AppendAt
import Derived.Test.YtcapddcmnjeloaaPk1
import Derived.Test.YtcapddcmnjeloaaPk3
import Derived.Test.YtcapddcmnjeloaaPk5
import Derived.Test.YtcapddcmnjeloaaPk7
import Derived.Test.YtcapddcmnjeloaaPk8
import Derived.Test.YtcapddcmnjeloaaPk9
import Derived.Test.YtcapddcmnjeloaaPk12
import Derived.Test.YtcapddcmnjeloaaPk13
import Derived.Test.YtcapddcmnjeloaaPk15

section
/-
  Chapter 11, in the model: SolveByEchelon.
-/
namespace Go.Proofs.Ytcapddcmnjeloaa
set_option maxRecDepth 100000
open Go.RowKit

/-- The rows ahead of row i, and the first j cells of that row, are made. -/
def wsF (n : Nat) (xs bs : List Int) (p q : Nat) : Int := if q < n then xs.getD (p * n + q) 0 else bs.getD p 0
def wsTo (n : Nat) (xs bs : List Int) (i j : Nat) : List Int := tab n (n + 1) fun p q => if p < i ∨ (p = i ∧ q < j) then wsF n xs bs p q else 0
theorem wsTo_length (n : Nat) (xs bs : List Int) (i j : Nat) : (wsTo n xs bs i j).length = n * (n + 1) := tab_length _ _ _
theorem wsTo_zero (n : Nat) (xs bs : List Int) : wsTo n xs bs 0 0 = List.replicate (n * (n + 1)) 0 := by
  refine (tab_ext (List.length_replicate ..) fun a b ha hb => ?_).symm
  rw [if_neg (by omega)]
  have := idx_lt ha hb
  simp [List.getD, this]
theorem wsTo_all (n : Nat) (xs bs : List Int) : wsTo n xs bs n 0 = wdL n xs bs := by
  refine tab_ext (tab_length _ _ _) fun a b ha hb => ?_
  unfold wsTo
  rw [tab_at n (n + 1) _ ha hb, if_pos (.inl ha)]
  rfl
theorem wsTo_cell {n i j : Nat} (xs bs : List Int) (hi : i < n) (hj : j < n) : (wsTo n xs bs i j).set (i * (n + 1) + j) (xs.getD (i * n + j) 0) = wsTo n xs bs i (j + 1) := by
  refine set_tab hi (by omega) ?_ fun a b ha hb h => ?_
  · rw [if_pos (by omega)]
    unfold wsF
    rw [if_pos hj]
  · by_cases e : a < i ∨ (a = i ∧ b < j)
    · rw [if_pos e, if_pos (by omega)]
    · rw [if_neg e, if_neg (by omega)]
theorem wsTo_row {n i : Nat} (xs bs : List Int) (hi : i < n) : (wsTo n xs bs i n).set (i * (n + 1) + n) (bs.getD i 0) = wsTo n xs bs (i + 1) 0 := by
  refine set_tab hi (by omega) ?_ fun a b ha hb h => ?_
  · rw [if_pos (by omega)]
    unfold wsF
    rw [if_neg (Nat.lt_irrefl n)]
  · by_cases e : a < i ∨ (a = i ∧ b < n)
    · rw [if_pos e, if_pos (by omega)]
    · rw [if_neg e, if_neg (by omega)]
theorem ech_wide {n : Nat} {xs bs : List Int} (h6 : n ≤ 6) (hx : xs.length = n * n) (hn : nums xs = true) (hb : bs.length = n) (hm : nums bs = true) : echR (n : Int) ((n : Int) + 1) (wdL n xs bs) = ER.of (n : Int) ((n : Int) + 1) (echM n (n + 1) (wdL n xs bs)) := by
  have hi : isMat (n : Int) ((n : Int) + 1) (wdL n xs bs) = true := by
    unfold isMat
    rw [decide_eq_true (show SizeP (n : Int) from ⟨by omega, by omega⟩), decide_eq_true (show SizeP ((n : Int) + 1) from ⟨by omega, by omega⟩), wdL_nums hx hn hb hm, decide_eq_true]
    · rfl
    · rw [wdL_length, Int.natCast_mul]; rfl
  unfold echR
  rw [if_pos hi]; rfl
end Go.Proofs.Ytcapddcmnjeloaa
end

section
/-
  A ratio is appended to a list of the call's own.
-/
namespace Go.Proofs.Ytcapddcmnjeloaa
open Go.RowKit

theorem appendRat (w : World) {B : Nat} (v : Value) {l : List (Int × Int)} (p q : Int) (g : Nat) (h : OwnR B w v l) (hg : Blk2 w g 80 (.int .i64 p) (.int .i64 q)) (hl : l.length < 16777216) (hB : B ≤ w.heap.size) :
    ∃ v' w', (Builtin.append_ #[49, 49] 49 #[v, .slice (some ⟨g, 0, none⟩) 1 1]).run Try.prog w = .ok v' w' ∧ OwnR B w' v' (l ++ [(p, q)]) ∧ w.grownBy w' v.ownBlock := by
  obtain ⟨fi, hfi, hz0, hz1, hz2⟩ := facts_rat
  have news : ∀ j u, [Value.int .i64 p, Value.int .i64 q][j]? = some u → w.cell? ((⟨g, 0, none⟩ : Addr).add j) = some u := by
    intro j u hu
    obtain ⟨c0, c1, -, -⟩ := hg.all
    match j, hu with
    | 0, h => simp only [List.getElem?_cons_zero, Option.some.injEq] at h; subst h; exact c0
    | 1, h => simp only [List.getElem?_cons_succ, List.getElem?_cons_zero, Option.some.injEq] at h; subst h; exact c1
    | j + 2, h => simp at h
  have h0 := h
  unfold OwnR at h0
  obtain ⟨v', w', hr, ho, hgr, -, -⟩ := run_append_own_at (P := Try.prog) w B 49 49 80 fi (.agg #[.int .i64 0, .int .i64 0]) 2 16 underlying_rats hfi hz0 hz1 hz2 rfl (by decide) v l.length _ h0 ⟨g, 0, none⟩ 1 1 [.int .i64 p, .int .i64 q] rfl news
    (by intro u hu; simp only [List.mem_cons, List.not_mem_nil, or_false] at hu; rcases hu with rfl | rfl <;> rfl) (by unfold maxLen; omega) (by omega) hB
  refine ⟨v', w', hr, ?_, hgr⟩
  unfold OwnR
  rw [List.length_append, flatQ_snoc]
  exact ho
end Go.Proofs.Ytcapddcmnjeloaa
end

section
/-
  Chapter 11, in the model: SolveByEchelon.
-/
namespace Go.Proofs.Ytcapddcmnjeloaa
set_option maxRecDepth 100000
open Go.RowKit

/-- The cells that one ratio reads, in every later world. -/
theorem seF {W w' : World} {b : Nat} {t : TypeId} {p q r z1 z2 : Value} {y1 y2 : Addr} (h0 : Blk3 W b t p q r) (hz1 : W.cell? y1 = some z1) (hz2 : W.cell? y2 = some z2) (hb : Below W.heap.size W w') :
    w'.cell? ⟨b, 0, none⟩ = some p ∧ w'.cell? ⟨b, 1, none⟩ = some q ∧ w'.cell? ⟨b, 2, none⟩ = some r ∧ w'.cell? y1 = some z1 ∧ w'.cell? y2 = some z2 := by
  obtain ⟨a1, a2, a3, -, -, -⟩ := (h0.step hb).all
  have far : ∀ {a : Addr} {u : Value}, W.cell? a = some u → w'.cell? a = some u := fun {a u} h => (hb.cell (World.block_lt_of_cell? W a h)).trans h
  exact ⟨a1, a2, a3, far hz1, far hz2⟩
set_option maxHeartbeats 8000000 in
theorem sSe (r c : Int) (a : Option Addr) (m : Nat) (xs : List Int) (ab : Option Addr) (mb : Nat) (bs : List Int) (w : World) (h : Rd w a xs) (hn : xs.length ≤ 16777216) (hb : Rd w ab bs) (hbn : bs.length ≤ 16777216) :
    Calls Try.prog 36 #[.agg #[.int .i64 r, .int .i64 c, .slice a xs.length m], .slice ab bs.length mb] w (QRes (seX r c xs bs).1 (seX r c xs bs).2 w) := by
  have RI : Hid (∀ w', Below w.heap.size w w' → Calls Try.prog 69 #[.agg #[.int .i64 r, .int .i64 c, .slice a xs.length m], .slice ab bs.length mb] w' (Gives (.bool (sysB r c xs bs)) w')) := fun w' hb2 => sRight r c a m xs ab mb bs w' (h.below hb2) hn (hb.below hb2) hbn
  have K0 : Hid (Blk3 (w.alloc (.cells #[.int .i64 r, .int .i64 c, .slice a xs.length m] 26)) w.heap.size 26 (.int .i64 r) (.int .i64 c) (.slice a xs.length m)) := Blk3.at_ _ _ _ _ rfl
  have B0 : Hid (Below w.heap.size w (w.alloc (.cells #[.int .i64 r, .int .i64 c, .slice a xs.length m] 26))) := (Below.refl _ _).alloc (Nat.le_refl _) _
  cases hs : sysB r c xs bs with
  | false =>
    have V : Hid (seX r c xs bs = ([], false)) := seX_sys hs
    clear h hb
    go_enter Try.func36, Try.ntmps36
    go_wp2_with fail
    refine (RI.out _ B0.out).mono ?_
    rintro e w1 ⟨rfl, hb1⟩
    rw [hs]
    have B1 := Lib.hid (B0.out.trans (hb1.mono B0.out.size))
    clear hb1
    go_wp2_with fail
    rw [V.out]
    exact bodyPost_ret (v := .tuple #[.slice (some ⟨w1.heap.size, 0, none⟩) 0 0, .bool false]) (by simp [results, Try.results36, go_sem]) rfl ⟨_, rfl, OwnR.empty B1.out.size, B1.out.alloc B1.out.size _⟩
  | true =>
    obtain ⟨n, rfl, rfl, h6, hl, hnx, hbl, hnb⟩ := sysB_says hs
    have N36 : n * n ≤ 36 := Nat.mul_le_mul h6 h6
    have N42 : n * (n + 1) ≤ 6 * 7 := Nat.mul_le_mul h6 (by omega)
    have NW : Hid (∀ w', Calls Try.prog 45 #[.int .i64 n, .int .i64 ((n : Int) + 1)] w' (NewMat n ((n : Int) + 1) (wsTo n xs bs 0 0) w')) := fun w' => by rw [wsTo_zero]; exact sNew n (n + 1) w' (by omega) (by omega)
    have WC : Hid (∀ i j, i < n → j < n → (wsTo n xs bs i j).set (i * (n + 1) + j) (xs.getD (i * n + j) 0) = wsTo n xs bs i (j + 1)) := fun i j hi hj => wsTo_cell xs bs hi hj
    have WR : Hid (∀ i, i < n → (wsTo n xs bs i n).set (i * (n + 1) + n) (bs.getD i 0) = wsTo n xs bs (i + 1) 0) := fun i hi => wsTo_row xs bs hi
    have WA := Lib.hid (wsTo_all n xs bs)
    have WL : Hid (∀ i j, (wsTo n xs bs i j).length = n * (n + 1)) := fun i j => wsTo_length n xs bs i j
    have IX : Hid (∀ i j, i < n → j < n → i * n + j < n * n ∧ IntKind.i64.wrap ((i : Int) * (n : Int)) = (i : Int) * (n : Int) ∧ IntKind.i64.wrap ((i : Int) * (n : Int) + (j : Int)) = ((i * n + j : Nat) : Int)) := fun i j hi hj => by
      have h1 : i * n + j < n * n := idx_lt hi hj
      have c1 : (i : Int) * (n : Int) = ((i * n : Nat) : Int) := (Int.natCast_mul _ _).symm
      refine ⟨by omega, IntWalk.i64_in _ (by rw [c1]; omega), ?_⟩
      rw [show (i : Int) * (n : Int) + (j : Int) = ((i * n + j : Nat) : Int) by rw [c1]; omega]
      exact IntWalk.i64_in _ (by omega)
    have IW : Hid (∀ i j, i < n → j ≤ n → i * (n + 1) + j < n * (n + 1) ∧ IntKind.i64.wrap ((i : Int) * ((n : Int) + 1)) = (i : Int) * ((n : Int) + 1) ∧ IntKind.i64.wrap ((i : Int) * ((n : Int) + 1) + (j : Int)) = ((i * (n + 1) + j : Nat) : Int)) := fun i j hi hj => by
      have h1 : i * (n + 1) + j < n * (n + 1) := idx_lt hi (by omega)
      have c1 : (i : Int) * ((n : Int) + 1) = ((i * (n + 1) : Nat) : Int) := by rw [Int.natCast_mul]; rfl
      refine ⟨by omega, IntWalk.i64_in _ (by rw [c1]; omega), ?_⟩
      rw [show (i : Int) * ((n : Int) + 1) + (j : Int) = ((i * (n + 1) + j : Nat) : Int) by rw [c1]; omega]
      exact IntWalk.i64_in _ (by omega)
    have EC : Hid (∀ w' g cap, Ints w' g (wdL n xs bs) → Calls Try.prog 74 #[.agg #[.int .i64 n, .int .i64 ((n : Int) + 1), .slice (some ⟨g, 0, none⟩) (n * (n + 1)) cap]] w' (EchG w' (ER.of n ((n : Int) + 1) (echM n (n + 1) (wdL n xs bs))))) := fun w' g cap hi => by
      have := sEchelonOf n ((n : Int) + 1) (some ⟨g, 0, none⟩) cap (wdL n xs bs) w' hi.rd (by rw [wdL_length]; omega) (Spot.of _ _)
      rw [wdL_length, ech_wide h6 hl hnx hbl hnb] at this
      exact this
    have VN : Hid (echM n (n + 1) (wdL n xs bs) = none → seX n n xs bs = ([], false)) := fun h => seX_none hs h
    have VS : Hid (∀ ys pv, echM n (n + 1) (wdL n xs bs) = some (ys, pv) → ys.length = n * (n + 1) ∧ nums ys = true ∧ seX n n xs bs = if fullB n pv = true then (seUp n ys n, true) else ([], false)) := fun ys pv h => by
      obtain ⟨-, -, -, h1, h2, -⟩ := echM_says (wdL_length n xs bs) (wdL_nums hl hnx hbl hnb) h
      exact ⟨h1, h2, seX_some hs h⟩
    have RA : Hid (Rd w a xs) := h
    have RB : Hid (Rd w ab bs) := hb
    have XA := Lib.hid hl
    have XB := Lib.hid hbl
    rw [hl, hbl] at RI
    rw [hl] at K0 B0 ⊢
    rw [hbl]
    generalize seX n n xs bs = RES at VN VS ⊢
    generalize echM n (n + 1) (wdL n xs bs) = EM at EC VN VS
    obtain ⟨N, hN⟩ : ∃ N, n * n = N := ⟨_, rfl⟩
    obtain ⟨M, hM⟩ : ∃ M, n * (n + 1) = M := ⟨_, rfl⟩
    rw [hN] at RI K0 B0 IX XA N36 ⊢
    rw [hM] at IW EC VS WL N42
    clear h hb hl hnx hbl hnb hn hbn hN hM
    go_enter Try.func36, Try.ntmps36
    go_wp2_with fail
    refine (RI.out _ B0.out).mono ?_
    rintro e w1 ⟨rfl, hb1⟩
    rw [hs]
    have K1 := Lib.hid (K0.out.step hb1)
    have B1 := Lib.hid (B0.out.trans (hb1.mono B0.out.size))
    clear hb1 hs RI K0 B0
    obtain ⟨p0, p1, p2, -, -, -⟩ := K1.out.all
    go_wp2_with fail
    refine (NW.out _).mono ?_
    rintro e w2 ⟨g, rfl, hg, hi, hb2⟩
    rw [WL.out 0 0]
    have lg := hi.lt
    have s1 := hb2.size
    have k1 := K1.out.lt
    have I2 : Hid (Ints (w2.alloc (.cells #[.int .i64 n, .int .i64 ((n : Int) + 1), .slice (some ⟨g, 0, none⟩) M M] 26)) g (wsTo n xs bs 0 0)) := hi.move (Below.heap_alloc _ _ _ lg)
    have K2 := Lib.hid ((K1.out.step hb2).old (.cells #[.int .i64 n, .int .i64 ((n : Int) + 1), .slice (some ⟨g, 0, none⟩) M M] 26))
    have K7 : Hid (Blk3 (w2.alloc (.cells #[.int .i64 n, .int .i64 ((n : Int) + 1), .slice (some ⟨g, 0, none⟩) M M] 26)) w2.heap.size 26 (.int .i64 n) (.int .i64 ((n : Int) + 1)) (.slice (some ⟨g, 0, none⟩) M M)) := Blk3.at_ _ _ _ _ rfl
    have B2 := Lib.hid ((B1.out.trans (hb2.mono B1.out.size)).alloc (by have := B1.out.size; omega) (.cells #[.int .i64 n, .int .i64 ((n : Int) + 1), .slice (some ⟨g, 0, none⟩) M M] 26))
    obtain ⟨b7, hb7⟩ : ∃ b7, w2.heap.size = b7 := ⟨_, rfl⟩
    have n7 : b7 ≠ g := by omega
    have n3 : w.heap.size ≠ g := by omega
    have g0 : w.heap.size < g := by omega
    clear hi hb2 K1 B1 p0 p1 p2
    go_wp2_with fail
    rw [hb7] at K7
    generalize w2.alloc (.cells #[.int .i64 n, .int .i64 ((n : Int) + 1), .slice (some ⟨g, 0, none⟩) M M] 26) = W2 at I2 K2 K7 B2 ⊢
    clear hb7 lg s1 k1 hg
    go_loopw [8] (fun v8 wr => ∃ i : Nat, v8 = .int .i64 i ∧ i ≤ n ∧ Ints wr g (wsTo n xs bs i 0) ∧ Blk3 wr w.heap.size 26 (.int .i64 n) (.int .i64 n) (.slice a N m) ∧ Blk3 wr b7 26 (.int .i64 n) (.int .i64 ((n : Int) + 1)) (.slice (some ⟨g, 0, none⟩) M M) ∧ Below w.heap.size w wr) (fun v8 _ => n - (intOf v8).toNat)
    case atStart => exact ⟨0, rfl, by omega, I2.out, K2.out, K7.out, B2.out⟩
    case round =>
      clear I2 K2 K7 B2
      obtain ⟨i, rfl, hi, hI, h3, h7, hB⟩ := hrel
      have I2 := Lib.hid hI
      have K2 := Lib.hid h3
      have K7 := Lib.hid h7
      have B2 := Lib.hid hB
      clear hI h3 h7 hB
      by_cases hlt : i < n
      · go_wp2_with fail
        go_loopw [9] (fun v9 wr => ∃ j : Nat, v9 = .int .i64 j ∧ j ≤ n ∧ Ints wr g (wsTo n xs bs i j) ∧ Blk3 wr w.heap.size 26 (.int .i64 n) (.int .i64 n) (.slice a N m) ∧ Blk3 wr b7 26 (.int .i64 n) (.int .i64 ((n : Int) + 1)) (.slice (some ⟨g, 0, none⟩) M M) ∧ Below w.heap.size w wr) (fun v9 _ => n - (intOf v9).toNat)
        case atStart => exact ⟨0, rfl, by omega, I2.out, K2.out, K7.out, B2.out⟩
        case round =>
          clear I2 K2 K7 B2
          obtain ⟨j, rfl, hj, hI, h3, h7, hB⟩ := hrel
          have I := Lib.hid hI
          have K3 := Lib.hid h3
          have K7 := Lib.hid h7
          have BO := Lib.hid hB
          clear hI h3 h7 hB
          obtain ⟨y1, y2, y3⟩ := IW.out i j hlt hj
          have wn : IntKind.i64.wrap ((n : Int) + 1) = (n : Int) + 1 := IntWalk.i64_in _ (by omega)
          have WLj := WL.out i j
          by_cases hjl : j < n
          · obtain ⟨x1, x2, x3⟩ := IX.out i j hlt hjl
            obtain ⟨b1, o1, rfl, hc1⟩ := (RA.out.below BO.out) (i * n + j) (by rw [XA.out]; exact x1)
            have SS := Lib.hid (WC.out i j hlt hjl)
            obtain ⟨x, hxx⟩ : ∃ x, xs.getD (i * n + j) 0 = x := ⟨_, rfl⟩
            obtain ⟨P, hP⟩ : ∃ P, i * n + j = P := ⟨_, rfl⟩
            obtain ⟨Q, hQ⟩ : ∃ Q, i * (n + 1) + j = Q := ⟨_, rfl⟩
            rw [hxx] at hc1 SS
            rw [hP] at x1 x3 hc1
            rw [hQ] at y1 y3 SS
            have X1 := Lib.hid hc1
            have P0 : (0 : Int) ≤ (P : Int) := by omega
            have P1 : (P : Int) < (N : Int) := by omega
            have Q0 : (0 : Int) ≤ (Q : Int) := by omega
            have Q1 : (Q : Int) < (M : Int) := by omega
            clear hc1 hxx hP hQ
            go_wp2_with fail
            refine wp_region_T (S := fun w' => Below wr.heap.size wr w') (T := fun j => j == 18) (by kernel_rfl) (Below.refl _ _).drew (fun hH => ?_)
            refine wpAnyT_take (i := 0) (v := ?_) (by simp only [List.getElem?_toArray, List.getElem?_cons_zero]; rfl) (by kernel_rfl) (by kernel_rfl) (by kernel_rfl) (by kernel_rfl) (one_only 18 (by kernel_rfl)) (by exact fun _ _ _ h => h) (Or.inl ⟨by rfl, ?_⟩) hH ?_
            rotate_left
            · (intro wS hS; clear hS; go_simp; try rfl)
            try simp only [Act.put, List.setIfInBounds_toArray, List.set_cons_zero, List.set_cons_succ]
            refine wpAnyT_take (i := 1) (v := ?_) (by simp only [List.getElem?_toArray, List.getElem?_cons_succ, List.getElem?_cons_zero]; rfl) (by kernel_rfl) (by kernel_rfl) (by kernel_rfl) (by kernel_rfl) (one_only 18 (by kernel_rfl)) (by exact fun _ _ _ h => h) (Or.inl ⟨by rfl, ?_⟩) hH ?_
            rotate_left
            · (intro wS hS; (try dsimp only at hS); obtain ⟨k1, k2, k3, k4, k5, k6, k7⟩ := repF K3.out K7.out X1.out hS; go_simp; try rfl)
            try simp only [Act.put, List.setIfInBounds_toArray, List.set_cons_zero, List.set_cons_succ]
            refine wpAnyT_take (i := 2) (v := ?_) (by simp only [List.getElem?_toArray, List.getElem?_cons_succ, List.getElem?_cons_zero]; rfl) (by kernel_rfl) (by kernel_rfl) (by kernel_rfl) (by kernel_rfl) (one_only 18 (by kernel_rfl)) (by exact fun _ _ _ h => h) (Or.inl ⟨by rfl, ?_⟩) hH ?_
            rotate_left
            · (intro wS hS; clear hS; go_simp; try rfl)
            try simp only [Act.put, List.setIfInBounds_toArray, List.set_cons_zero, List.set_cons_succ]
            refine wpAnyT_take (i := 3) (v := ?_) (by simp only [List.getElem?_toArray, List.getElem?_cons_succ, List.getElem?_cons_zero]; rfl) (by kernel_rfl) (by kernel_rfl) (by kernel_rfl) (by kernel_rfl) (one_only 18 (by kernel_rfl)) (by exact fun _ _ _ h => h) (Or.inl ⟨by rfl, ?_⟩) hH ?_
            rotate_left
            · (intro wS hS; clear hS; go_simp; try rfl)
            try simp only [Act.put, List.setIfInBounds_toArray, List.set_cons_zero, List.set_cons_succ]
            refine wpAnyT_take (i := 4) (v := ?_) (by simp only [List.getElem?_toArray, List.getElem?_cons_succ, List.getElem?_cons_zero]; rfl) (by kernel_rfl) (by kernel_rfl) (by kernel_rfl) (by kernel_rfl) (one_only 18 (by kernel_rfl)) (by exact fun _ _ _ h => h) (Or.inl ⟨by rfl, ?_⟩) hH ?_
            rotate_left
            · (intro wS hS; clear hS; go_simp; try rfl)
            try simp only [Act.put, List.setIfInBounds_toArray, List.set_cons_zero, List.set_cons_succ]
            refine wpAnyT_take (i := 5) (v := ?_) (by simp only [List.getElem?_toArray, List.getElem?_cons_succ, List.getElem?_cons_zero]; rfl) (by kernel_rfl) (by kernel_rfl) (by kernel_rfl) (by kernel_rfl) (one_only 18 (by kernel_rfl)) (by exact fun _ _ _ h => h) (Or.inl ⟨by rfl, ?_⟩) hH ?_
            rotate_left
            · (intro wS hS; clear hS; go_simp; try rfl)
            try simp only [Act.put, List.setIfInBounds_toArray, List.set_cons_zero, List.set_cons_succ]
            refine wpAnyT_take (i := 6) (v := ?_) (by simp only [List.getElem?_toArray, List.getElem?_cons_succ, List.getElem?_cons_zero]; rfl) (by kernel_rfl) (by kernel_rfl) (by kernel_rfl) (by kernel_rfl) (one_only 18 (by kernel_rfl)) (by exact fun _ _ _ h => h) (Or.inl ⟨by rfl, ?_⟩) hH ?_
            rotate_left
            · (intro wS hS; clear hS; go_simp; try rfl)
            try simp only [Act.put, List.setIfInBounds_toArray, List.set_cons_zero, List.set_cons_succ]
            refine wpAnyT_take (i := 7) (v := ?_) (by simp only [List.getElem?_toArray, List.getElem?_cons_succ, List.getElem?_cons_zero]; rfl) (by kernel_rfl) (by kernel_rfl) (by kernel_rfl) (by kernel_rfl) (one_only 18 (by kernel_rfl)) (by exact fun _ _ _ h => h) (Or.inl ⟨by rfl, ?_⟩) hH ?_
            rotate_left
            · (intro wS hS; clear hS; go_simp; try rfl)
            try simp only [Act.put, List.setIfInBounds_toArray, List.set_cons_zero, List.set_cons_succ]
            refine wpAnyT_take (i := 8) (v := ?_) (by simp only [List.getElem?_toArray, List.getElem?_cons_succ, List.getElem?_cons_zero]; rfl) (by kernel_rfl) (by kernel_rfl) (by kernel_rfl) (by kernel_rfl) (one_only 18 (by kernel_rfl)) (by exact fun _ _ _ h => h) (Or.inl ⟨by rfl, ?_⟩) hH ?_
            rotate_left
            · (intro wS hS; clear hS; go_simp; try rfl)
            try simp only [Act.put, List.setIfInBounds_toArray, List.set_cons_zero, List.set_cons_succ]
            refine wpAnyT_take (i := 9) (v := ?_) (by simp only [List.getElem?_toArray, List.getElem?_cons_succ, List.getElem?_cons_zero]; rfl) (by kernel_rfl) (by kernel_rfl) (by kernel_rfl) (by kernel_rfl) (one_only 18 (by kernel_rfl)) (by exact fun _ _ _ h => h) (Or.inl ⟨by rfl, ?_⟩) hH ?_
            rotate_left
            · (intro wS hS; (try dsimp only at hS); obtain ⟨k1, k2, k3, k4, k5, k6, k7⟩ := repF K3.out K7.out X1.out hS; go_simp; try rfl)
            try simp only [Act.put, List.setIfInBounds_toArray, List.set_cons_zero, List.set_cons_succ]
            refine wpAnyT_take (i := 10) (v := ?_) (by simp only [List.getElem?_toArray, List.getElem?_cons_succ, List.getElem?_cons_zero]; rfl) (by kernel_rfl) (by kernel_rfl) (by kernel_rfl) (by kernel_rfl) (one_only 18 (by kernel_rfl)) (by exact fun _ _ _ h => h) (Or.inl ⟨by rfl, ?_⟩) hH ?_
            rotate_left
            · (intro wS hS; clear hS; go_simp; try rfl)
            try simp only [Act.put, List.setIfInBounds_toArray, List.set_cons_zero, List.set_cons_succ]
            refine wpAnyT_take (i := 11) (v := ?_) (by simp only [List.getElem?_toArray, List.getElem?_cons_succ, List.getElem?_cons_zero]; rfl) (by kernel_rfl) (by kernel_rfl) (by kernel_rfl) (by kernel_rfl) (one_only 18 (by kernel_rfl)) (by exact fun _ _ _ h => h) (Or.inl ⟨by rfl, ?_⟩) hH ?_
            rotate_left
            · (intro wS hS; clear hS; go_simp; try rfl)
            try simp only [Act.put, List.setIfInBounds_toArray, List.set_cons_zero, List.set_cons_succ]
            refine wpAnyT_take (i := 12) (v := ?_) (by simp only [List.getElem?_toArray, List.getElem?_cons_succ, List.getElem?_cons_zero]; rfl) (by kernel_rfl) (by kernel_rfl) (by kernel_rfl) (by kernel_rfl) (one_only 18 (by kernel_rfl)) (by exact fun _ _ _ h => h) (Or.inl ⟨by rfl, ?_⟩) hH ?_
            rotate_left
            · (intro wS hS; clear hS; go_simp; try rfl)
            try simp only [Act.put, List.setIfInBounds_toArray, List.set_cons_zero, List.set_cons_succ]
            refine wpAnyT_take (i := 13) (v := ?_) (by simp only [List.getElem?_toArray, List.getElem?_cons_succ, List.getElem?_cons_zero]; rfl) (by kernel_rfl) (by kernel_rfl) (by kernel_rfl) (by kernel_rfl) (one_only 18 (by kernel_rfl)) (by exact fun _ _ _ h => h) (Or.inl ⟨by rfl, ?_⟩) hH ?_
            rotate_left
            · (intro wS hS; clear hS; go_simp; try rfl)
            try simp only [Act.put, List.setIfInBounds_toArray, List.set_cons_zero, List.set_cons_succ]
            refine wpAnyT_take (i := 14) (v := ?_) (by simp only [List.getElem?_toArray, List.getElem?_cons_succ, List.getElem?_cons_zero]; rfl) (by kernel_rfl) (by kernel_rfl) (by kernel_rfl) (by kernel_rfl) (one_only 18 (by kernel_rfl)) (by exact fun _ _ _ h => h) (Or.inl ⟨by rfl, ?_⟩) hH ?_
            rotate_left
            · (intro wS hS; clear hS; go_simp; try rfl)
            try simp only [Act.put, List.setIfInBounds_toArray, List.set_cons_zero, List.set_cons_succ]
            refine wpAnyT_take (i := 15) (v := ?_) (by simp only [List.getElem?_toArray, List.getElem?_cons_succ, List.getElem?_cons_zero]; rfl) (by kernel_rfl) (by kernel_rfl) (by kernel_rfl) (by kernel_rfl) (one_only 18 (by kernel_rfl)) (by exact fun _ _ _ h => h) (Or.inl ⟨by rfl, ?_⟩) hH ?_
            rotate_left
            · (intro wS hS; clear hS; go_simp; try rfl)
            try simp only [Act.put, List.setIfInBounds_toArray, List.set_cons_zero, List.set_cons_succ]
            refine wpAnyT_take (i := 16) (v := ?_) (by simp only [List.getElem?_toArray, List.getElem?_cons_succ, List.getElem?_cons_zero]; rfl) (by kernel_rfl) (by kernel_rfl) (by kernel_rfl) (by kernel_rfl) (one_only 18 (by kernel_rfl)) (by exact fun _ _ _ h => h) (Or.inl ⟨by rfl, ?_⟩) hH ?_
            rotate_left
            · (intro wS hS; (try dsimp only at hS); obtain ⟨k1, k2, k3, k4, k5, k6, k7⟩ := repF K3.out K7.out X1.out hS; go_simp; try rfl)
            try simp only [Act.put, List.setIfInBounds_toArray, List.set_cons_zero, List.set_cons_succ]
            refine wpAnyT_take (i := 17) (v := ?_) (by simp only [List.getElem?_toArray, List.getElem?_cons_succ, List.getElem?_cons_zero]; rfl) (by kernel_rfl) (by kernel_rfl) (by kernel_rfl) (by kernel_rfl) (one_only 18 (by kernel_rfl)) (by exact fun _ _ _ h => h) (Or.inl ⟨by rfl, ?_⟩) hH ?_
            rotate_left
            · (intro wS hS; clear hS; go_simp; try rfl)
            try simp only [Act.put, List.setIfInBounds_toArray, List.set_cons_zero, List.set_cons_succ]
            refine wpAnyT_ready (rs := [18]) (by kernel_rfl) (by simp) ?_
            refine AllReadyT.cons (by simp only [List.getElem?_toArray, List.getElem?_cons_succ, List.getElem?_cons_zero]; rfl) (fun K hK => ?_) AllReadyT.nil
            have GI := Lib.hid (I.out.keep hH I.out.lt)
            have gc := GI.out.cell (i := Q) (by omega)
            have gf := GI.out.free Q
            go_simp
            try dsimp only
            refine hK.out _ _ (fun h => by cases h) ?_
            clear hK K
            try simp only [Act.put, List.setIfInBounds_toArray, List.set_cons_zero, List.set_cons_succ]
            refine wpAnyT_done (by kernel_rfl) ?_ _
            go_wp2_with fail
            go_roundw
            case rel =>
              refine ⟨j + 1, by go_num, by omega, ?_, K3.out.drewN 1 |>.far n3 _, K7.out.drewN 1 |>.far n7 _, ?_⟩
              · rw [← SS.out]
                exact (I.out.keep hH I.out.lt).set Q x
              · exact (BO.out.trans (hH.mono BO.out.size)).setCell (by show w.heap.size ≤ g; omega) _
            case measure => simp [intOf]; omega
          · obtain rfl : j = n := by omega
            obtain ⟨b2, o2, rfl, hc2⟩ := (RB.out.below BO.out) i (by rw [XB.out]; exact hlt)
            have SS := Lib.hid (WR.out i hlt)
            obtain ⟨x, hxx⟩ : ∃ x, bs.getD i 0 = x := ⟨_, rfl⟩
            obtain ⟨Q, hQ⟩ : ∃ Q, i * (j + 1) + j = Q := ⟨_, rfl⟩
            rw [hxx] at hc2 SS
            rw [hQ] at y1 y3 SS
            have X1 := Lib.hid hc2
            have Q0 : (0 : Int) ≤ (Q : Int) := by omega
            have Q1 : (Q : Int) < (M : Int) := by omega
            have i1 : (i : Int) < (j : Int) := by omega
            clear hc2 hxx hQ
            go_wp2_with fail
            refine wp_region_T (S := fun w' => Below wr.heap.size wr w') (T := fun j => j == 13) (by kernel_rfl) (Below.refl _ _).drew (fun hH => ?_)
            refine wpAnyT_take (i := 0) (v := ?_) (by simp only [List.getElem?_toArray, List.getElem?_cons_zero]; rfl) (by kernel_rfl) (by kernel_rfl) (by kernel_rfl) (by kernel_rfl) (one_only 13 (by kernel_rfl)) (by exact fun _ _ _ h => h) (Or.inl ⟨by rfl, ?_⟩) hH ?_
            rotate_left
            · (intro wS hS; clear hS; go_simp; try rfl)
            try simp only [Act.put, List.setIfInBounds_toArray, List.set_cons_zero, List.set_cons_succ]
            refine wpAnyT_take (i := 1) (v := ?_) (by simp only [List.getElem?_toArray, List.getElem?_cons_succ, List.getElem?_cons_zero]; rfl) (by kernel_rfl) (by kernel_rfl) (by kernel_rfl) (by kernel_rfl) (one_only 13 (by kernel_rfl)) (by exact fun _ _ _ h => h) (Or.inl ⟨by rfl, ?_⟩) hH ?_
            rotate_left
            · (intro wS hS; (try dsimp only at hS); obtain ⟨k1, k2, k3, k4, k5, k6, k7⟩ := repF K3.out K7.out X1.out hS; go_simp; try rfl)
            try simp only [Act.put, List.setIfInBounds_toArray, List.set_cons_zero, List.set_cons_succ]
            refine wpAnyT_take (i := 2) (v := ?_) (by simp only [List.getElem?_toArray, List.getElem?_cons_succ, List.getElem?_cons_zero]; rfl) (by kernel_rfl) (by kernel_rfl) (by kernel_rfl) (by kernel_rfl) (one_only 13 (by kernel_rfl)) (by exact fun _ _ _ h => h) (Or.inl ⟨by rfl, ?_⟩) hH ?_
            rotate_left
            · (intro wS hS; clear hS; go_simp; try rfl)
            try simp only [Act.put, List.setIfInBounds_toArray, List.set_cons_zero, List.set_cons_succ]
            refine wpAnyT_take (i := 3) (v := ?_) (by simp only [List.getElem?_toArray, List.getElem?_cons_succ, List.getElem?_cons_zero]; rfl) (by kernel_rfl) (by kernel_rfl) (by kernel_rfl) (by kernel_rfl) (one_only 13 (by kernel_rfl)) (by exact fun _ _ _ h => h) (Or.inl ⟨by rfl, ?_⟩) hH ?_
            rotate_left
            · (intro wS hS; clear hS; go_simp; try rfl)
            try simp only [Act.put, List.setIfInBounds_toArray, List.set_cons_zero, List.set_cons_succ]
            refine wpAnyT_take (i := 4) (v := ?_) (by simp only [List.getElem?_toArray, List.getElem?_cons_succ, List.getElem?_cons_zero]; rfl) (by kernel_rfl) (by kernel_rfl) (by kernel_rfl) (by kernel_rfl) (one_only 13 (by kernel_rfl)) (by exact fun _ _ _ h => h) (Or.inl ⟨by rfl, ?_⟩) hH ?_
            rotate_left
            · (intro wS hS; clear hS; go_simp; try rfl)
            try simp only [Act.put, List.setIfInBounds_toArray, List.set_cons_zero, List.set_cons_succ]
            refine wpAnyT_take (i := 5) (v := ?_) (by simp only [List.getElem?_toArray, List.getElem?_cons_succ, List.getElem?_cons_zero]; rfl) (by kernel_rfl) (by kernel_rfl) (by kernel_rfl) (by kernel_rfl) (one_only 13 (by kernel_rfl)) (by exact fun _ _ _ h => h) (Or.inl ⟨by rfl, ?_⟩) hH ?_
            rotate_left
            · (intro wS hS; clear hS; go_simp; try rfl)
            try simp only [Act.put, List.setIfInBounds_toArray, List.set_cons_zero, List.set_cons_succ]
            refine wpAnyT_take (i := 6) (v := ?_) (by simp only [List.getElem?_toArray, List.getElem?_cons_succ, List.getElem?_cons_zero]; rfl) (by kernel_rfl) (by kernel_rfl) (by kernel_rfl) (by kernel_rfl) (one_only 13 (by kernel_rfl)) (by exact fun _ _ _ h => h) (Or.inl ⟨by rfl, ?_⟩) hH ?_
            rotate_left
            · (intro wS hS; clear hS; go_simp; try rfl)
            try simp only [Act.put, List.setIfInBounds_toArray, List.set_cons_zero, List.set_cons_succ]
            refine wpAnyT_take (i := 7) (v := ?_) (by simp only [List.getElem?_toArray, List.getElem?_cons_succ, List.getElem?_cons_zero]; rfl) (by kernel_rfl) (by kernel_rfl) (by kernel_rfl) (by kernel_rfl) (one_only 13 (by kernel_rfl)) (by exact fun _ _ _ h => h) (Or.inl ⟨by rfl, ?_⟩) hH ?_
            rotate_left
            · (intro wS hS; clear hS; go_simp; try rfl)
            try simp only [Act.put, List.setIfInBounds_toArray, List.set_cons_zero, List.set_cons_succ]
            refine wpAnyT_take (i := 8) (v := ?_) (by simp only [List.getElem?_toArray, List.getElem?_cons_succ, List.getElem?_cons_zero]; rfl) (by kernel_rfl) (by kernel_rfl) (by kernel_rfl) (by kernel_rfl) (one_only 13 (by kernel_rfl)) (by exact fun _ _ _ h => h) (Or.inl ⟨by rfl, ?_⟩) hH ?_
            rotate_left
            · (intro wS hS; clear hS; go_simp; try rfl)
            try simp only [Act.put, List.setIfInBounds_toArray, List.set_cons_zero, List.set_cons_succ]
            refine wpAnyT_take (i := 9) (v := ?_) (by simp only [List.getElem?_toArray, List.getElem?_cons_succ, List.getElem?_cons_zero]; rfl) (by kernel_rfl) (by kernel_rfl) (by kernel_rfl) (by kernel_rfl) (one_only 13 (by kernel_rfl)) (by exact fun _ _ _ h => h) (Or.inl ⟨by rfl, ?_⟩) hH ?_
            rotate_left
            · (intro wS hS; clear hS; go_simp; try rfl)
            try simp only [Act.put, List.setIfInBounds_toArray, List.set_cons_zero, List.set_cons_succ]
            refine wpAnyT_take (i := 10) (v := ?_) (by simp only [List.getElem?_toArray, List.getElem?_cons_succ, List.getElem?_cons_zero]; rfl) (by kernel_rfl) (by kernel_rfl) (by kernel_rfl) (by kernel_rfl) (one_only 13 (by kernel_rfl)) (by exact fun _ _ _ h => h) (Or.inl ⟨by rfl, ?_⟩) hH ?_
            rotate_left
            · (intro wS hS; clear hS; go_simp; try rfl)
            try simp only [Act.put, List.setIfInBounds_toArray, List.set_cons_zero, List.set_cons_succ]
            refine wpAnyT_take (i := 11) (v := ?_) (by simp only [List.getElem?_toArray, List.getElem?_cons_succ, List.getElem?_cons_zero]; rfl) (by kernel_rfl) (by kernel_rfl) (by kernel_rfl) (by kernel_rfl) (one_only 13 (by kernel_rfl)) (by exact fun _ _ _ h => h) (Or.inl ⟨by rfl, ?_⟩) hH ?_
            rotate_left
            · (intro wS hS; (try dsimp only at hS); obtain ⟨k1, k2, k3, k4, k5, k6, k7⟩ := repF K3.out K7.out X1.out hS; go_simp; try rfl)
            try simp only [Act.put, List.setIfInBounds_toArray, List.set_cons_zero, List.set_cons_succ]
            refine wpAnyT_take (i := 12) (v := ?_) (by simp only [List.getElem?_toArray, List.getElem?_cons_succ, List.getElem?_cons_zero]; rfl) (by kernel_rfl) (by kernel_rfl) (by kernel_rfl) (by kernel_rfl) (one_only 13 (by kernel_rfl)) (by exact fun _ _ _ h => h) (Or.inl ⟨by rfl, ?_⟩) hH ?_
            rotate_left
            · (intro wS hS; clear hS; go_simp; try rfl)
            try simp only [Act.put, List.setIfInBounds_toArray, List.set_cons_zero, List.set_cons_succ]
            refine wpAnyT_ready (rs := [13]) (by kernel_rfl) (by simp) ?_
            refine AllReadyT.cons (by simp only [List.getElem?_toArray, List.getElem?_cons_succ, List.getElem?_cons_zero]; rfl) (fun K hK => ?_) AllReadyT.nil
            have GI := Lib.hid (I.out.keep hH I.out.lt)
            have gc := GI.out.cell (i := Q) (by omega)
            have gf := GI.out.free Q
            go_simp
            try dsimp only
            refine hK.out _ _ (fun h => by cases h) ?_
            clear hK K
            try simp only [Act.put, List.setIfInBounds_toArray, List.set_cons_zero, List.set_cons_succ]
            refine wpAnyT_done (by kernel_rfl) ?_ _
            go_wp2_with fail
            go_roundw
            case rel =>
              refine ⟨i + 1, by go_num, by omega, ?_, K3.out.drewN 1 |>.far n3 _, K7.out.drewN 1 |>.far n7 _, ?_⟩
              · rw [← SS.out]
                exact (I.out.keep hH I.out.lt).set Q x
              · exact (BO.out.trans (hH.mono BO.out.size)).setCell (by show w.heap.size ≤ g; omega) _
            case measure => simp [intOf]; omega
      · obtain rfl : i = n := by omega
        have I3 : Hid (Ints wr g (wdL i xs bs)) := by
          have := I2.out
          rw [WA.out] at this
          exact this
        obtain ⟨y0, y1, y2, -, -, -⟩ := K7.out.all
        have EC0 := EC.out wr g M I3.out
        clear I2 I3 WC WR WA WL IX EC NW K2 K7 RA RB XA XB
        go_wp2_with fail
        refine EC0.mono ?_
        clear EC0
        cases EM with
        | none =>
          have V := Lib.hid (VN.out rfl)
          rintro e w4 ⟨va, vb, rfl, oa, ob, -, hb4⟩
          obtain ⟨qa, ca, rfl, -, -⟩ := oa.form
          obtain ⟨qb, cb, rfl, -, -⟩ := ob.form
          have B4 := Lib.hid (B2.out.trans (hb4.mono B2.out.size))
          clear oa ob hb4
          dsimp only [ER.of, ER.no]
          go_upto_region 14 with fail
          have B5 := Lib.hid (B4.out.alloc B4.out.size (.cells #[.int .i64 0, .int .i64 0, .slice qa ([] : List Int).length ca] 26))
          generalize w4.alloc (.cells #[.int .i64 0, .int .i64 0, .slice qa ([] : List Int).length ca] 26) = W5 at B5 ⊢
          go_wp2_with fail
          rw [V.out]
          exact bodyPost_ret (v := .tuple #[.slice (some ⟨W5.heap.size, 0, none⟩) 0 0, .bool false]) (by simp [results, Try.results36, go_sem]) rfl ⟨_, rfl, OwnR.empty B5.out.size, B5.out.alloc B5.out.size _⟩
        | some yp =>
          obtain ⟨ys, pv⟩ := yp
          obtain ⟨hyl, hyn, VV⟩ := VS.out ys pv rfl
          have VV := Lib.hid VV
          rintro e w4 ⟨va, vb, rfl, oa, ob, -, hb4⟩
          dsimp only [ER.of] at oa ob ⊢
          obtain ⟨qa, ca, rfl, ra, -⟩ := oa.form
          obtain ⟨qb, cb, rfl, rb, -⟩ := ob.form
          rw [hyl, pvI_length]
          have B4 := Lib.hid (B2.out.trans (hb4.mono B2.out.size))
          have RY := Lib.hid (ra.below ((Below.refl _ _).alloc (Nat.le_refl _) (.cells #[.int .i64 i, .int .i64 ((i : Int) + 1), .slice qa M ca] 26)))
          have RP := Lib.hid (rb.below ((Below.refl _ _).alloc (Nat.le_refl _) (.cells #[.int .i64 i, .int .i64 ((i : Int) + 1), .slice qa M ca] 26)))
          have K5 : Hid (Blk3 (w4.alloc (.cells #[.int .i64 i, .int .i64 ((i : Int) + 1), .slice qa M ca] 26)) w4.heap.size 26 (.int .i64 i) (.int .i64 ((i : Int) + 1)) (.slice qa M ca)) := Blk3.at_ _ _ _ _ rfl
          have B5 := Lib.hid (B4.out.alloc B4.out.size (.cells #[.int .i64 i, .int .i64 ((i : Int) + 1), .slice qa M ca] 26))
          have s4 := B4.out.size
          clear oa ob hb4 ra rb VS VN
          obtain ⟨T, hT⟩ : ∃ T, pv.length = T := ⟨_, rfl⟩
          rw [hT]
          have HT := Lib.hid hT
          have HY := Lib.hid hyl
          have HN := Lib.hid hyn
          clear hT hyl hyn
          by_cases hlt2 : T < i
          · have V : Hid (RES = ([], false)) := by
              refine Lib.hid ?_
              rw [VV.out, if_neg]
              unfold fullB
              rw [Bool.and_eq_true, decide_eq_true_eq, HT.out]
              intro hh
              omega
            go_wp2_with fail
            rw [V.out]
            exact bodyPost_ret (v := .tuple #[.slice (some ⟨(w4.alloc (.cells #[.int .i64 i, .int .i64 ((i : Int) + 1), .slice qa M ca] 26)).heap.size, 0, none⟩) 0 0, .bool false]) (by simp [results, Try.results36, go_sem]) rfl ⟨_, rfl, OwnR.empty B5.out.size, B5.out.alloc B5.out.size _⟩
          · by_cases hbad : 0 < i ∧ pv.getD (i - 1) 0 = i
            · obtain ⟨i0, hp⟩ := hbad
              have V : Hid (RES = ([], false)) := by
                refine Lib.hid ?_
                rw [VV.out, if_neg]
                unfold fullB
                rw [Bool.and_eq_true, decide_eq_true_eq, decide_eq_true_eq]
                exact fun hh => hh.2 i0 hp
              obtain ⟨b2, o2, rfl, hc2⟩ := RP.out (i - 1) (by rw [pvI_length, HT.out]; omega)
              have ep : (pvI pv).getD (i - 1) 0 = (i : Int) := by
                unfold pvI
                have hlen : i - 1 < pv.length := by rw [HT.out]; omega
                simp [List.getD, hlen] at hp ⊢
                omega
              rw [ep] at hc2
              obtain ⟨k, ek⟩ : ∃ k, i - 1 = k := ⟨_, rfl⟩
              rw [ek] at hc2
              have wk : IntKind.i64.wrap ((i : Int) - 1) = (k : Int) := by rw [show (i : Int) - 1 = (k : Int) by omega]; exact IntWalk.i64_in _ (by omega)
              have k1 : (0 : Int) < (i : Int) := by omega
              have k2 : (k : Int) < (T : Int) := by omega
              have k3 : (0 : Int) ≤ (k : Int) := by omega
              clear ep hp
              go_wp2_with fail
              rw [V.out]
              exact bodyPost_ret (v := .tuple #[.slice (some ⟨(w4.alloc (.cells #[.int .i64 i, .int .i64 ((i : Int) + 1), .slice qa M ca] 26)).heap.size, 0, none⟩) 0 0, .bool false]) (by simp [results, Try.results36, go_sem]) rfl ⟨_, rfl, OwnR.empty B5.out.size, B5.out.alloc B5.out.size _⟩
            · have V : Hid (RES = (seUp i ys i, true)) := by
                refine Lib.hid ?_
                rw [VV.out, if_pos]
                unfold fullB
                rw [Bool.and_eq_true, decide_eq_true_eq, decide_eq_true_eq, HT.out]
                exact ⟨by omega, fun i0 hp => hbad ⟨i0, hp⟩⟩
              have UL : Hid (∀ k, (seUp i ys k).length = k) := fun k => by simp [seUp]
              have US : Hid (∀ k, seUp i ys (k + 1) = seUp i ys k ++ [mkRat (ys.getD (k * (i + 1) + i) 0) (ys.getD (k * (i + 1) + k) 0)]) := fun k => seUp_succ i ys k
              have HB := Lib.hid hbad
              clear hbad VV HN
              rcases Nat.eq_zero_or_pos i with i0 | i0
              · subst i0
                have E5 : Hid ((w4.alloc (.cells #[.int .i64 ((0 : Nat) : Int), .int .i64 (((0 : Nat) : Int) + 1), .slice qa M ca] 26)).heap.size = w4.heap.size + 1) := by refine Lib.hid ?_; simp
                have O0 : Hid (OwnR w.heap.size ((w4.alloc (.cells #[.int .i64 ((0 : Nat) : Int), .int .i64 (((0 : Nat) : Int) + 1), .slice qa M ca] 26)).alloc (.cells #[] 80)) (.slice (some ⟨w4.heap.size + 1, 0, none⟩) 0 0) []) := by
                  refine Lib.hid ?_
                  rw [← E5.out]
                  exact OwnR.empty B5.out.size
                have B6 := Lib.hid (B5.out.alloc B5.out.size (.cells #[] 80))
                go_wp2_with fail
                go_loopw [13, 14] (fun v13 v14 wr => v13 = .slice (some ⟨w4.heap.size + 1, 0, none⟩) 0 0 ∧ v14 = .int .i64 0 ∧ wr = (w4.alloc (.cells #[.int .i64 ((0 : Nat) : Int), .int .i64 (((0 : Nat) : Int) + 1), .slice qa M ca] 26)).alloc (.cells #[] 80)) (fun _ _ _ => 0)
                case atStart => exact ⟨rfl, rfl, rfl⟩
                case round =>
                  obtain ⟨rfl, rfl, rfl⟩ := hrel
                  go_wp2_with fail
                  rw [V.out]
                  exact bodyPost_ret (v := .tuple #[.slice (some ⟨w4.heap.size + 1, 0, none⟩) 0 0, .bool true]) (by simp [results, Try.results36, go_sem]) rfl ⟨_, rfl, O0.out, B6.out⟩
              · obtain ⟨b2, o2, rfl, hc2⟩ := RP.out (i - 1) (by rw [pvI_length, HT.out]; omega)
                obtain ⟨z, hz⟩ : ∃ z, (pvI pv).getD (i - 1) 0 = z := ⟨_, rfl⟩
                have zn : (z == (i : Int)) = false := by
                  have ep : z = (pv.getD (i - 1) 0 : Int) := by
                    rw [← hz]
                    unfold pvI
                    have hlen : i - 1 < pv.length := by rw [HT.out]; omega
                    simp [List.getD, hlen]
                  rw [beq_eq_false_iff_ne, ep]
                  intro h9
                  exact HB.out ⟨i0, by omega⟩
                rw [hz] at hc2
                obtain ⟨k9, ek⟩ : ∃ k, i - 1 = k := ⟨_, rfl⟩
                rw [ek] at hc2
                have wk : IntKind.i64.wrap ((i : Int) - 1) = (k9 : Int) := by rw [show (i : Int) - 1 = (k9 : Int) by omega]; exact IntWalk.i64_in _ (by omega)
                have k1 : (0 : Int) < (i : Int) := by omega
                have k2 : (k9 : Int) < (T : Int) := by omega
                have k3 : (0 : Int) ≤ (k9 : Int) := by omega
                have l5 := K5.out.lt
                clear hz ek HB RP
                go_wp2_with fail
                clear hc2 wk k2 k3 zn
                have E5 : Hid ((w4.alloc (.cells #[.int .i64 i, .int .i64 ((i : Int) + 1), .slice qa M ca] 26)).heap.size = w4.heap.size + 1) := by refine Lib.hid ?_; simp
                have O0 : Hid (OwnR (w4.alloc (.cells #[.int .i64 i, .int .i64 ((i : Int) + 1), .slice qa M ca] 26)).heap.size ((w4.alloc (.cells #[.int .i64 i, .int .i64 ((i : Int) + 1), .slice qa M ca] 26)).alloc (.cells #[] 80)) (.slice (some ⟨w4.heap.size + 1, 0, none⟩) 0 0) (seUp i ys 0)) := by
                  refine Lib.hid ?_
                  rw [← E5.out]
                  exact OwnR.empty (Nat.le_refl _)
                have BL : Hid (Below (w4.alloc (.cells #[.int .i64 i, .int .i64 ((i : Int) + 1), .slice qa M ca] 26)).heap.size (w4.alloc (.cells #[.int .i64 i, .int .i64 ((i : Int) + 1), .slice qa M ca] 26)) ((w4.alloc (.cells #[.int .i64 i, .int .i64 ((i : Int) + 1), .slice qa M ca] 26)).alloc (.cells #[] 80))) := (Below.refl _ _).alloc (Nat.le_refl _) _
                obtain ⟨b5, hb5⟩ : ∃ b5, w4.heap.size = b5 := ⟨_, rfl⟩
                rw [hb5] at K5 l5 O0 ⊢
                generalize w4.alloc (.cells #[.int .i64 i, .int .i64 ((i : Int) + 1), .slice qa M ca] 26) = W5 at O0 BL RY K5 B5 l5
                generalize W5.alloc (.cells #[] 80) = W6 at O0 BL ⊢
                clear E5 hb5
                go_loopw [13, 14] (fun v13 v14 wr => ∃ k : Nat, v14 = .int .i64 k ∧ k ≤ i ∧ OwnR W5.heap.size wr v13 (seUp i ys k) ∧ Below W5.heap.size W5 wr) (fun _ v14 _ => i - (intOf v14).toNat)
                case atStart => exact ⟨0, rfl, by omega, O0.out, BL.out⟩
                case round =>
                  clear O0 BL
                  obtain ⟨k, rfl, hk, ho, hB⟩ := hrel
                  obtain ⟨q13, c13, rfl⟩ := ho.form
                  rw [UL.out k]
                  have O := Lib.hid ho
                  have B := Lib.hid hB
                  rw [UL.out k] at O
                  clear ho hB
                  by_cases hlt : k < i
                  · obtain ⟨x1, x2, x3⟩ := IW.out k i hlt (Nat.le_refl _)
                    obtain ⟨z1, z2, z3⟩ := IW.out k k hlt (by omega)
                    have wn : IntKind.i64.wrap ((i : Int) + 1) = (i : Int) + 1 := IntWalk.i64_in _ (by omega)
                    have RW := RY.out.below B.out
                    obtain ⟨b1, o1, rfl, hc1⟩ := RW (k * (i + 1) + i) (by rw [HY.out]; exact x1)
                    obtain ⟨b3, o3, e3, hc3⟩ := RW (k * (i + 1) + k) (by rw [HY.out]; exact z1)
                    simp only [Option.some.injEq, Addr.mk.injEq, and_true] at e3
                    obtain ⟨rfl, rfl⟩ := e3
                    clear RW
                    have SS := Lib.hid (US.out k)
                    obtain ⟨x, hx⟩ : ∃ x, ys.getD (k * (i + 1) + i) 0 = x := ⟨_, rfl⟩
                    obtain ⟨u, hu⟩ : ∃ u, ys.getD (k * (i + 1) + k) 0 = u := ⟨_, rfl⟩
                    obtain ⟨P, hP⟩ : ∃ P, k * (i + 1) + i = P := ⟨_, rfl⟩
                    obtain ⟨Q, hQ⟩ : ∃ Q, k * (i + 1) + k = Q := ⟨_, rfl⟩
                    rw [hx, hu] at SS
                    rw [hx] at hc1
                    rw [hu] at hc3
                    rw [hP] at x1 x3 hc1
                    rw [hQ] at z1 z3 hc3
                    have X1 := Lib.hid hc1
                    have X2 := Lib.hid hc3
                    have P0 : (0 : Int) ≤ (P : Int) := by omega
                    have P1 : (P : Int) < (M : Int) := by omega
                    have Q0 : (0 : Int) ≤ (Q : Int) := by omega
                    have Q1 : (Q : Int) < (M : Int) := by omega
                    obtain ⟨y1, hy1⟩ : ∃ y, (mkRat x u).1 = y := ⟨_, rfl⟩
                    obtain ⟨y2, hy2⟩ : ∃ y, (mkRat x u).2 = y := ⟨_, rfl⟩
                    have MK : Hid (∀ w', Calls Try.prog 71 #[.int .i64 x, .int .i64 u] w' (Gives (.agg #[.int .i64 y1, .int .i64 y2]) w')) := fun w' => by rw [← hy1, ← hy2]; exact sMk x u w'
                    have SS : Hid (seUp i ys (k + 1) = seUp i ys k ++ [(y1, y2)]) := by rw [← hy1, ← hy2]; exact SS.out
                    have KB := Lib.hid (K5.out.keep B.out l5)
                    have s5 := B.out.size
                    clear hc1 hc3 hx hu hP hQ hy1 hy2
                    go_wp2_with fail
                    refine wp_region_T (S := fun w' => Below wr.heap.size wr w') (T := fun j => j == 23 || j == 24) (by kernel_rfl) (Below.refl _ _).drew (fun hH => ?_)
                    refine wpAnyT_take (i := 0) (v := ?_) (by simp only [List.getElem?_toArray, List.getElem?_cons_zero]; rfl) (by kernel_rfl) (by kernel_rfl) (by kernel_rfl) (by kernel_rfl) (two_only 23 24 (by kernel_rfl) (by kernel_rfl)) (by exact fun _ _ _ h => h) (Or.inl ⟨by rfl, ?_⟩) hH ?_
                    rotate_left
                    · (intro wS hS; clear hS; go_simp; try rfl)
                    try simp only [Act.put, List.setIfInBounds_toArray, List.set_cons_zero, List.set_cons_succ]
                    refine wpAnyT_take (i := 1) (v := ?_) (by simp only [List.getElem?_toArray, List.getElem?_cons_succ, List.getElem?_cons_zero]; rfl) (by kernel_rfl) (by kernel_rfl) (by kernel_rfl) (by kernel_rfl) (two_only 23 24 (by kernel_rfl) (by kernel_rfl)) (by exact fun _ _ _ h => h) (Or.inl ⟨by rfl, ?_⟩) hH ?_
                    rotate_left
                    · (intro wS hS; clear hS; go_simp; try rfl)
                    try simp only [Act.put, List.setIfInBounds_toArray, List.set_cons_zero, List.set_cons_succ]
                    refine wpAnyT_take (i := 2) (v := ?_) (by simp only [List.getElem?_toArray, List.getElem?_cons_succ, List.getElem?_cons_zero]; rfl) (by kernel_rfl) (by kernel_rfl) (by kernel_rfl) (by kernel_rfl) (two_only 23 24 (by kernel_rfl) (by kernel_rfl)) (by exact fun _ _ _ h => h) (Or.inl ⟨by rfl, ?_⟩) hH ?_
                    rotate_left
                    · (intro wS hS; (try dsimp only at hS); obtain ⟨k1, k2, k3, k4, k5⟩ := seF KB.out X1.out X2.out hS; go_simp; try rfl)
                    try simp only [Act.put, List.setIfInBounds_toArray, List.set_cons_zero, List.set_cons_succ]
                    refine wpAnyT_take (i := 3) (v := ?_) (by simp only [List.getElem?_toArray, List.getElem?_cons_succ, List.getElem?_cons_zero]; rfl) (by kernel_rfl) (by kernel_rfl) (by kernel_rfl) (by kernel_rfl) (two_only 23 24 (by kernel_rfl) (by kernel_rfl)) (by exact fun _ _ _ h => h) (Or.inl ⟨by rfl, ?_⟩) hH ?_
                    rotate_left
                    · (intro wS hS; clear hS; go_simp; try rfl)
                    try simp only [Act.put, List.setIfInBounds_toArray, List.set_cons_zero, List.set_cons_succ]
                    refine wpAnyT_take (i := 4) (v := ?_) (by simp only [List.getElem?_toArray, List.getElem?_cons_succ, List.getElem?_cons_zero]; rfl) (by kernel_rfl) (by kernel_rfl) (by kernel_rfl) (by kernel_rfl) (two_only 23 24 (by kernel_rfl) (by kernel_rfl)) (by exact fun _ _ _ h => h) (Or.inl ⟨by rfl, ?_⟩) hH ?_
                    rotate_left
                    · (intro wS hS; clear hS; go_simp; try rfl)
                    try simp only [Act.put, List.setIfInBounds_toArray, List.set_cons_zero, List.set_cons_succ]
                    refine wpAnyT_take (i := 5) (v := ?_) (by simp only [List.getElem?_toArray, List.getElem?_cons_succ, List.getElem?_cons_zero]; rfl) (by kernel_rfl) (by kernel_rfl) (by kernel_rfl) (by kernel_rfl) (two_only 23 24 (by kernel_rfl) (by kernel_rfl)) (by exact fun _ _ _ h => h) (Or.inl ⟨by rfl, ?_⟩) hH ?_
                    rotate_left
                    · (intro wS hS; clear hS; go_simp; try rfl)
                    try simp only [Act.put, List.setIfInBounds_toArray, List.set_cons_zero, List.set_cons_succ]
                    refine wpAnyT_take (i := 6) (v := ?_) (by simp only [List.getElem?_toArray, List.getElem?_cons_succ, List.getElem?_cons_zero]; rfl) (by kernel_rfl) (by kernel_rfl) (by kernel_rfl) (by kernel_rfl) (two_only 23 24 (by kernel_rfl) (by kernel_rfl)) (by exact fun _ _ _ h => h) (Or.inl ⟨by rfl, ?_⟩) hH ?_
                    rotate_left
                    · (intro wS hS; clear hS; go_simp; try rfl)
                    try simp only [Act.put, List.setIfInBounds_toArray, List.set_cons_zero, List.set_cons_succ]
                    refine wpAnyT_take (i := 7) (v := ?_) (by simp only [List.getElem?_toArray, List.getElem?_cons_succ, List.getElem?_cons_zero]; rfl) (by kernel_rfl) (by kernel_rfl) (by kernel_rfl) (by kernel_rfl) (two_only 23 24 (by kernel_rfl) (by kernel_rfl)) (by exact fun _ _ _ h => h) (Or.inl ⟨by rfl, ?_⟩) hH ?_
                    rotate_left
                    · (intro wS hS; clear hS; go_simp; try rfl)
                    try simp only [Act.put, List.setIfInBounds_toArray, List.set_cons_zero, List.set_cons_succ]
                    refine wpAnyT_take (i := 8) (v := ?_) (by simp only [List.getElem?_toArray, List.getElem?_cons_succ, List.getElem?_cons_zero]; rfl) (by kernel_rfl) (by kernel_rfl) (by kernel_rfl) (by kernel_rfl) (two_only 23 24 (by kernel_rfl) (by kernel_rfl)) (by exact fun _ _ _ h => h) (Or.inl ⟨by rfl, ?_⟩) hH ?_
                    rotate_left
                    · (intro wS hS; clear hS; go_simp; try rfl)
                    try simp only [Act.put, List.setIfInBounds_toArray, List.set_cons_zero, List.set_cons_succ]
                    refine wpAnyT_take (i := 9) (v := ?_) (by simp only [List.getElem?_toArray, List.getElem?_cons_succ, List.getElem?_cons_zero]; rfl) (by kernel_rfl) (by kernel_rfl) (by kernel_rfl) (by kernel_rfl) (two_only 23 24 (by kernel_rfl) (by kernel_rfl)) (by exact fun _ _ _ h => h) (Or.inl ⟨by rfl, ?_⟩) hH ?_
                    rotate_left
                    · (intro wS hS; clear hS; go_simp; try rfl)
                    try simp only [Act.put, List.setIfInBounds_toArray, List.set_cons_zero, List.set_cons_succ]
                    refine wpAnyT_take (i := 10) (v := ?_) (by simp only [List.getElem?_toArray, List.getElem?_cons_succ, List.getElem?_cons_zero]; rfl) (by kernel_rfl) (by kernel_rfl) (by kernel_rfl) (by kernel_rfl) (two_only 23 24 (by kernel_rfl) (by kernel_rfl)) (by exact fun _ _ _ h => h) (Or.inl ⟨by rfl, ?_⟩) hH ?_
                    rotate_left
                    · (intro wS hS; (try dsimp only at hS); obtain ⟨k1, k2, k3, k4, k5⟩ := seF KB.out X1.out X2.out hS; go_simp; try rfl)
                    try simp only [Act.put, List.setIfInBounds_toArray, List.set_cons_zero, List.set_cons_succ]
                    refine wpAnyT_take (i := 11) (v := ?_) (by simp only [List.getElem?_toArray, List.getElem?_cons_succ, List.getElem?_cons_zero]; rfl) (by kernel_rfl) (by kernel_rfl) (by kernel_rfl) (by kernel_rfl) (two_only 23 24 (by kernel_rfl) (by kernel_rfl)) (by exact fun _ _ _ h => h) (Or.inl ⟨by rfl, ?_⟩) hH ?_
                    rotate_left
                    · (intro wS hS; clear hS; go_simp; try rfl)
                    try simp only [Act.put, List.setIfInBounds_toArray, List.set_cons_zero, List.set_cons_succ]
                    refine wpAnyT_take (i := 12) (v := ?_) (by simp only [List.getElem?_toArray, List.getElem?_cons_succ, List.getElem?_cons_zero]; rfl) (by kernel_rfl) (by kernel_rfl) (by kernel_rfl) (by kernel_rfl) (two_only 23 24 (by kernel_rfl) (by kernel_rfl)) (by exact fun _ _ _ h => h) (Or.inl ⟨by rfl, ?_⟩) hH ?_
                    rotate_left
                    · (intro wS hS; (try dsimp only at hS); obtain ⟨k1, k2, k3, k4, k5⟩ := seF KB.out X1.out X2.out hS; go_simp; try rfl)
                    try simp only [Act.put, List.setIfInBounds_toArray, List.set_cons_zero, List.set_cons_succ]
                    refine wpAnyT_take (i := 13) (v := ?_) (by simp only [List.getElem?_toArray, List.getElem?_cons_succ, List.getElem?_cons_zero]; rfl) (by kernel_rfl) (by kernel_rfl) (by kernel_rfl) (by kernel_rfl) (two_only 23 24 (by kernel_rfl) (by kernel_rfl)) (by exact fun _ _ _ h => h) (Or.inl ⟨by rfl, ?_⟩) hH ?_
                    rotate_left
                    · (intro wS hS; clear hS; go_simp; try rfl)
                    try simp only [Act.put, List.setIfInBounds_toArray, List.set_cons_zero, List.set_cons_succ]
                    refine wpAnyT_take (i := 14) (v := ?_) (by simp only [List.getElem?_toArray, List.getElem?_cons_succ, List.getElem?_cons_zero]; rfl) (by kernel_rfl) (by kernel_rfl) (by kernel_rfl) (by kernel_rfl) (two_only 23 24 (by kernel_rfl) (by kernel_rfl)) (by exact fun _ _ _ h => h) (Or.inl ⟨by rfl, ?_⟩) hH ?_
                    rotate_left
                    · (intro wS hS; clear hS; go_simp; try rfl)
                    try simp only [Act.put, List.setIfInBounds_toArray, List.set_cons_zero, List.set_cons_succ]
                    refine wpAnyT_take (i := 15) (v := ?_) (by simp only [List.getElem?_toArray, List.getElem?_cons_succ, List.getElem?_cons_zero]; rfl) (by kernel_rfl) (by kernel_rfl) (by kernel_rfl) (by kernel_rfl) (two_only 23 24 (by kernel_rfl) (by kernel_rfl)) (by exact fun _ _ _ h => h) (Or.inl ⟨by rfl, ?_⟩) hH ?_
                    rotate_left
                    · (intro wS hS; clear hS; go_simp; try rfl)
                    try simp only [Act.put, List.setIfInBounds_toArray, List.set_cons_zero, List.set_cons_succ]
                    refine wpAnyT_take (i := 16) (v := ?_) (by simp only [List.getElem?_toArray, List.getElem?_cons_succ, List.getElem?_cons_zero]; rfl) (by kernel_rfl) (by kernel_rfl) (by kernel_rfl) (by kernel_rfl) (two_only 23 24 (by kernel_rfl) (by kernel_rfl)) (by exact fun _ _ _ h => h) (Or.inl ⟨by rfl, ?_⟩) hH ?_
                    rotate_left
                    · (intro wS hS; clear hS; go_simp; try rfl)
                    try simp only [Act.put, List.setIfInBounds_toArray, List.set_cons_zero, List.set_cons_succ]
                    refine wpAnyT_take (i := 17) (v := ?_) (by simp only [List.getElem?_toArray, List.getElem?_cons_succ, List.getElem?_cons_zero]; rfl) (by kernel_rfl) (by kernel_rfl) (by kernel_rfl) (by kernel_rfl) (two_only 23 24 (by kernel_rfl) (by kernel_rfl)) (by exact fun _ _ _ h => h) (Or.inl ⟨by rfl, ?_⟩) hH ?_
                    rotate_left
                    · (intro wS hS; clear hS; go_simp; try rfl)
                    try simp only [Act.put, List.setIfInBounds_toArray, List.set_cons_zero, List.set_cons_succ]
                    refine wpAnyT_take (i := 18) (v := ?_) (by simp only [List.getElem?_toArray, List.getElem?_cons_succ, List.getElem?_cons_zero]; rfl) (by kernel_rfl) (by kernel_rfl) (by kernel_rfl) (by kernel_rfl) (two_only 23 24 (by kernel_rfl) (by kernel_rfl)) (by exact fun _ _ _ h => h) (Or.inl ⟨by rfl, ?_⟩) hH ?_
                    rotate_left
                    · (intro wS hS; clear hS; go_simp; try rfl)
                    try simp only [Act.put, List.setIfInBounds_toArray, List.set_cons_zero, List.set_cons_succ]
                    refine wpAnyT_take (i := 19) (v := ?_) (by simp only [List.getElem?_toArray, List.getElem?_cons_succ, List.getElem?_cons_zero]; rfl) (by kernel_rfl) (by kernel_rfl) (by kernel_rfl) (by kernel_rfl) (two_only 23 24 (by kernel_rfl) (by kernel_rfl)) (by exact fun _ _ _ h => h) (Or.inl ⟨by rfl, ?_⟩) hH ?_
                    rotate_left
                    · (intro wS hS; clear hS; go_simp; try rfl)
                    try simp only [Act.put, List.setIfInBounds_toArray, List.set_cons_zero, List.set_cons_succ]
                    refine wpAnyT_take (i := 20) (v := ?_) (by simp only [List.getElem?_toArray, List.getElem?_cons_succ, List.getElem?_cons_zero]; rfl) (by kernel_rfl) (by kernel_rfl) (by kernel_rfl) (by kernel_rfl) (two_only 23 24 (by kernel_rfl) (by kernel_rfl)) (by exact fun _ _ _ h => h) (Or.inl ⟨by rfl, ?_⟩) hH ?_
                    rotate_left
                    · (intro wS hS; (try dsimp only at hS); obtain ⟨k1, k2, k3, k4, k5⟩ := seF KB.out X1.out X2.out hS; go_simp; try rfl)
                    try simp only [Act.put, List.setIfInBounds_toArray, List.set_cons_zero, List.set_cons_succ]
                    refine wpAnyT_ready (rs := [21]) (by kernel_rfl) (by simp) ?_
                    refine AllReadyT.cons (by simp only [List.getElem?_toArray, List.getElem?_cons_succ, List.getElem?_cons_zero]; rfl) (fun K hK => ?_) AllReadyT.nil
                    go_simp
                    (with_reducible refine (MK.out _).mono ?_)
                    rintro e v1 ⟨rfl, hb1⟩
                    try dsimp only
                    refine hK.out _ _ (fun _ => hH.trans (hb1.mono hH.size)) ?_
                    clear hK K
                    have hH := hH.trans (hb1.mono hH.size)
                    clear hb1
                    try simp only [Act.put, List.setIfInBounds_toArray, List.set_cons_zero, List.set_cons_succ]
                    refine wpAnyT_ready (rs := [22]) (by kernel_rfl) (by simp) ?_
                    refine AllReadyT.cons (by simp only [List.getElem?_toArray, List.getElem?_cons_succ, List.getElem?_cons_zero]; rfl) (fun K hK => ?_) AllReadyT.nil
                    go_simp
                    try dsimp only
                    have hH := hH.alloc hH.size (.cells #[.int .i64 y1, .int .i64 y2] 80)
                    refine hK.out _ _ (fun _ => hH) ?_
                    clear hK K
                    try simp only [Act.put, List.setIfInBounds_toArray, List.set_cons_zero, List.set_cons_succ]
                    obtain ⟨v9, w9, hr9, ho9, hg9⟩ := appendRat _ (.slice q13 k c13) y1 y2 v1.heap.size (O.out.keep hH) (Blk2.at_ _ _ _ rfl) (by rw [UL.out]; omega) (by have := hH.size; omega)
                    refine wpAnyT_ready (rs := [23]) (by kernel_rfl) (by simp) ?_
                    refine AllReadyT.cons (by simp only [List.getElem?_toArray, List.getElem?_cons_succ, List.getElem?_cons_zero]; rfl) (fun K hK => ?_) AllReadyT.nil
                    refine step_append rfl _ _ 49 rfl _ _ rfl rfl _ _ hr9 ?_
                    try dsimp only
                    refine hK.out _ _ (fun h => by cases h) ?_
                    clear hK K
                    try simp only [Act.put, List.setIfInBounds_toArray, List.set_cons_zero, List.set_cons_succ]
                    refine wpAnyT_ready (rs := [24]) (by kernel_rfl) (by simp) ?_
                    refine AllReadyT.cons (by simp only [List.getElem?_toArray, List.getElem?_cons_succ, List.getElem?_cons_zero]; rfl) (fun K hK => ?_) AllReadyT.nil
                    go_simp
                    try dsimp only
                    refine hK.out _ _ (fun h => by cases h) ?_
                    clear hK K
                    try simp only [Act.put, List.setIfInBounds_toArray, List.set_cons_zero, List.set_cons_succ]
                    refine wpAnyT_done (by kernel_rfl) ?_ _
                    go_wp2_with fail
                    go_roundw
                    case rel =>
                      refine ⟨k + 1, by go_num, by omega, ?_, ?_⟩
                      · rw [SS.out]
                        exact ho9
                      · exact (B.out.trans (hH.mono s5)).grown hg9 (by have := hH.size; omega) (fun j hj => by have := ownB_ge2 (O.out.keep hH) hj; omega)
                    case measure => simp [intOf]; omega
                  · obtain rfl : k = i := by omega
                    have OQ : Hid (OwnR w.heap.size wr (.slice q13 k c13) (seUp k ys k)) := O.out.le B5.out.size
                    have BQ := Lib.hid (B5.out.trans (B.out.mono B5.out.size))
                    go_wp2_with fail
                    rw [V.out]
                    exact bodyPost_ret (v := .tuple #[.slice q13 k c13, .bool true]) (by simp [results, Try.results36, go_sem]) rfl ⟨_, rfl, OQ.out, BQ.out⟩
end Go.Proofs.Ytcapddcmnjeloaa
end

section
/-
  Two lists of ints that appends go on with, in different blocks.
-/
namespace Go.Proofs.Ytcapddcmnjeloaa
open Go.RowKit

theorem grown_below {w w' : World} (h : Below w.heap.size w w') : w.grownBy w' none := ⟨h.os, h.tape, h.output, h.size, fun k hk _ => h.block k hk⟩
theorem not_none (v : Value) : v.ownBlock = none ∨ v.ownBlock ≠ none := by cases v.ownBlock <;> simp
theorem rowL_form {w : World} {base n : Nat} {e : TypeId} {size : Nat} {v : Value} {xs : List Value} (h : w.ownsRow base e size v n xs) : ∃ a c, v = .slice a n c := by
  obtain ⟨h1, ⟨h2, h3⟩ | ⟨g, cap, cur, e, -⟩⟩ := h
  · exact ⟨_, _, by rw [h2, h3]⟩
  · exact ⟨_, _, e⟩
structure TwoL (B : Nat) (w : World) (v1 v2 : Value) (l1 l2 : List Int) : Prop where
  r1 : w.ownsRow B 3 1 v1 l1.length (l1.map (Value.int .i64))
  r2 : w.ownsRow B 3 1 v2 l2.length (l2.map (Value.int .i64))
  ne : ∀ b, v1.ownBlock = some b → v2.ownBlock ≠ some b
theorem TwoL.swap {B : Nat} {w : World} {v1 v2 : Value} {l1 l2 : List Int} (h : TwoL B w v1 v2 l1 l2) : TwoL B w v2 v1 l2 l1 := ⟨h.r2, h.r1, fun b h1 h2 => h.ne b h2 h1⟩
theorem TwoL.grown {B : Nat} {w w' : World} {v1 v2 : Value} {l1 l2 : List Int} {row : Option Nat} (h : TwoL B w v1 v2 l1 l2) (hg : w.grownBy w' row) (hr : ∀ k, row = some k → k < B) : TwoL B w' v1 v2 l1 l2 := by
  have far : ∀ {v : Value} {l : List Int}, w.ownsRow B 3 1 v l.length (l.map (Value.int .i64)) → v.ownBlock = none ∨ v.ownBlock ≠ row := fun {v l} ho => by
    cases hv : v.ownBlock with
    | none => exact .inl rfl
    | some b =>
      refine .inr fun e => ?_
      have := hr b e.symm
      have := (ho.lt b hv).1
      omega
  exact ⟨h.r1.kept hg (far h.r1), h.r2.kept hg (far h.r2), h.ne⟩
theorem TwoL.keep {B : Nat} {w w' : World} {v1 v2 : Value} {l1 l2 : List Int} (h : TwoL B w v1 v2 l1 l2) (hb : Below w.heap.size w w') : TwoL B w' v1 v2 l1 l2 := h.grown (grown_below hb) (fun k hk => by cases hk)
theorem TwoL.alloc {B : Nat} {w : World} {v1 v2 : Value} {l1 l2 : List Int} (h : TwoL B w v1 v2 l1 l2) (o : Obj) : TwoL B (w.alloc o) v1 v2 l1 l2 := ⟨h.r1.alloc o, h.r2.alloc o, h.ne⟩
theorem TwoL.app1 {B : Nat} {w w' : World} {v1 v1' v2 : Value} {l1 l2 : List Int} {x : Int} (h : TwoL B w v1 v2 l1 l2) (ho : w'.ownsRow B 3 1 v1' (l1.length + 1) (l1.map (Value.int .i64) ++ [.int .i64 x])) (hg : w.grownBy w' v1.ownBlock) (hor : v1'.ownBlock = v1.ownBlock ∨ v1'.ownBlock = some w.heap.size) : TwoL B w' v1' v2 (l1 ++ [x]) l2 := by
  refine ⟨?_, h.r2.kept hg ?_, fun b hb hb2 => ?_⟩
  · rw [List.map_append, List.length_append]; exact ho
  · cases e : v1.ownBlock with
    | none => exact not_none v2
    | some b => exact .inr (h.ne b e)
  · rcases hor with e | e
    · exact h.ne b (e.symm.trans hb) hb2
    · have := (h.r2.lt b hb2).2
      rw [e] at hb
      injection hb with hb
      omega
theorem TwoL.start (w : World) {B : Nat} (hB : B ≤ w.heap.size) : TwoL B ((w.alloc (.cells #[] 3)).alloc (.cells #[] 3)) (.slice (some ⟨w.heap.size, 0, none⟩) 0 0) (.slice (some ⟨w.heap.size + 1, 0, none⟩) 0 0) [] [] := by
  refine ⟨⟨rfl, .inr ⟨w.heap.size, 0, #[], rfl, hB, ?_, Nat.le_refl _, by decide, rfl, rfl⟩⟩, ⟨rfl, .inr ⟨w.heap.size + 1, 0, #[], rfl, by omega, ?_, Nat.le_refl _, by decide, rfl, rfl⟩⟩, fun b h h' => ?_⟩
  · exact (heap_alloc_old _ _ (by simp)).trans (heap_alloc_new w _)
  · have hn := heap_alloc_new (w.alloc (.cells #[] 3)) (.cells #[] 3)
    rw [show (w.alloc (.cells #[] 3)).heap.size = w.heap.size + 1 by simp] at hn
    exact hn
  · simp only [Value.ownBlock] at h h'
    injection h with h
    injection h' with h'
    omega
end Go.Proofs.Ytcapddcmnjeloaa
end

section
/-
  Chapter 11, in the program: besideMatrix.
-/
namespace Go.Proofs.Ytcapddcmnjeloaa
set_option maxRecDepth 100000
open Go.RowKit

theorem tab_snoc (i c : Nat) (f : Nat → Nat → Int) (hc : 0 < c) : tab (i + 1) c f = tab i c f ++ (List.range c).map (f i) := by
  unfold tab
  rw [Nat.succ_mul, List.range_add, List.map_append, List.map_map]
  refine congrArg _ (List.map_congr_left fun b hb => ?_)
  have hb := List.mem_range.mp hb
  show f ((i * c + b) / c) ((i * c + b) % c) = f i b
  rw [Nat.mul_comm i c, Nat.mul_add_div hc, Nat.div_eq_of_lt hb, Nat.add_zero, Nat.mul_add_mod, Nat.mod_eq_of_lt hb]
/-- The first rows of the wide matrix. -/
def wbTo (n : Nat) (xs bs : List Int) (i : Nat) : List Int := tab i (n + 1) (wsF n xs bs)
theorem wbTo_length (n : Nat) (xs bs : List Int) (i : Nat) : (wbTo n xs bs i).length = i * (n + 1) := tab_length _ _ _
theorem wbTo_zero (n : Nat) (xs bs : List Int) : wbTo n xs bs 0 = [] := List.eq_nil_of_length_eq_zero (by rw [wbTo_length]; omega)
theorem wbTo_all (n : Nat) (xs bs : List Int) : wbTo n xs bs n = wdL n xs bs := rfl
theorem wbTo_succ (n : Nat) (xs bs : List Int) (i : Nat) : wbTo n xs bs (i + 1) = (wbTo n xs bs i ++ rwL n (mxC n xs i)) ++ [bs.getD i 0] := by
  unfold wbTo
  rw [tab_snoc i (n + 1) _ (by omega), List.range_succ, List.map_append, List.append_assoc]
  refine congrArg _ ?_
  have e1 : (List.range n).map (wsF n xs bs i) = rwL n (mxC n xs i) := List.map_congr_left fun j hj => by
    have hj := List.mem_range.mp hj
    unfold wsF
    rw [if_pos hj]; rfl
  have e2 : wsF n xs bs i n = bs.getD i 0 := by
    unfold wsF
    rw [if_neg (Nat.lt_irrefl n)]
  rw [e1, List.map_cons, List.map_nil, e2]
/-- Where a round's two appends are: W the world at their beginning, v0 the list there. -/
structure BsR (E : Nat) (v0 : Value) (W : World) (v : Value) (l : List Int) (W' : World) : Prop where
  fr : W.grownBy W' v0.ownBlock
  row : W'.ownsRow E 3 1 v l.length (l.map (Value.int .i64))
  or_ : v.ownBlock = v0.ownBlock ∨ ∃ g, v.ownBlock = some g ∧ W.heap.size ≤ g
theorem BsR.start {E : Nat} {v0 : Value} {W : World} {l : List Int} (h : W.ownsRow E 3 1 v0 l.length (l.map (Value.int .i64))) : BsR E v0 W v0 l W.drew := ⟨⟨rfl, rfl, rfl, Nat.le_refl _, fun _ _ _ => rfl⟩, ⟨h.1, h.2⟩, .inl rfl⟩
theorem BsR.step {E : Nat} {v0 v : Value} {W W' W2 : World} {l : List Int} (h : BsR E v0 W v l W') (hb : Below W'.heap.size W' W2) : BsR E v0 W v l W2 :=
  ⟨h.fr.trans (grown_of_below hb _), h.row.kept (grown_below hb) (by cases v.ownBlock <;> simp), h.or_⟩
theorem BsR.app {E : Nat} {v0 v v' : Value} {W W' W2 : World} {l ys : List Int} (h : BsR E v0 W v l W') (ho : W2.ownsRow E 3 1 v' (l.length + ys.length) ((l ++ ys).map (Value.int .i64))) (hg : W'.grownBy W2 v.ownBlock) (hor : v'.ownBlock = v.ownBlock ∨ v'.ownBlock = some W'.heap.size) : BsR E v0 W v' (l ++ ys) W2 := by
  have sz := h.fr.size
  refine ⟨⟨hg.os.trans h.fr.os, hg.tape.trans h.fr.tape, hg.output.trans h.fr.output, Nat.le_trans sz hg.size, fun k hk hne => (hg.block k (by omega) (fun e => ?_)).trans (h.fr.block k hk hne)⟩, by rw [List.length_append]; exact ho, ?_⟩
  · rcases h.or_ with e2 | ⟨g', e2, h6⟩
    · exact hne (e.trans e2)
    · rw [e2] at e
      injection e with e
      omega
  · rcases hor with e | e
    · rw [e]; exact h.or_
    · exact .inr ⟨_, e, sz⟩
/-- A block that is none of the list's stays. -/
theorem BsR.blk {E : Nat} {v0 v : Value} {W W' : World} {l : List Int} (h : BsR E v0 W v l W') {b : Nat} {t : TypeId} {x y z : Value} (hb : Blk3 W b t x y z) (hne : v0.ownBlock ≠ some b) : Blk3 W' b t x y z := (h.fr.block b hb.lt (fun e => hne e.symm)).trans hb
theorem app_or (w : World) (base n m c : Nat) (v : Value) (xs ys : List Int) (ga oa : Nat) (hown : w.ownsRow base 3 1 v n (xs.map (Value.int .i64))) (h : Rd w (some ⟨ga, oa, none⟩) ys) (hy : ys.length = m) (hb : n + m ≤ 16777216) (hB : base ≤ w.heap.size) :
    ∃ v' w', (Builtin.append_ #[24, 24] 24 #[v, .slice (some ⟨ga, oa, none⟩) m c]).run Try.prog w = .ok v' w' ∧ w'.ownsRow base 3 1 v' (n + m) ((xs ++ ys).map (Value.int .i64)) ∧ w.grownBy w' v.ownBlock ∧ (v'.ownBlock = v.ownBlock ∨ v'.ownBlock = some w.heap.size) := by
  obtain ⟨fi, hfi, hz0, hz1, hz2⟩ := facts_int
  have news : ∀ (j : Nat) u, (ys.map (Value.int .i64))[j]? = some u → w.cell? ((⟨ga, oa, none⟩ : Addr).add j) = some u := by
    intro j u hu
    obtain ⟨hj, rfl⟩ := news_ints _ j u hu
    obtain ⟨b', o', e, hc⟩ := h j hj
    injection e with e
    injection e with e1 e2
    subst e1 e2
    rw [show (⟨ga, oa, none⟩ : Addr).add j = ⟨ga, oa + j, none⟩ by simp only [Addr.add]; split <;> simp_all]
    exact hc
  obtain ⟨v', w', hr, h2, h3, -, h5⟩ := run_append_own_at (P := Try.prog) w base 24 24 3 fi (.int .i64 0) 1 8 underlying_ints hfi hz0 hz1 hz2 rfl (by decide) v n _ hown ⟨ga, oa, none⟩ m c (ys.map (Value.int .i64)) (by rw [List.length_map, hy, Nat.mul_one]) news
    (by intro u hu; obtain ⟨z, -, rfl⟩ := List.mem_map.mp hu; rfl) (by unfold maxLen; omega) (by omega) hB
  exact ⟨v', w', hr, by rw [List.map_append]; exact h2, h3, h5⟩
end Go.Proofs.Ytcapddcmnjeloaa
end

section
/-
  Chapter 11, in the program: besideMatrix.
-/
namespace Go.Proofs.Ytcapddcmnjeloaa
set_option maxRecDepth 100000
open Go.RowKit

set_option maxHeartbeats 4000000 in
theorem iBeside (n : Nat) (a : Option Addr) (m : Nat) (xs : List Int) (ab : Option Addr) (mb : Nat) (bs : List Int) (w : World) (h : Rd w a xs) (hc : CelA a xs.length m) (hx : xs.length = n * n) (hb : Rd w ab bs) (hbl : bs.length = n) (h6 : n ≤ 6) :
    Calls Try.prog 109 #[.agg #[.int .i64 n, .int .i64 n, .slice a xs.length m], .slice ab bs.length mb] w (CopyM n ((n : Int) + 1) (n * (n + 1)) (wdL n xs bs) w) := by
  have N36 : n * n ≤ 36 := Nat.mul_le_mul h6 h6
  have M42 : n * (n + 1) ≤ 42 := Nat.le_trans (Nat.mul_le_mul h6 (Nat.succ_le_succ h6)) (by decide)
  have RX := Lib.hid h
  have RB := Lib.hid hb
  have XB := Lib.hid hbl
  have XN := Lib.hid hx
  have HC := Lib.hid hc
  have wn : IntKind.i64.wrap ((n : Int) + 1) = (n : Int) + 1 := IntWalk.i64_in _ (by omega)
  have LW : Hid (∀ i, (wbTo n xs bs i).length = i * (n + 1)) := fun i => wbTo_length n xs bs i
  have LM : Hid (∀ i, i < n → i * (n + 1) + n + 1 ≤ 42) := fun i hi => by
    have : (i + 1) * (n + 1) ≤ n * (n + 1) := Nat.mul_le_mul_right _ hi
    rw [Nat.succ_mul] at this
    show _ ≤ _; omega
  have RW : Hid (∀ i, i < n → ∀ w', Calls Try.prog 42 #[.agg #[.int .i64 n, .int .i64 n, .slice a xs.length m], .int .i64 i] w' (RowAt a (i * n) n w')) := fun i hi w' => iRowIn n n i (i * n) xs.length m a w' HC.out.spot rfl (by rw [hx, ← Nat.succ_mul]; exact Nat.mul_le_mul_right _ hi) HC.out.le HC.out.nil (by omega) (by omega)
  obtain ⟨N, hN⟩ : ∃ N, xs.length = N := ⟨_, rfl⟩
  rw [hN] at RW ⊢
  rw [hbl]
  have HNN := Lib.hid hN
  clear h hb hbl hx hc hN
  have K2 : Hid (Blk3 (((w.alloc (.cells #[.int .i64 n, .int .i64 n, .slice a N m] 26)).alloc (.cells #[.int .i64 0, .int .i64 0, .slice none 0 0] 26)).alloc (.cells #[.int .i64 n, .int .i64 ((n : Int) + 1), .slice none 0 0] 26)) w.heap.size 26 (.int .i64 n) (.int .i64 n) (.slice a N m)) := ((Blk3.at_ _ _ _ _ rfl).old _).old _
  have K4 : Hid (Blk3 (((w.alloc (.cells #[.int .i64 n, .int .i64 n, .slice a N m] 26)).alloc (.cells #[.int .i64 0, .int .i64 0, .slice none 0 0] 26)).alloc (.cells #[.int .i64 n, .int .i64 ((n : Int) + 1), .slice none 0 0] 26)) (w.heap.size + 1) 26 (.int .i64 0) (.int .i64 0) (.slice none 0 0)) := (Blk3.at_ _ _ _ _ (by simp)).old _
  have K5 : Hid (Blk3 (((w.alloc (.cells #[.int .i64 n, .int .i64 n, .slice a N m] 26)).alloc (.cells #[.int .i64 0, .int .i64 0, .slice none 0 0] 26)).alloc (.cells #[.int .i64 n, .int .i64 ((n : Int) + 1), .slice none 0 0] 26)) (w.heap.size + 1 + 1) 26 (.int .i64 n) (.int .i64 ((n : Int) + 1)) (.slice none 0 0)) := Blk3.at_ _ _ _ _ (by simp)
  have B0 : Hid (Below w.heap.size w (((w.alloc (.cells #[.int .i64 n, .int .i64 n, .slice a N m] 26)).alloc (.cells #[.int .i64 0, .int .i64 0, .slice none 0 0] 26)).alloc (.cells #[.int .i64 n, .int .i64 ((n : Int) + 1), .slice none 0 0] 26))) := (((Below.refl _ _).alloc (Nat.le_refl _) _).alloc (by simp) _).alloc (by simp; omega) _
  have kk : Hid (Blk3 ((w.alloc (.cells #[.int .i64 n, .int .i64 n, .slice a N m] 26)).alloc (.cells #[.int .i64 0, .int .i64 0, .slice none 0 0] 26)) w.heap.size 26 (.int .i64 n) (.int .i64 n) (.slice a N m)) := (Blk3.at_ _ _ _ _ rfl).old _
  obtain ⟨z0, z1, z2, -, -, -⟩ := kk.out.all
  go_enter Try.func109, Try.ntmps109
  go_upto_region 2 with fail
  clear z0 z1 z2 kk wn
  generalize ((w.alloc (.cells #[.int .i64 n, .int .i64 n, .slice a N m] 26)).alloc (.cells #[.int .i64 0, .int .i64 0, .slice none 0 0] 26)).alloc (.cells #[.int .i64 n, .int .i64 ((n : Int) + 1), .slice none 0 0] 26) = W0 at K2 K4 K5 B0 ⊢
  obtain ⟨b5, hb5⟩ : ∃ b, w.heap.size + 1 + 1 = b := ⟨_, rfl⟩
  rw [hb5] at K5 ⊢
  have O0 : Hid (W0.ownsRow (b5 + 1) 3 1 (.slice none 0 0) (wbTo n xs bs 0).length ((wbTo n xs bs 0).map (Value.int .i64))) := by
    refine Lib.hid ?_
    rw [wbTo_zero]
    exact ⟨rfl, .inl ⟨rfl, rfl⟩⟩
  go_wp2_with fail
  go_loopw [6, 7, 16] (fun _ _ v16 wr => ∃ (i : Nat) (v0 : Value), v16 = .int .i64 i ∧ i ≤ n ∧ Blk3 wr w.heap.size 26 (.int .i64 n) (.int .i64 n) (.slice a N m) ∧ Blk3 wr (w.heap.size + 1) 26 (.int .i64 0) (.int .i64 0) (.slice none 0 0) ∧ Blk3 wr b5 26 (.int .i64 n) (.int .i64 ((n : Int) + 1)) v0 ∧ wr.ownsRow (b5 + 1) 3 1 v0 (wbTo n xs bs i).length ((wbTo n xs bs i).map (Value.int .i64)) ∧ Below w.heap.size w wr) (fun _ _ v16 _ => n - (intOf v16).toNat)
  case atStart => exact ⟨0, _, rfl, by omega, K2.out, K4.out, K5.out, O0.out, B0.out⟩
  case round =>
    clear K2 K4 K5 B0 O0
    obtain ⟨i, v0, rfl, hi, h2, h4, h5, ho, hB⟩ := hrel
    have K2 := Lib.hid h2
    have K4 := Lib.hid h4
    have K5 := Lib.hid h5
    have OWN := Lib.hid ho
    have B := Lib.hid hB
    clear h2 h4 h5 ho hB
    by_cases hlt : i < n
    · obtain ⟨ga, oa, rfl⟩ : ∃ ga oa : Nat, a = some ⟨ga, oa, none⟩ := by
        obtain ⟨b, o, e, -⟩ := RX.out 0 (by rw [XN.out]; exact Nat.mul_pos (by omega) (by omega))
        exact ⟨b, o, e⟩
      obtain ⟨b1, o1, rfl, hc1⟩ := (RB.out.below B.out) i (by rw [XB.out]; exact hlt)
      obtain ⟨x, hx⟩ : ∃ x, bs.getD i 0 = x := ⟨_, rfl⟩
      rw [hx] at hc1
      have HX := Lib.hid hx
      have RR : Hid (∀ w', Below w.heap.size w w' → Rd w' (some ⟨ga, oa + i * n, none⟩) (rwL n (mxC n xs i))) := fun w' hb' => (RX.out.below hb').row XN.out hlt (fun g o e _ => by injection e with e; injection e with e1 e2; subst e1 e2; rfl)
      have lm := LM.out i hlt
      obtain ⟨q0, c0, rfl⟩ := rowL_form OWN.out
      have NE2 : Hid ((Value.slice q0 (wbTo n xs bs i).length c0).ownBlock ≠ some w.heap.size) := fun e => by have := (OWN.out.lt _ e).1; omega
      have NE4 : Hid ((Value.slice q0 (wbTo n xs bs i).length c0).ownBlock ≠ some (w.heap.size + 1)) := fun e => by have := (OWN.out.lt _ e).1; omega
      have NE5 : Hid ((Value.slice q0 (wbTo n xs bs i).length c0).ownBlock ≠ some b5) := fun e => by have := (OWN.out.lt _ e).1; omega
      obtain ⟨l5, hl5⟩ : ∃ l, wbTo n xs bs i ++ rwL n (mxC n xs i) = l := ⟨_, rfl⟩
      have E5 := Lib.hid hl5
      have L5 : Hid (l5.length = i * (n + 1) + n) := by show _ = _; rw [← hl5, List.length_append, rwL_length, LW.out]
      have E8 : Hid (l5 ++ [x] = wbTo n xs bs (i + 1)) := by show _ = _; rw [← hl5, ← hx, wbTo_succ]
      clear hl5
      have R0 := Lib.hid (BsR.start OWN.out)
      have l5 := K5.out.lt
      clear hx
      go_upto_region 5 with fail
      clear hc1
      refine wp_region_T (S := fun w' => Blk3 w' w.heap.size 26 (.int .i64 n) (.int .i64 n) (.slice (some ⟨ga, oa, none⟩) N m) ∧ Blk3 w' b5 26 (.int .i64 n) (.int .i64 ((n : Int) + 1)) (.slice q0 (wbTo n xs bs i).length c0)) (T := fun j => j == 10) (by kernel_rfl) ⟨K2.out.drew, K5.out.drew⟩ (fun hH => ?_)
      refine wpAnyT_take (i := 0) (v := ?_) (by simp only [List.getElem?_toArray, List.getElem?_cons_zero]; rfl) (by kernel_rfl) (by kernel_rfl) (by kernel_rfl) (by kernel_rfl) (one_only 10 (by kernel_rfl)) (by exact fun _ _ _ h => h) (Or.inl ⟨by rfl, ?_⟩) hH ?_
      rotate_left
      · (intro wS hS; clear hS; go_simp; try rfl)
      try simp only [Act.put, List.setIfInBounds_toArray, List.set_cons_zero, List.set_cons_succ]
      refine wpAnyT_take (i := 1) (v := ?_) (by simp only [List.getElem?_toArray, List.getElem?_cons_succ, List.getElem?_cons_zero]; rfl) (by kernel_rfl) (by kernel_rfl) (by kernel_rfl) (by kernel_rfl) (one_only 10 (by kernel_rfl)) (by exact fun _ _ _ h => h) (Or.inl ⟨by rfl, ?_⟩) hH ?_
      rotate_left
      · (intro wS hS; (try dsimp only at hS); obtain ⟨q1, q2⟩ := hS; obtain ⟨x0, x1, x2, -, -, -⟩ := q1.all; obtain ⟨y0, y1, y2, -, -, -⟩ := q2.all; go_simp; try rfl)
      try simp only [Act.put, List.setIfInBounds_toArray, List.set_cons_zero, List.set_cons_succ]
      refine wpAnyT_take (i := 2) (v := ?_) (by simp only [List.getElem?_toArray, List.getElem?_cons_succ, List.getElem?_cons_zero]; rfl) (by kernel_rfl) (by kernel_rfl) (by kernel_rfl) (by kernel_rfl) (one_only 10 (by kernel_rfl)) (by exact fun _ _ _ h => h) (Or.inl ⟨by rfl, ?_⟩) hH ?_
      rotate_left
      · (intro wS hS; (try dsimp only at hS); obtain ⟨q1, q2⟩ := hS; obtain ⟨x0, x1, x2, -, -, -⟩ := q1.all; obtain ⟨y0, y1, y2, -, -, -⟩ := q2.all; go_simp; try rfl)
      try simp only [Act.put, List.setIfInBounds_toArray, List.set_cons_zero, List.set_cons_succ]
      refine wpAnyT_take (i := 3) (v := ?_) (by simp only [List.getElem?_toArray, List.getElem?_cons_succ, List.getElem?_cons_zero]; rfl) (by kernel_rfl) (by kernel_rfl) (by kernel_rfl) (by kernel_rfl) (one_only 10 (by kernel_rfl)) (by exact fun _ _ _ h => h) (Or.inl ⟨by rfl, ?_⟩) hH ?_
      rotate_left
      · (intro wS hS; clear hS; go_simp; try rfl)
      try simp only [Act.put, List.setIfInBounds_toArray, List.set_cons_zero, List.set_cons_succ]
      refine wpAnyT_take (i := 6) (v := ?_) (by simp only [List.getElem?_toArray, List.getElem?_cons_succ, List.getElem?_cons_zero]; rfl) (by kernel_rfl) (by kernel_rfl) (by kernel_rfl) (by kernel_rfl) (one_only 10 (by kernel_rfl)) (by exact fun _ _ _ h => h) (Or.inl ⟨by rfl, ?_⟩) hH ?_
      rotate_left
      · (intro wS hS; clear hS; go_simp; try rfl)
      try simp only [Act.put, List.setIfInBounds_toArray, List.set_cons_zero, List.set_cons_succ]
      generalize wr.drew = Wd at R0 hH ⊢
      refine wpAnyT_ready (rs := [4, 7]) (by kernel_rfl) (by simp) ?_
      refine AllReadyT.cons (by simp only [List.getElem?_toArray, List.getElem?_cons_succ, List.getElem?_cons_zero]; rfl) (fun K hK => ?_) (AllReadyT.cons (by simp only [List.getElem?_toArray, List.getElem?_cons_succ, List.getElem?_cons_zero]; rfl) (fun K hK => ?_) (AllReadyT.nil))
      ·
        go_simp
        (with_reducible refine (RW.out i hlt _).mono ?_)
        rintro e W1 ⟨q1, m1, rfl, hm1, hq1, -, hb1⟩
        obtain rfl := hq1 _ _ rfl (by omega)
        try dsimp only
        have R1 := Lib.hid (R0.out.step hb1)
        have hH : _ ∧ _ := ⟨R1.out.blk K2.out NE2.out, R1.out.blk K5.out NE5.out⟩
        refine hK.out _ _ (fun _ => hH) ?_
        clear hK K
        try simp only [Act.put, List.setIfInBounds_toArray, List.set_cons_zero, List.set_cons_succ]
        clear hm1 hq1 hb1
        refine wpAnyT_ready (rs := [5, 7]) (by kernel_rfl) (by simp) ?_
        refine AllReadyT.cons (by simp only [List.getElem?_toArray, List.getElem?_cons_succ, List.getElem?_cons_zero]; rfl) (fun K hK => ?_) (AllReadyT.cons (by simp only [List.getElem?_toArray, List.getElem?_cons_succ, List.getElem?_cons_zero]; rfl) (fun K hK => ?_) (AllReadyT.nil))
        ·
          have s2 := R1.out.fr.size
          have d2 : Rd W1 (some ⟨ga, oa + i * n, none⟩) (rwL n (mxC n xs i)) := RR.out W1 (B.out.grown R1.out.fr B.out.size (fun k e => by have := (OWN.out.lt k e).1; omega))
          obtain ⟨u2, W2, hr2, ho2, hg2, hor2⟩ := app_or W1 (b5 + 1) _ n m1 _ _ _ ga (oa + i * n) R1.out.row d2 (rwL_length _ _) (by rw [LW.out]; omega) (by omega)
          refine step_append rfl _ _ 24 rfl _ _ rfl rfl _ _ hr2 ?_
          have R2 := Lib.hid (R1.out.app (ys := (rwL n (mxC n xs i))) (by rw [show (rwL n (mxC n xs i)).length = n from (rwL_length _ _)]; exact ho2) hg2 hor2)
          rw [E5.out] at R2
          try dsimp only
          have hH : _ ∧ _ := ⟨R2.out.blk K2.out NE2.out, R2.out.blk K5.out NE5.out⟩
          refine hK.out _ _ (fun _ => hH) ?_
          clear hK K
          try simp only [Act.put, List.setIfInBounds_toArray, List.set_cons_zero, List.set_cons_succ]
          obtain ⟨qa2, qc2, rfl⟩ := rowL_form R2.out.row
          clear hr2 ho2 hg2 hor2 d2 s2
          refine wpAnyT_ready (rs := [7]) (by kernel_rfl) (by simp) ?_
          refine AllReadyT.cons (by simp only [List.getElem?_toArray, List.getElem?_cons_succ, List.getElem?_cons_zero]; rfl) (fun K hK => ?_) (AllReadyT.nil)
          go_simp
          try dsimp only
          have R3 := Lib.hid (R2.out.step ((Below.refl _ W2).alloc (Nat.le_refl _) (.cells #[.int .i64 x] 3)))
          have N3 : Hid (Blk1 (W2.alloc (.cells #[.int .i64 x] 3)) W2.heap.size 3 (.int .i64 x)) := Blk1.at_ _ _ rfl
          have l3 : wr.heap.size ≤ W2.heap.size := R2.out.fr.size
          have hH : _ ∧ _ := ⟨R3.out.blk K2.out NE2.out, R3.out.blk K5.out NE5.out⟩
          refine hK.out _ _ (fun _ => hH) ?_
          clear hK K
          try simp only [Act.put, List.setIfInBounds_toArray, List.set_cons_zero, List.set_cons_succ]
          obtain ⟨g3, hg3⟩ : ∃ g, W2.heap.size = g := ⟨_, rfl⟩
          obtain ⟨W3, hw3⟩ : ∃ W, W2.alloc (.cells #[.int .i64 x] 3) = W := ⟨_, rfl⟩
          rw [hg3] at N3 l3 ⊢
          rw [hw3] at N3 R3 hH ⊢
          clear hg3 hw3
          refine wpAnyT_ready (rs := [8]) (by kernel_rfl) (by simp) ?_
          refine AllReadyT.cons (by simp only [List.getElem?_toArray, List.getElem?_cons_succ, List.getElem?_cons_zero]; rfl) (fun K hK => ?_) (AllReadyT.nil)
          have s4 := R3.out.fr.size
          have d4 : Rd W3 (some ⟨g3, 0, none⟩) [x] := fun k hk => ⟨g3, 0, rfl, by obtain rfl : k = 0 := (by simp at hk; omega); exact N3.out.cell0⟩
          obtain ⟨u4, W4, hr4, ho4, hg4, hor4⟩ := app_or W3 (b5 + 1) _ 1 1 _ _ _ g3 0 R3.out.row d4 rfl (by rw [L5.out]; omega) (by omega)
          refine step_append rfl _ _ 24 rfl _ _ rfl rfl _ _ hr4 ?_
          have R4 := Lib.hid (R3.out.app (ys := [x]) (by rw [show [x].length = 1 from rfl]; exact ho4) hg4 hor4)
          rw [E8.out] at R4
          try dsimp only
          have hH : _ ∧ _ := ⟨R4.out.blk K2.out NE2.out, R4.out.blk K5.out NE5.out⟩
          refine hK.out _ _ (fun _ => hH) ?_
          clear hK K
          try simp only [Act.put, List.setIfInBounds_toArray, List.set_cons_zero, List.set_cons_succ]
          obtain ⟨qa4, qc4, rfl⟩ := rowL_form R4.out.row
          clear hr4 ho4 hg4 hor4 d4 s4
          refine wpAnyT_take (i := 9) (v := ?_) (by simp only [List.getElem?_toArray, List.getElem?_cons_succ, List.getElem?_cons_zero]; rfl) (by kernel_rfl) (by kernel_rfl) (by kernel_rfl) (by kernel_rfl) (one_only 10 (by kernel_rfl)) (by exact fun _ _ _ h => h) (Or.inl ⟨by rfl, ?_⟩) hH ?_
          rotate_left
          · (intro wS hS; clear hS; go_simp; try rfl)
          try simp only [Act.put, List.setIfInBounds_toArray, List.set_cons_zero, List.set_cons_succ]
          refine wpAnyT_ready (rs := [10]) (by kernel_rfl) (by simp) ?_
          refine AllReadyT.cons (by simp only [List.getElem?_toArray, List.getElem?_cons_succ, List.getElem?_cons_zero]; rfl) (fun K hK => ?_) (AllReadyT.nil)
          obtain ⟨y0, y1, y2, y3, y4, y5⟩ := hH.2.all
          go_simp
          try dsimp only
          refine hK.out _ _ (fun h => absurd h (by decide)) ?_
          clear hK K
          try simp only [Act.put, List.setIfInBounds_toArray, List.set_cons_zero, List.set_cons_succ]
          clear y0 y1 y2 y3 y4 y5
          refine wpAnyT_done (by kernel_rfl) ?_ _
          go_wp2_with fail
          go_roundw
          case rel =>
            refine ⟨i + 1, _, by go_num, by omega, hH.1.far (by show w.heap.size ≠ b5; omega) _, (R4.out.blk K4.out NE4.out).far (by show w.heap.size + 1 ≠ b5; omega) _, hH.2.set2 _, ?_, ?_⟩
            · exact R4.out.row.kept (grown_set_one (a := ⟨b5, 2, none⟩) (World.grownBy.refl _ _) rfl _) (.inr fun e => by have h9 : b5 + 1 ≤ b5 := (R4.out.row.lt b5 e).1; omega)
            · exact (B.out.grown R4.out.fr B.out.size (fun k e => by have := (OWN.out.lt k e).1; omega)).setCell (by show w.heap.size ≤ b5; omega) _
          case measure => simp [intOf]; omega
        ·
          go_simp
          try dsimp only
          have R6 := Lib.hid (R1.out.step ((Below.refl _ W1).alloc (Nat.le_refl _) (.cells #[.int .i64 x] 3)))
          have N6 : Hid (Blk1 (W1.alloc (.cells #[.int .i64 x] 3)) W1.heap.size 3 (.int .i64 x)) := Blk1.at_ _ _ rfl
          have l6 : wr.heap.size ≤ W1.heap.size := R1.out.fr.size
          have hH : _ ∧ _ := ⟨R6.out.blk K2.out NE2.out, R6.out.blk K5.out NE5.out⟩
          refine hK.out _ _ (fun _ => hH) ?_
          clear hK K
          try simp only [Act.put, List.setIfInBounds_toArray, List.set_cons_zero, List.set_cons_succ]
          obtain ⟨g6, hg6⟩ : ∃ g, W1.heap.size = g := ⟨_, rfl⟩
          obtain ⟨W6, hw6⟩ : ∃ W, W1.alloc (.cells #[.int .i64 x] 3) = W := ⟨_, rfl⟩
          rw [hg6] at N6 l6 ⊢
          rw [hw6] at N6 R6 hH ⊢
          clear hg6 hw6
          refine wpAnyT_ready (rs := [5]) (by kernel_rfl) (by simp) ?_
          refine AllReadyT.cons (by simp only [List.getElem?_toArray, List.getElem?_cons_succ, List.getElem?_cons_zero]; rfl) (fun K hK => ?_) (AllReadyT.nil)
          have s7 := R6.out.fr.size
          have d7 : Rd W6 (some ⟨ga, oa + i * n, none⟩) (rwL n (mxC n xs i)) := RR.out W6 (B.out.grown R6.out.fr B.out.size (fun k e => by have := (OWN.out.lt k e).1; omega))
          obtain ⟨u7, W7, hr7, ho7, hg7, hor7⟩ := app_or W6 (b5 + 1) _ n m1 _ _ _ ga (oa + i * n) R6.out.row d7 (rwL_length _ _) (by rw [LW.out]; omega) (by omega)
          refine step_append rfl _ _ 24 rfl _ _ rfl rfl _ _ hr7 ?_
          have R7 := Lib.hid (R6.out.app (ys := (rwL n (mxC n xs i))) (by rw [show (rwL n (mxC n xs i)).length = n from (rwL_length _ _)]; exact ho7) hg7 hor7)
          rw [E5.out] at R7
          have N7 : Hid (Blk1 W7 g6 3 (.int .i64 x)) := (hg7.block _ N6.out.lt (fun e => by have := (OWN.out.lt _ e.symm).2; omega)).trans N6.out
          try dsimp only
          have hH : _ ∧ _ := ⟨R7.out.blk K2.out NE2.out, R7.out.blk K5.out NE5.out⟩
          refine hK.out _ _ (fun _ => hH) ?_
          clear hK K
          try simp only [Act.put, List.setIfInBounds_toArray, List.set_cons_zero, List.set_cons_succ]
          obtain ⟨qa7, qc7, rfl⟩ := rowL_form R7.out.row
          clear hr7 ho7 hg7 hor7 d7 s7
          refine wpAnyT_ready (rs := [8]) (by kernel_rfl) (by simp) ?_
          refine AllReadyT.cons (by simp only [List.getElem?_toArray, List.getElem?_cons_succ, List.getElem?_cons_zero]; rfl) (fun K hK => ?_) (AllReadyT.nil)
          have s8 := R7.out.fr.size
          have d8 : Rd W7 (some ⟨g6, 0, none⟩) [x] := fun k hk => ⟨g6, 0, rfl, by obtain rfl : k = 0 := (by simp at hk; omega); exact N7.out.cell0⟩
          obtain ⟨u8, W8, hr8, ho8, hg8, hor8⟩ := app_or W7 (b5 + 1) _ 1 1 _ _ _ g6 0 R7.out.row d8 rfl (by rw [L5.out]; omega) (by omega)
          refine step_append rfl _ _ 24 rfl _ _ rfl rfl _ _ hr8 ?_
          have R8 := Lib.hid (R7.out.app (ys := [x]) (by rw [show [x].length = 1 from rfl]; exact ho8) hg8 hor8)
          rw [E8.out] at R8
          try dsimp only
          have hH : _ ∧ _ := ⟨R8.out.blk K2.out NE2.out, R8.out.blk K5.out NE5.out⟩
          refine hK.out _ _ (fun _ => hH) ?_
          clear hK K
          try simp only [Act.put, List.setIfInBounds_toArray, List.set_cons_zero, List.set_cons_succ]
          obtain ⟨qa8, qc8, rfl⟩ := rowL_form R8.out.row
          clear hr8 ho8 hg8 hor8 d8 s8
          refine wpAnyT_take (i := 9) (v := ?_) (by simp only [List.getElem?_toArray, List.getElem?_cons_succ, List.getElem?_cons_zero]; rfl) (by kernel_rfl) (by kernel_rfl) (by kernel_rfl) (by kernel_rfl) (one_only 10 (by kernel_rfl)) (by exact fun _ _ _ h => h) (Or.inl ⟨by rfl, ?_⟩) hH ?_
          rotate_left
          · (intro wS hS; clear hS; go_simp; try rfl)
          try simp only [Act.put, List.setIfInBounds_toArray, List.set_cons_zero, List.set_cons_succ]
          refine wpAnyT_ready (rs := [10]) (by kernel_rfl) (by simp) ?_
          refine AllReadyT.cons (by simp only [List.getElem?_toArray, List.getElem?_cons_succ, List.getElem?_cons_zero]; rfl) (fun K hK => ?_) (AllReadyT.nil)
          obtain ⟨y0, y1, y2, y3, y4, y5⟩ := hH.2.all
          go_simp
          try dsimp only
          refine hK.out _ _ (fun h => absurd h (by decide)) ?_
          clear hK K
          try simp only [Act.put, List.setIfInBounds_toArray, List.set_cons_zero, List.set_cons_succ]
          clear y0 y1 y2 y3 y4 y5
          refine wpAnyT_done (by kernel_rfl) ?_ _
          go_wp2_with fail
          go_roundw
          case rel =>
            refine ⟨i + 1, _, by go_num, by omega, hH.1.far (by show w.heap.size ≠ b5; omega) _, (R8.out.blk K4.out NE4.out).far (by show w.heap.size + 1 ≠ b5; omega) _, hH.2.set2 _, ?_, ?_⟩
            · exact R8.out.row.kept (grown_set_one (a := ⟨b5, 2, none⟩) (World.grownBy.refl _ _) rfl _) (.inr fun e => by have h9 : b5 + 1 ≤ b5 := (R8.out.row.lt b5 e).1; omega)
            · exact (B.out.grown R8.out.fr B.out.size (fun k e => by have := (OWN.out.lt k e).1; omega)).setCell (by show w.heap.size ≤ b5; omega) _
          case measure => simp [intOf]; omega
      ·
        go_simp
        try dsimp only
        have R10 := Lib.hid (R0.out.step ((Below.refl _ Wd).alloc (Nat.le_refl _) (.cells #[.int .i64 x] 3)))
        have N10 : Hid (Blk1 (Wd.alloc (.cells #[.int .i64 x] 3)) Wd.heap.size 3 (.int .i64 x)) := Blk1.at_ _ _ rfl
        have l10 : wr.heap.size ≤ Wd.heap.size := R0.out.fr.size
        have hH : _ ∧ _ := ⟨R10.out.blk K2.out NE2.out, R10.out.blk K5.out NE5.out⟩
        refine hK.out _ _ (fun _ => hH) ?_
        clear hK K
        try simp only [Act.put, List.setIfInBounds_toArray, List.set_cons_zero, List.set_cons_succ]
        obtain ⟨g10, hg10⟩ : ∃ g, Wd.heap.size = g := ⟨_, rfl⟩
        obtain ⟨W10, hw10⟩ : ∃ W, Wd.alloc (.cells #[.int .i64 x] 3) = W := ⟨_, rfl⟩
        rw [hg10] at N10 l10 ⊢
        rw [hw10] at N10 R10 hH ⊢
        clear hg10 hw10
        refine wpAnyT_ready (rs := [4]) (by kernel_rfl) (by simp) ?_
        refine AllReadyT.cons (by simp only [List.getElem?_toArray, List.getElem?_cons_succ, List.getElem?_cons_zero]; rfl) (fun K hK => ?_) (AllReadyT.nil)
        go_simp
        (with_reducible refine (RW.out i hlt _).mono ?_)
        rintro e W11 ⟨q11, m11, rfl, hm11, hq11, -, hb11⟩
        obtain rfl := hq11 _ _ rfl (by omega)
        try dsimp only
        have R11 := Lib.hid (R10.out.step hb11)
        have N11 := Lib.hid (N10.out.keep hb11 N10.out.lt)
        have hH : _ ∧ _ := ⟨R11.out.blk K2.out NE2.out, R11.out.blk K5.out NE5.out⟩
        refine hK.out _ _ (fun _ => hH) ?_
        clear hK K
        try simp only [Act.put, List.setIfInBounds_toArray, List.set_cons_zero, List.set_cons_succ]
        clear hm11 hq11 hb11
        refine wpAnyT_ready (rs := [5]) (by kernel_rfl) (by simp) ?_
        refine AllReadyT.cons (by simp only [List.getElem?_toArray, List.getElem?_cons_succ, List.getElem?_cons_zero]; rfl) (fun K hK => ?_) (AllReadyT.nil)
        have s12 := R11.out.fr.size
        have d12 : Rd W11 (some ⟨ga, oa + i * n, none⟩) (rwL n (mxC n xs i)) := RR.out W11 (B.out.grown R11.out.fr B.out.size (fun k e => by have := (OWN.out.lt k e).1; omega))
        obtain ⟨u12, W12, hr12, ho12, hg12, hor12⟩ := app_or W11 (b5 + 1) _ n m11 _ _ _ ga (oa + i * n) R11.out.row d12 (rwL_length _ _) (by rw [LW.out]; omega) (by omega)
        refine step_append rfl _ _ 24 rfl _ _ rfl rfl _ _ hr12 ?_
        have R12 := Lib.hid (R11.out.app (ys := (rwL n (mxC n xs i))) (by rw [show (rwL n (mxC n xs i)).length = n from (rwL_length _ _)]; exact ho12) hg12 hor12)
        rw [E5.out] at R12
        have N12 : Hid (Blk1 W12 g10 3 (.int .i64 x)) := (hg12.block _ N11.out.lt (fun e => by have := (OWN.out.lt _ e.symm).2; omega)).trans N11.out
        try dsimp only
        have hH : _ ∧ _ := ⟨R12.out.blk K2.out NE2.out, R12.out.blk K5.out NE5.out⟩
        refine hK.out _ _ (fun _ => hH) ?_
        clear hK K
        try simp only [Act.put, List.setIfInBounds_toArray, List.set_cons_zero, List.set_cons_succ]
        obtain ⟨qa12, qc12, rfl⟩ := rowL_form R12.out.row
        clear hr12 ho12 hg12 hor12 d12 s12
        refine wpAnyT_ready (rs := [8]) (by kernel_rfl) (by simp) ?_
        refine AllReadyT.cons (by simp only [List.getElem?_toArray, List.getElem?_cons_succ, List.getElem?_cons_zero]; rfl) (fun K hK => ?_) (AllReadyT.nil)
        have s13 := R12.out.fr.size
        have d13 : Rd W12 (some ⟨g10, 0, none⟩) [x] := fun k hk => ⟨g10, 0, rfl, by obtain rfl : k = 0 := (by simp at hk; omega); exact N12.out.cell0⟩
        obtain ⟨u13, W13, hr13, ho13, hg13, hor13⟩ := app_or W12 (b5 + 1) _ 1 1 _ _ _ g10 0 R12.out.row d13 rfl (by rw [L5.out]; omega) (by omega)
        refine step_append rfl _ _ 24 rfl _ _ rfl rfl _ _ hr13 ?_
        have R13 := Lib.hid (R12.out.app (ys := [x]) (by rw [show [x].length = 1 from rfl]; exact ho13) hg13 hor13)
        rw [E8.out] at R13
        try dsimp only
        have hH : _ ∧ _ := ⟨R13.out.blk K2.out NE2.out, R13.out.blk K5.out NE5.out⟩
        refine hK.out _ _ (fun _ => hH) ?_
        clear hK K
        try simp only [Act.put, List.setIfInBounds_toArray, List.set_cons_zero, List.set_cons_succ]
        obtain ⟨qa13, qc13, rfl⟩ := rowL_form R13.out.row
        clear hr13 ho13 hg13 hor13 d13 s13
        refine wpAnyT_take (i := 9) (v := ?_) (by simp only [List.getElem?_toArray, List.getElem?_cons_succ, List.getElem?_cons_zero]; rfl) (by kernel_rfl) (by kernel_rfl) (by kernel_rfl) (by kernel_rfl) (one_only 10 (by kernel_rfl)) (by exact fun _ _ _ h => h) (Or.inl ⟨by rfl, ?_⟩) hH ?_
        rotate_left
        · (intro wS hS; clear hS; go_simp; try rfl)
        try simp only [Act.put, List.setIfInBounds_toArray, List.set_cons_zero, List.set_cons_succ]
        refine wpAnyT_ready (rs := [10]) (by kernel_rfl) (by simp) ?_
        refine AllReadyT.cons (by simp only [List.getElem?_toArray, List.getElem?_cons_succ, List.getElem?_cons_zero]; rfl) (fun K hK => ?_) (AllReadyT.nil)
        obtain ⟨y0, y1, y2, y3, y4, y5⟩ := hH.2.all
        go_simp
        try dsimp only
        refine hK.out _ _ (fun h => absurd h (by decide)) ?_
        clear hK K
        try simp only [Act.put, List.setIfInBounds_toArray, List.set_cons_zero, List.set_cons_succ]
        clear y0 y1 y2 y3 y4 y5
        refine wpAnyT_done (by kernel_rfl) ?_ _
        go_wp2_with fail
        go_roundw
        case rel =>
          refine ⟨i + 1, _, by go_num, by omega, hH.1.far (by show w.heap.size ≠ b5; omega) _, (R13.out.blk K4.out NE4.out).far (by show w.heap.size + 1 ≠ b5; omega) _, hH.2.set2 _, ?_, ?_⟩
          · exact R13.out.row.kept (grown_set_one (a := ⟨b5, 2, none⟩) (World.grownBy.refl _ _) rfl _) (.inr fun e => by have h9 : b5 + 1 ≤ b5 := (R13.out.row.lt b5 e).1; omega)
          · exact (B.out.grown R13.out.fr B.out.size (fun k e => by have := (OWN.out.lt k e).1; omega)).setCell (by show w.heap.size ≤ b5; omega) _
        case measure => simp [intOf]; omega
    · obtain rfl : i = n := by omega
      obtain ⟨q0, c0, rfl⟩ := rowL_form OWN.out
      obtain ⟨y0, y1, y2, -, -, -⟩ := K5.out.all
      obtain ⟨x0, x1, x2, x3, x4, x5⟩ := K4.out.all
      have OE : Own (b5 + 1) wr (.slice q0 (wbTo i xs bs i).length c0) (wbTo i xs bs i) := Own.of_row OWN.out (by rw [LW.out]; omega)
      have OE := Lib.hid OE
      have SH : Hid (∀ u, Own (b5 + 1) (((wr.setCell ⟨w.heap.size + 1, 0, none⟩ (.int .i64 i)).setCell ⟨w.heap.size + 1, 1, none⟩ (.int .i64 ((i : Int) + 1))).setCell ⟨w.heap.size + 1, 2, none⟩ u) (.slice q0 (wbTo i xs bs i).length c0) (wbTo i xs bs i)) := fun u => ((OE.out.far (a := ⟨w.heap.size + 1, 0, none⟩) (by show w.heap.size + 1 < b5 + 1; omega) _).far (a := ⟨w.heap.size + 1, 1, none⟩) (by show w.heap.size + 1 < b5 + 1; omega) _).far (a := ⟨w.heap.size + 1, 2, none⟩) (by show w.heap.size + 1 < b5 + 1; omega) _
      go_wp2_with fail
      obtain ⟨E0, E1, E2, -, -, -⟩ := (K4.out.set3 (.int .i64 i) (.int .i64 ((i : Int) + 1)) (.slice q0 (wbTo i xs bs i).length c0)).all
      refine bodyPost_ret (v := .agg #[.int .i64 i, .int .i64 ((i : Int) + 1), .slice q0 (wbTo i xs bs i).length c0]) (by simp [results, Try.results109, go_sem, E0, E1, E2]) rfl ⟨q0, c0, by rw [LW.out], ?_, ?_⟩
      · have := (SH.out (.slice q0 (wbTo i xs bs i).length c0)).le (show w.heap.size ≤ b5 + 1 by omega)
        rw [LW.out] at this ⊢
        exact this
      · exact ((B.out.setCell (by show w.heap.size ≤ w.heap.size + 1; omega) _).setCell (by show w.heap.size ≤ w.heap.size + 1; omega) _).setCell (by show w.heap.size ≤ w.heap.size + 1; omega) _
end Go.Proofs.Ytcapddcmnjeloaa
end

section
/-
  slices.Index and slices.Contains at ints.
-/
namespace Go.Proofs.Ytcapddcmnjeloaa
set_option maxRecDepth 100000
open Go.RowKit

set_option maxHeartbeats 1000000 in
theorem iIndexV (v : Int) (L m : Nat) (q : Option Addr) (xs : List Int) (w : World) (h : Rd w q xs) (hL : xs.length = L) (hl : L ≤ 16777216) :
    Calls Try.prog 132 #[.slice q L m, .int .i64 v] w fun e w' => (∃ z : Int, e = .returned (.int .i64 z) ∧ (0 ≤ z ↔ ∃ k, k < L ∧ xs.getD k 0 = v)) ∧ w = w' := by
  have H := Lib.hid h
  have HL := Lib.hid hL
  clear h hL
  go_enter Try.func132, Try.ntmps132
  go_wp2_with fail
  go_loopw [5, 8] (fun _ v8 wr => ∃ i : Nat, v8 = .int .i64 i ∧ i ≤ L ∧ (∀ k, k < i → xs.getD k 0 ≠ v) ∧ w = wr) (fun _ v8 _ => L - (intOf v8).toNat)
  case atStart => exact ⟨0, rfl, by omega, fun k hk => by omega, rfl⟩
  case round =>
    obtain ⟨i, rfl, hi, hk, rfl⟩ := hrel
    have HK := Lib.hid hk
    clear hk
    by_cases hlt : i < L
    · obtain ⟨b1, o1, rfl, hc1⟩ := H.out i (by rw [HL.out]; exact hlt)
      obtain ⟨y, hy⟩ : ∃ y, xs.getD i 0 = y := ⟨_, rfl⟩
      rw [hy] at hc1
      have HY := Lib.hid hy
      clear hy
      by_cases e : v = y
      · subst e
        go_wp2_with fail
        go_ret
        exact ⟨⟨_, rfl, ⟨fun _ => ⟨i, hlt, HY.out⟩, fun _ => by omega⟩⟩, rfl⟩
      · have n1 : (v == y) = false := by simpa using e
        have HK2 : Hid (∀ k, k < i + 1 → xs.getD k 0 ≠ v) := fun k hk => by
          rcases Nat.lt_or_ge k i with h3 | h3
          · exact HK.out k h3
          · obtain rfl : k = i := by omega
            rw [HY.out]; exact fun h => e h.symm
        clear e
        go_wp2_with fail
        go_roundw
        case rel => exact ⟨i + 1, by go_num, by omega, HK2.out, by first | rfl | trivial⟩
        case measure => simp [intOf]; omega
    · obtain rfl : i = L := by omega
      go_wp2_with fail
      go_ret
      exact ⟨⟨_, rfl, ⟨fun h => by omega, fun ⟨k, hk, e⟩ => absurd e (HK.out k hk)⟩⟩, rfl⟩
theorem iContainsV (v : Int) (L m : Nat) (q : Option Addr) (xs : List Int) (w : World) (h : Rd w q xs) (hL : xs.length = L) (hl : L ≤ 16777216) (t : Bool) (ht : t = true ↔ ∃ k, k < L ∧ xs.getD k 0 = v) :
    Calls Try.prog 110 #[.slice q L m, .int .i64 v] w fun e w' => e = .returned (.bool t) ∧ w = w' := by
  have IX := Lib.hid (iIndexV v L m q xs w h hL hl)
  have HT := Lib.hid ht
  clear h hL ht
  go_enter Try.func110, Try.ntmps110
  go_wp2_with fail
  refine IX.out.mono ?_
  rintro e w' ⟨⟨z, rfl, hz⟩, rfl⟩
  have T : t = decide (0 ≤ z) := by
    rw [Bool.eq_iff_iff, HT.out, ← hz, decide_eq_true_eq]
  have T := Lib.hid T
  clear hz
  go_wp2_with fail
  go_ret
  exact ⟨by rw [T.out]; rfl, rfl⟩
/-- All columns of the unknowns have pivots: there are as many, and the last column is none of them. -/
theorem full_iff {n : Nat} {pv : List Nat} (hle : pv.length ≤ n) (hcol : ∀ k, k < pv.length → pv.getD k 0 < n + 1) (hinc : ∀ k l, k < l → l < pv.length → pv.getD k 0 < pv.getD l 0) : fullB n pv = true ↔ n ≤ pv.length ∧ ¬ ∃ k, k < pv.length ∧ (pvI pv).getD k 0 = (n : Int) := by
  have cast : ∀ k, (pvI pv).getD k 0 = ((pv.getD k 0 : Nat) : Int) := fun k => by
    unfold pvI
    simp only [List.getD, List.getElem?_map]
    cases pv[k]? <;> rfl
  unfold fullB
  rw [Bool.and_eq_true, decide_eq_true_eq, decide_eq_true_eq]
  refine and_congr_right fun h1 => ⟨fun h2 ⟨k, hk, e⟩ => ?_, fun h2 h3 e => h2 ⟨n - 1, by omega, by rw [cast, e]⟩⟩
  rw [cast] at e
  have e : pv.getD k 0 = n := by omega
  have h4 := h2 (by omega)
  rcases Nat.lt_or_ge k (n - 1) with h5 | h5
  · have h6 := hinc k (n - 1) h5 (by omega)
    have h7 := hcol (n - 1) (by omega)
    omega
  · obtain rfl : k = n - 1 := by omega
    exact h4 e
end Go.Proofs.Ytcapddcmnjeloaa
end
