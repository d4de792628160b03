/-
  Chapter 6, in the model: l6Det.
-/
import Derived.Test.YtpelnfenfeoeeaaWo
import Derived.Test.YtpelnfenfeoeeaaDetL
import Derived.Test.YtpelnfenfeoeeaaRowS
import Derived.Test.YtpelnfenfeoeeaaRdCells
namespace Go.Proofs.Ytpelnfenfeoeeaa
set_option maxRecDepth 100000
open Go.RowKit

theorem Own.rdq {B n c : Nat} {w : World} {a : Option Addr} {zs : List Int} (h : Own B w (.slice a n c) zs) : Rd w a zs := by
  rcases h with ⟨hv, rfl⟩ | ⟨g, cap, hv, _, hi, _⟩
  · exact Rd.nil _ _
  · simp only [Value.slice.injEq] at hv
    obtain ⟨rfl, -, -⟩ := hv
    exact hi.rd
set_option maxRecDepth 100000 in
set_option maxHeartbeats 1000000 in
theorem sDet (n : Nat) : ∀ (a : Option Addr) (m : Nat) (xs : List Int) (w : World), Rd w a xs → xs.length = n * n → n ≤ 6 → nums xs = true →
    Calls Try.prog 72 #[.agg #[.int .i64 n, .int .i64 n, .slice a (n * n) m]] w (Gives (.int .i64 (detB n xs)) w) := by
  induction n with
  | zero =>
    intro a m xs w h hx hn nx
    go_enter Try.func72, Try.ntmps72
    go_wp2_with fail
    go_ret
    exact ⟨rfl, (Below.refl _ _).alloc (Nat.le_refl _) _⟩
  | succ n ih =>
    intro a m xs w h hx hn nx
    obtain ⟨ga, oa, rfl⟩ := h.addr (by rw [hx]; exact Nat.mul_pos (by omega) (by omega))
    have H := Lib.hid h
    have NX := Lib.hid nx
    have IH := Lib.hid ih
    have D0 : Hid (∀ j, detAcc (fun j => xs.getD j 0) (mnB n xs) j = none → j ≤ n + 1 → detB (n + 1) xs = badN) := fun j h1 h2 => detB_none (detAcc_none h1 h2)
    have D1 : Hid (∀ s, detAcc (fun j => xs.getD j 0) (mnB n xs) (n + 1) = some s → detB (n + 1) xs = fitB s) := fun s h1 => detB_some h1
    have WL : Hid (∀ j, j < n + 1 → (woL (n + 1) (0 : Int) (j : Int) xs ((n + 1) * (n + 1))).length = n * n ∧ nums (woL (n + 1) (0 : Int) (j : Int) xs ((n + 1) * (n + 1))) = true) := fun j hj => ⟨woL_sq (i := 0) (by omega) hj, woL_nums (i := 0) (by omega) hj nx⟩
    have BD : Hid (∀ j s, j ≤ n + 1 → detAcc (fun j => xs.getD j 0) (mnB n xs) j = some s → -((j : Int) * 160000000000000000) ≤ s ∧ s ≤ (j : Int) * 160000000000000000) := fun j s hj h1 => detAcc_bd (fun i hi => nums_at nx (by rw [hx]; have := Nat.mul_le_mul_left (n + 1) (show 1 ≤ n + 1 by omega); omega)) (fun i _ => detB_or _ _) h1
    have ND : Hid (∀ j, j < n + 1 → NumP (xs.getD j 0)) := fun j hj => nums_at nx (by rw [hx]; have := Nat.mul_le_mul_left (n + 1) (show 1 ≤ n + 1 by omega); omega)
    have CL : Hid (∀ w', Below w.heap.size w w' → ∀ j, j < n + 1 → w'.cell? ⟨ga, oa + j, none⟩ = some (.int .i64 (xs.getD j 0))) := fun w' hb j hj => (H.out.below hb).cells j (by rw [hx]; have := Nat.mul_le_mul_left (n + 1) (show 1 ≤ n + 1 by omega); omega)
    have JL : Hid (n + 1 ≤ (n + 1) * (n + 1)) := Nat.le_mul_of_pos_left _ (by omega)
    have FD : Hid (∀ j, mnB n xs j = detB n (woL (n + 1) (0 : Int) (j : Int) xs ((n + 1) * (n + 1)))) := fun j => rfl
    obtain ⟨N, hN⟩ : ∃ N, (n + 1) * (n + 1) = N := ⟨_, rfl⟩
    have WO : Hid (∀ (j : Nat) (w' : World), Below w.heap.size w w' → Calls Try.prog 122 #[.agg #[.int .i64 ((n + 1 : Nat) : Int), .int .i64 ((n + 1 : Nat) : Int), .slice (some ⟨ga, oa, none⟩) N m], .int .i64 0, .int .i64 j] w' (fun e w2 => ∃ v, e = .returned (.agg #[.int .i64 n, .int .i64 n, v]) ∧ Own w'.heap.size w2 v (woL (n + 1) 0 j xs N) ∧ Below w'.heap.size w' w2)) := fun j w' hb => by
      have := sWo (n + 1) (n + 1) ga oa m 0 j xs w' (H.out.below hb) hx (by omega) (by omega)
      rw [hx, hN, show ((n + 1 : Nat) : Int) - 1 = (n : Int) by omega] at this
      exact this
    rw [hN] at hx JL WL FD ⊢
    generalize mnB n xs = f at D0 D1 BD FD
    obtain ⟨r, hr⟩ : ∃ r, n + 1 = r := ⟨_, rfl⟩
    rw [hr] at hn D0 D1 BD ND CL JL WO FD WL ⊢
    clear h nx ih hN hx
    have B0 : Hid (∀ o, Below w.heap.size w (w.alloc o)) := fun o => (Below.refl _ _).alloc (Nat.le_refl _) _
    have K0 : Hid (Blk3 (w.alloc (.cells #[.int .i64 r, .int .i64 r, .slice (some ⟨ga, oa, none⟩) N m] 26)) w.heap.size 26 (.int .i64 r) (.int .i64 r) (.slice (some ⟨ga, oa, none⟩) N m)) := Blk3.at_ _ _ _ _ rfl
    obtain ⟨W, hW⟩ : ∃ W, w.alloc (.cells #[.int .i64 r, .int .i64 r, .slice (some ⟨ga, oa, none⟩) N m] 26) = W := ⟨_, rfl⟩
    have B1 : Hid (Below w.heap.size w W) := by rw [← hW]; exact B0.out _
    have NZ : ((r : Int) == 0) = false := by simp; omega
    rw [hW] at K0
    obtain ⟨a0, a1, a2, -, -, -⟩ := K0.out.all
    go_enter Try.func72, Try.ntmps72
    go_wp2_with fail
    clear a0 a1 a2 hW B0
    go_loopw [2, 3, 4, 5, 6] (fun _ v3 v4 v5 _ wr => ∃ (j : Nat) (s : Int), v5 = .int .i64 j ∧ j ≤ r ∧ v3 = .int .i64 s ∧ v4 = .int .i64 (sg j) ∧ detAcc (fun j => xs.getD j 0) f j = some s ∧ Below W.heap.size W wr) (fun _ _ _ v5 _ _ => r - (intOf v5).toNat)
    case atStart => exact ⟨0, 0, rfl, by omega, rfl, rfl, rfl, Below.refl _ _⟩
    case round =>
      obtain ⟨j, s, rfl, hj, rfl, rfl, hs, hb⟩ := hrel
      have E := Lib.hid hs
      have B := Lib.hid hb
      have BW : Hid (Below w.heap.size w wr) := B1.out.trans (hb.mono B1.out.size)
      have R0 := Lib.hid (K0.out.keep hb K0.out.lt)
      clear hs hb
      obtain ⟨a0, a1, a2, -, -, -⟩ := R0.out.all
      by_cases hlt : j < r
      · have hc := CL.out wr BW.out j hlt
        have hx := ND.out j hlt
        obtain ⟨x, hxx⟩ : ∃ x, xs.getD j 0 = x := ⟨_, rfl⟩
        have X := Lib.hid hxx
        rw [hxx] at hc hx
        clear hxx
        have jl := JL.out
        obtain ⟨sn, hsn⟩ : ∃ z, sg j = z := ⟨_, rfl⟩
        have S := Lib.hid hsn
        have s1 : sn = 1 ∨ sn = -1 := by rw [← hsn]; exact sg_or j
        have vn : IntKind.i64.wrap (-sn) = -sn := IntWalk.i64_in _ (by omega)
        have SS : Hid (sg (j + 1) = -sn) := by show _ = _; rw [sg_succ, hsn]
        rw [hsn]
        clear hsn
        by_cases h0 : x = 0
        · have n1 : (x != 0) = false := by simp [h0]
          have E2 : Hid (detAcc (fun j => xs.getD j 0) f (j + 1) = some s) := detAcc_skip E.out (by show xs.getD j 0 = 0; rw [X.out, h0])
          clear h0 s1
          go_wp2_with fail
          go_roundw
          case rel => exact ⟨j + 1, s, by go_num, by omega, rfl, by rw [SS.out], E2.out, B.out⟩
          case measure => simp [intOf]; omega
        · have n1 : (x != 0) = true := by simp [h0]
          have h00 : Hid (xs.getD j 0 ≠ 0) := by show _ ≠ _; rw [X.out]; exact h0
          clear h0
          go_wp2_with fail
          refine (WO.out j _ BW.out).mono ?_
          rintro e w1 ⟨v, rfl, own, hb1⟩
          obtain ⟨w1l, w1n⟩ := WL.out j hlt
          obtain ⟨q, qc, rfl, -, -⟩ := own.form
          rw [w1l]
          have RQ := Lib.hid own.rdq
          have B2 := Lib.hid (B.out.trans (hb1.mono B.out.size))
          have BW2 := Lib.hid (BW.out.trans (hb1.mono BW.out.size))
          have LL := Lib.hid w1l
          have LN := Lib.hid w1n
          clear own hb1 w1l w1n
          go_wp2_with fail
          refine (IH.out q qc _ w1 RQ.out LL.out (by omega) LN.out).mono ?_
          rintro e w2 ⟨rfl, hb2⟩
          have B3 := Lib.hid (B2.out.trans (hb2.mono B2.out.size))
          have BW3 := Lib.hid (BW2.out.trans (hb2.mono BW2.out.size))
          have R1 := Lib.hid (K0.out.keep B3.out K0.out.lt)
          have FJ := FD.out j
          obtain ⟨y, hy⟩ : ∃ y, detB n (woL r 0 j xs N) = y := ⟨_, rfl⟩
          rw [hy] at FJ ⊢
          have Y := Lib.hid FJ
          have hyb : y = badN ∨ NumP y := by rw [← hy]; exact detB_or _ _
          clear hy FJ hb2 a0 a1 a2
          by_cases h1 : y = badN
          · have n2 : (y == -4611686018427387904) = true := by simp [h1, badN]
            have V : Hid (detB r xs = -4611686018427387904) := D0.out (j + 1) (detAcc_bad E.out h00.out (by rw [Y.out]; exact h1)) (by omega)
            clear h1 hyb s1
            go_wp2_with fail
            go_ret
            exact ⟨by rw [V.out]; rfl, BW3.out⟩
          · have n2 : (y == -4611686018427387904) = false := by simpa [badN] using h1
            have E2 : Hid (detAcc (fun j => xs.getD j 0) f (j + 1) = some (s + sn * x * y)) := by
              have := detAcc_add E.out h00.out (by rw [Y.out]; exact h1)
              rw [S.out, Y.out] at this
              show _ = _
              rw [this, X.out]
            have bd := BD.out (j + 1) _ (by omega) E2.out
            have mx : NumP (sn * x) := by unfold NumP at *; rcases s1 with rfl | rfl <;> omega
            have my := mul_num _ _ mx (hyb.resolve_left h1)
            unfold NumP at mx
            have v1 : IntKind.i64.wrap (sn * x) = sn * x := IntWalk.i64_in _ (by omega)
            have v2 : IntKind.i64.wrap (sn * x * y) = sn * x * y := IntWalk.i64_in _ (by omega)
            have v3 : IntKind.i64.wrap (s + sn * x * y) = s + sn * x * y := IntWalk.i64_in _ (by omega)
            have hc := CL.out w2 BW3.out j hlt
            rw [X.out] at hc
            obtain ⟨a0, a1, a2, -, -, -⟩ := R1.out.all
            clear h1 hyb s1 bd mx my
            go_wp2_with fail
            go_roundw
            case rel => exact ⟨j + 1, s + sn * x * y, by go_num, by omega, rfl, by rw [SS.out], E2.out, B3.out⟩
            case measure => simp [intOf]; omega
      · obtain rfl : j = r := by omega
        have V : Hid (detB j xs = fitB s) := D1.out s E.out
        clear hlt
        go_wp2_with fail
        refine (sFit s _).mono ?_
        rintro e w2 ⟨rfl, rfl⟩
        go_wp2_with fail
        go_ret
        exact ⟨by rw [V.out]; rfl, BW.out⟩
end Go.Proofs.Ytpelnfenfeoeeaa
