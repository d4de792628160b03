/-
  Texts of this seat, joined: MatS6 · MatS7
-/
import Derived.StillTailTactics
import Derived.IntWalk
import Derived.Test.YtdnajkoeojlnbaaPk2
import Derived.Test.YtdnajkoeojlnbaaPk3

section
/-
  Chapter 3, in the model: l3Mul.
-/
namespace Go.Proofs.Ytdnajkoeojlnbaa
open Go.RowKit

set_option maxRecDepth 100000 in
set_option maxHeartbeats 4000000 in
theorem sMulL (R K C : Nat) (a b : Option Addr) (m n : Nat) (xs ys : List Int) (w : World) (h : Rd w a xs) (h' : Rd w b ys) (hR : R ≤ 24) (hK : K ≤ 24) (hC : C ≤ 24) (hx : xs.length = R * K) (hy : ys.length = K * C)
    (nx : nums xs = true) (ny : nums ys = true) :
    Calls Try.prog 98 #[.agg #[.int .i64 R, .int .i64 K, .slice a xs.length m], .agg #[.int .i64 K, .int .i64 C, .slice b ys.length n]] w (NewMat R C (mulL R K C xs ys) w) := by
  have hle : R * C ≤ 24 * 24 := Nat.mul_le_mul hR hC
  have B0 : ∀ o1 o2 o3, Below w.heap.size w (((w.alloc o1).alloc o2).alloc o3) := fun o1 o2 o3 => (((Below.refl _ _).alloc (Nat.le_refl _) _).alloc (by simp) _).alloc (by simp <;> omega) _
  have BH := Lib.hid B0
  have H := Lib.hid h
  have H' := Lib.hid h'
  have NX := Lib.hid nx
  have NY := Lib.hid ny
  obtain ⟨N, hN⟩ : ∃ N, R * C = N := ⟨_, rfl⟩
  obtain ⟨NA, hNA⟩ : ∃ NA, R * K = NA := ⟨_, rfl⟩
  obtain ⟨NB, hNB⟩ : ∃ NB, K * C = NB := ⟨_, rfl⟩
  have hle1 : NA ≤ 24 * 24 := by rw [← hNA]; exact Nat.mul_le_mul hR hK
  have hle2 : NB ≤ 24 * 24 := by rw [← hNB]; exact Nat.mul_le_mul hK hC
  rw [hNA] at hx
  rw [hNB] at hy
  rw [hN] at hle
  have HX := Lib.hid hx
  have HY := Lib.hid hy
  have HN := Lib.hid hN
  have HNA := Lib.hid hNA
  have HNB := Lib.hid hNB
  rw [hx, hy]
  clear B0 h h' hx hy hN hNA hNB nx ny
  go_enter Try.func98, Try.ntmps98
  go_wp2_with fail
  refine (sNew R C _ (by omega) (by omega)).mono ?_
  rintro e w1 ⟨g, rfl, hg, hi, hb⟩
  rw [HN.out] at hi ⊢
  simp only [List.length_replicate]
  have K0 : Hid (Blk3 w1 w.heap.size 27 (.int .i64 R) (.int .i64 K) (.slice a NA m)) := (((Blk3.at_ _ _ _ _ rfl).old _).old _).keep hb (by simp <;> omega)
  have K1 : Hid (Blk3 w1 (w.heap.size + 1) 27 (.int .i64 K) (.int .i64 C) (.slice b NB n)) := ((Blk3.at_ _ _ _ _ (by simp)).old _).keep hb (by simp <;> omega)
  have K2 : Hid (Blk3 w1 (w.heap.size + 1 + 1) 27 (.int .i64 0) (.int .i64 0) (.slice none 0 0)) := (Blk3.at_ _ _ _ _ (by simp)).keep hb (by simp)
  have B : Hid (Below w.heap.size w w1) := (BH.out _ _ _).trans (hb.mono (by simp <;> omega))
  have l1 : w.heap.size + 1 + 1 < g := by simp at hg; omega
  have gl := hi.lt
  have I := Lib.hid (hi.old (.cells #[.int .i64 R, .int .i64 C, .slice (some ⟨g, 0, none⟩) N N] 27))
  have BA : Hid (Below w.heap.size w (w1.alloc (.cells #[.int .i64 R, .int .i64 C, .slice (some ⟨g, 0, none⟩) N N] 27))) := B.out.alloc B.out.size _
  have K0 := Lib.hid (K0.out.old (.cells #[.int .i64 R, .int .i64 C, .slice (some ⟨g, 0, none⟩) N N] 27))
  have K1 := Lib.hid (K1.out.old (.cells #[.int .i64 R, .int .i64 C, .slice (some ⟨g, 0, none⟩) N N] 27))
  have K2 := Lib.hid (K2.out.old (.cells #[.int .i64 R, .int .i64 C, .slice (some ⟨g, 0, none⟩) N N] 27))
  have K5 : Hid (Blk3 (w1.alloc (.cells #[.int .i64 R, .int .i64 C, .slice (some ⟨g, 0, none⟩) N N] 27)) w1.heap.size 27 (.int .i64 R) (.int .i64 C) (.slice (some ⟨g, 0, none⟩) N N)) := Blk3.at_ _ _ _ _ rfl
  clear hb hi hg
  go_wp2_with fail
  go_loopw [6] (fun i wr => ∃ (r : Nat) (zs : List Int), i = .int .i64 r ∧ r ≤ R ∧ Filled R C (fun i j => dot K C xs ys i j K) r 0 zs ∧ Ints wr g zs ∧ (w1.alloc (.cells #[.int .i64 R, .int .i64 C, .slice (some ⟨g, 0, none⟩) N N] 27)).grownBy wr (some g)) (fun i _ => R - (intOf i).toNat)
  case atStart => exact ⟨0, _, rfl, by omega, by have := Filled.start R C (fun i j => dot K C xs ys i j K); rw [HN.out] at this; exact this, I.out, World.grownBy.refl _ _⟩
  case round =>
    obtain ⟨r, zs, rfl, hr, ht, hi, hgr⟩ := hrel
    have T := Lib.hid ht
    have I := Lib.hid hi
    have G := Lib.hid hgr
    clear ht hi hgr
    have R0 := Lib.hid (K0.out.keepOne G.out (by omega))
    have R1 := Lib.hid (K1.out.keepOne G.out (by omega))
    have R2 := Lib.hid (K2.out.keepOne G.out (by omega))
    have R5 := Lib.hid (K5.out.keepOne G.out (by omega))
    obtain ⟨p0, p1, p2, -, -, -⟩ := R0.out.all
    obtain ⟨q0, q1, q2, -, -, -⟩ := R1.out.all
    obtain ⟨r0, r1, r2, -, -, -⟩ := R5.out.all
    by_cases hlt : r < R
    · go_wp2_with fail
      go_loopw [7] (fun j wq => ∃ (c : Nat) (us : List Int), j = .int .i64 c ∧ c ≤ C ∧ Filled R C (fun i j => dot K C xs ys i j K) r c us ∧ Ints wq g us ∧ (w1.alloc (.cells #[.int .i64 R, .int .i64 C, .slice (some ⟨g, 0, none⟩) N N] 27)).grownBy wq (some g)) (fun j _ => C - (intOf j).toNat)
      case atStart => exact ⟨0, zs, rfl, by omega, T.out, I.out, G.out⟩
      case round =>
        obtain ⟨c, us, rfl, hc, ht, hi, hgr⟩ := hrel
        have T' := Lib.hid ht
        have I' := Lib.hid hi
        have G' := Lib.hid hgr
        clear ht hi hgr p0 p1 p2 q0 q1 q2 r0 r1 r2
        have S0 := Lib.hid (K0.out.keepOne G'.out (by omega))
        have S1 := Lib.hid (K1.out.keepOne G'.out (by omega))
        have S5 := Lib.hid (K5.out.keepOne G'.out (by omega))
        obtain ⟨p0, p1, p2, -, -, -⟩ := S0.out.all
        obtain ⟨q0, q1, q2, -, -, -⟩ := S1.out.all
        obtain ⟨r0, r1, r2, -, -, -⟩ := S5.out.all
        by_cases hlc : c < C
        · have dx : ∀ p : Nat, p < K → NumP (xs.getD (r * K + p) 0) := fun p hp => nums_at NX.out (by rw [HX.out, ← HNA.out]; exact idx_lt hlt hp)
          have dy : ∀ p : Nat, p < K → NumP (ys.getD (p * C + c) 0) := fun p hp => nums_at NY.out (by rw [HY.out, ← HNB.out]; exact idx_lt hp hlc)
          have DB := Lib.hid (dot_bd dx dy)
          have DX := Lib.hid dx
          have DY := Lib.hid dy
          clear dx dy
          go_wp2_with fail
          go_loopw [8, 9] (fun s t wk => ∃ k : Nat, t = .int .i64 k ∧ s = .int .i64 (dot K C xs ys r c k) ∧ k ≤ K ∧ ∃ q, wk = wr.drewN q) (fun _ t _ => K - (intOf t).toNat)
          case atStart => exact ⟨0, rfl, rfl, by omega, 0, rfl⟩
          case round =>
            obtain ⟨k, rfl, rfl, hk, d, rfl⟩ := hrel
            obtain ⟨b1, b2⟩ := DB.out k hk
            obtain ⟨D, hD⟩ : ∃ D, dot K C xs ys r c k = D := ⟨_, rfl⟩
            rw [hD] at b1 b2
            rw [hD]
            have HD := Lib.hid hD
            clear hD
            by_cases hlk : k < K
            · have i1 : r * K + k < NA := by rw [← HNA.out]; exact idx_lt hlt hlk
              have i2 : k * C + c < NB := by rw [← HNB.out]; exact idx_lt hlk hlc
              obtain ⟨x, hx⟩ : ∃ x, xs.getD (r * K + k) 0 = x := ⟨_, rfl⟩
              obtain ⟨y, hy⟩ : ∃ y, ys.getD (k * C + c) 0 = y := ⟨_, rfl⟩
              have n1 := DX.out k hlk
              have n2 := DY.out k hlk
              obtain ⟨x1, o1, rfl, hc1⟩ := H.out (r * K + k) (by rw [HX.out]; exact i1)
              obtain ⟨x2, o2, rfl, hc2⟩ := H'.out (k * C + c) (by rw [HY.out]; exact i2)
              have u1 := World.block_lt_of_cell? w _ hc1
              have u2 := World.block_lt_of_cell? w _ hc2
              have hc1 := G'.out.cell ((BA.out.cell (p := ⟨x1, o1 + (r * K + k), none⟩) u1).trans hc1) (by simp; simp at u1; omega)
              have hc2 := G'.out.cell ((BA.out.cell (p := ⟨x2, o2 + (k * C + c), none⟩) u2).trans hc2) (by simp; simp at u2; omega)
              rw [hx] at hc1 n1
              rw [hy] at hc2 n2
              obtain ⟨n11, n12⟩ := n1
              obtain ⟨n21, n22⟩ := n2
              obtain ⟨m1, m2⟩ := mul_num x y ⟨n11, n12⟩ ⟨n21, n22⟩
              have XX := Lib.hid hx
              have YY := Lib.hid hy
              have c1 : (r : Int) * (K : Int) = ((r * K : Nat) : Int) := (Int.natCast_mul _ _).symm
              have c2 : (k : Int) * (C : Int) = ((k * C : Nat) : Int) := (Int.natCast_mul _ _).symm
              have d1 : 0 ≤ (r : Int) * (K : Int) ∧ (r : Int) * (K : Int) ≤ 600 := by rw [c1]; omega
              have d2 : 0 ≤ (k : Int) * (C : Int) ∧ (k : Int) * (C : Int) ≤ 600 := by rw [c2]; omega
              have e1 : 0 ≤ (r : Int) * (K : Int) + (k : Int) := by omega
              have e2 : (r : Int) * (K : Int) + (k : Int) < (NA : Int) := by rw [c1]; omega
              have e3 : ((r : Int) * (K : Int) + (k : Int)).toNat = r * K + k := by rw [c1]; omega
              have e4 : 0 ≤ (k : Int) * (C : Int) + (c : Int) := by omega
              have e5 : (k : Int) * (C : Int) + (c : Int) < (NB : Int) := by rw [c2]; omega
              have e6 : ((k : Int) * (C : Int) + (c : Int)).toNat = k * C + c := by rw [c2]; omega
              obtain ⟨d11, d12⟩ := d1
              obtain ⟨d21, d22⟩ := d2
              have v1 : IntKind.i64.wrap ((r : Int) * (K : Int)) = (r : Int) * (K : Int) := IntWalk.i64_in _ (by omega)
              have v2 : IntKind.i64.wrap ((r : Int) * (K : Int) + (k : Int)) = (r : Int) * (K : Int) + (k : Int) := IntWalk.i64_in _ (by omega)
              have v3 : IntKind.i64.wrap ((k : Int) * (C : Int)) = (k : Int) * (C : Int) := IntWalk.i64_in _ (by omega)
              have v4 : IntKind.i64.wrap ((k : Int) * (C : Int) + (c : Int)) = (k : Int) * (C : Int) + (c : Int) := IntWalk.i64_in _ (by omega)
              have v5 : IntKind.i64.wrap (x * y) = x * y := IntWalk.i64_in _ (by omega)
              have v6 : IntKind.i64.wrap (D + x * y) = D + x * y := IntWalk.i64_in _ (by omega)
              clear hx hy u1 u2 c1 c2
              go_wp2_with fail
              go_quiet (fail)
              go_wp2_with fail
              go_roundw
              case rel =>
                refine ⟨k + 1, by go_num, ?_, by omega, _, rfl⟩
                simp only [dot]
                rw [HD.out, XX.out, YY.out]
              case measure => simp [intOf]; omega
            · have hkn : k = K := by omega
              subst hkn
              have i1 : r * C + c < N := by rw [← HN.out]; exact idx_lt hlt hlc
              have hold := I'.out.cell (i := r * C + c) (by rw [T'.out.1, HN.out]; exact i1)
              have hfr := I'.out.free (r * C + c)
              have c1 : (r : Int) * (C : Int) = ((r * C : Nat) : Int) := (Int.natCast_mul _ _).symm
              have d1 : 0 ≤ (r : Int) * (C : Int) ∧ (r : Int) * (C : Int) ≤ 600 := by rw [c1]; omega
              have e1 : 0 ≤ (r : Int) * (C : Int) + (c : Int) := by omega
              have e2 : (r : Int) * (C : Int) + (c : Int) < (N : Int) := by rw [c1]; omega
              have e3 : ((r : Int) * (C : Int) + (c : Int)).toNat = r * C + c := by rw [c1]; omega
              obtain ⟨d11, d12⟩ := d1
              clear c1
              go_wp2_with fail
              go_roundw
              case rel =>
                refine ⟨c + 1, _, by go_num, by omega, T'.out.step hlt hlc, ?_, ?_⟩
                · rw [HD.out]
                  exact (I'.out.drewN d).set (r * C + c) D
                · exact grown_set_one (grown_drewN_one G'.out d) rfl _
              case measure => simp [intOf]; omega
        · have hqn : c = C := by omega
          subst hqn
          go_wp2_with fail
          go_roundw
          case rel => exact ⟨r + 1, us, by go_num, by omega, T'.out.row, I'.out, G'.out⟩
          case measure => simp [intOf]; omega
    · have hkn : r = R := by omega
      subst hkn
      have hz := T.out.whole
      subst hz
      have hl : (tab r C fun i j => dot K C xs ys i j K).length = N := by rw [← HN.out]; exact tab_length _ _ _
      have HL := Lib.hid hl
      have B := Lib.hid (BA.out.trans (below_of_one G.out (by omega) BA.out.size))
      clear hl
      obtain ⟨s0, s1, s2, t0, t1, t2⟩ := R2.out.all
      go_wp2_with fail
      obtain ⟨E0, E1, E2, -, -, -⟩ := (((R2.out.set0 (.int .i64 r)).set1 (.int .i64 C)).set2 (.slice (some ⟨g, 0, none⟩) N N)).all
      refine bodyPost_ret (v := .agg #[.int .i64 r, .int .i64 C, .slice (some ⟨g, 0, none⟩) N N]) (by simp [results, Try.results98, go_sem, E0, E1, E2]) rfl ⟨g, by unfold mulL; rw [HL.out], by omega, ?_, ?_⟩
      · exact ((I.out.far (by show g ≠ w.heap.size + 1 + 1; omega) _).far (by show g ≠ w.heap.size + 1 + 1; omega) _).far (by show g ≠ w.heap.size + 1 + 1; omega) _
      · exact ((B.out.setCell (by show w.heap.size ≤ w.heap.size + 1 + 1; omega) _).setCell (by show w.heap.size ≤ w.heap.size + 1 + 1; omega) _).setCell (by show w.heap.size ≤ w.heap.size + 1 + 1; omega) _
end Go.Proofs.Ytdnajkoeojlnbaa
end

section
/-
  Chapter 3, in the model: MultiplyMatrices.
-/
namespace Go.Proofs.Ytdnajkoeojlnbaa
open Go.RowKit

set_option maxRecDepth 100000 in
set_option maxHeartbeats 1000000 in
theorem sMul_t (R K C : Nat) (a b : Option Addr) (m n : Nat) (xs ys : List Int) (w : World) (h : Rd w a xs) (h' : Rd w b ys) (hn : xs.length ≤ 16777216) (hn' : ys.length ≤ 16777216)
    (hm : isMat R K xs = true) (hm' : isMat K C ys = true) :
    Calls Try.prog 48 #[.agg #[.int .i64 R, .int .i64 K, .slice a xs.length m], .agg #[.int .i64 K, .int .i64 C, .slice b ys.length n]] w (MatRes (MR.done R C (mulL R K C xs ys)) w) := by
  obtain ⟨⟨r1, r2⟩, ⟨k1, k2⟩, l1, nx⟩ := isMat_says hm
  obtain ⟨-, ⟨c1, c2⟩, l2, ny⟩ := isMat_says hm'
  rw [← Int.natCast_mul] at l1 l2
  have hle : R * C ≤ 24 * 24 := Nat.mul_le_mul (by omega) (by omega)
  have hl1 : xs.length = R * K := by omega
  have hl2 : ys.length = K * C := by omega
  have HL1 := Lib.hid hl1
  have HL2 := Lib.hid hl2
  have NX := Lib.hid nx
  have NY := Lib.hid ny
  clear l1 l2 hl1 hl2 nx ny
  have B0 : ∀ o1 o2 o3, Below w.heap.size w (((w.alloc o1).alloc o2).alloc o3) := fun o1 o2 o3 => (((Below.refl _ _).alloc (Nat.le_refl _) _).alloc (by simp) _).alloc (by simp <;> omega) _
  have BH := Lib.hid B0
  have H := Lib.hid h
  have H' := Lib.hid h'
  clear B0 h h'
  have M := Lib.hid hm
  have M' := Lib.hid hm'
  clear hm hm'
  go_enter Try.func48, Try.ntmps48
  go_wp2_with fail
  refine (sIsMat R K a m xs _ (H.out.below (BH.out (.cells #[.int .i64 R, .int .i64 K, .slice a xs.length m] 27) (.cells #[.int .i64 K, .int .i64 C, .slice b ys.length n] 27) (.cells #[.int .i64 0, .int .i64 0, .slice none 0 0] 27))) hn).mono ?_
  rintro e w1 ⟨rfl, hb⟩
  have K0 : Hid (Blk3 w1 w.heap.size 27 (.int .i64 R) (.int .i64 K) (.slice a xs.length m)) := (((Blk3.at_ _ _ _ _ rfl).old _).old _).keep hb (by simp <;> omega)
  have K1 : Hid (Blk3 w1 (w.heap.size + 1) 27 (.int .i64 K) (.int .i64 C) (.slice b ys.length n)) := ((Blk3.at_ _ _ _ _ (by simp)).old _).keep hb (by simp <;> omega)
  have K2 : Hid (Blk3 w1 (w.heap.size + 1 + 1) 27 (.int .i64 0) (.int .i64 0) (.slice none 0 0)) := (Blk3.at_ _ _ _ _ (by simp)).keep hb (by simp)
  have B : Hid (Below w.heap.size w w1) := (BH.out _ _ _).trans (hb.mono (by simp <;> omega))
  clear hb
  obtain ⟨ca0, ca1, ca2, -, -, -⟩ := K0.out.all
  obtain ⟨cb0, cb1, cb2, -, -, -⟩ := K1.out.all
  obtain ⟨cc0, cc1, cc2, ff0, ff1, ff2⟩ := K2.out.all
  rw [M.out]
  go_wp2_with fail
  refine (sIsMat K C b n ys _ (H'.out.below B.out) hn').mono ?_
  rintro e w2 ⟨rfl, hb⟩
  have K0 := Lib.hid (K0.out.keep hb K0.out.lt)
  have K1 := Lib.hid (K1.out.keep hb K1.out.lt)
  have K2 := Lib.hid (K2.out.keep hb K2.out.lt)
  have B := Lib.hid (B.out.trans (hb.mono B.out.size))
  clear hb
  obtain ⟨da0, da1, da2, -, -, -⟩ := K0.out.all
  obtain ⟨db0, db1, db2, -, -, -⟩ := K1.out.all
  obtain ⟨dc0, dc1, dc2, gf0, gf1, gf2⟩ := K2.out.all
  rw [M'.out]
  go_wp2_with fail
  refine (sMulL R K C a b m n xs ys _ (H.out.below B.out) (H'.out.below B.out) (by omega) (by omega) (by omega) HL1.out HL2.out NX.out NY.out).mono ?_
  rintro e w3 ⟨g, rfl, hg, hi, hb⟩
  have l2 := Nat.lt_of_lt_of_le K2.out.lt hg
  obtain ⟨k, hk⟩ : ∃ k, (mulL R K C xs ys).length = k := ⟨_, rfl⟩
  have HL := Lib.hid hk
  have kle : k ≤ 576 := by rw [← hk]; unfold mulL; rw [tab_length]; exact hle
  rw [hk]
  have K2 := Lib.hid (K2.out.keep hb K2.out.lt)
  have I2 := Lib.hid hi
  have gl := hi.lt
  have B := Lib.hid (B.out.trans (hb.mono B.out.size))
  clear hb hi hk hg
  go_wp2_with fail
  have ST := sDone R C (some ⟨g, 0, none⟩) k (mulL R K C xs ys) w3 I2.out.rd (by rw [HL.out]; omega)
  rw [HL.out] at ST
  refine ST.mono ?_
  clear ST
  rintro e w4 ⟨rfl, hb⟩
  have K2 := Lib.hid (K2.out.keep hb K2.out.lt)
  have I2 := Lib.hid (I2.out.keep hb I2.out.lt)
  have B := Lib.hid (B.out.trans (hb.mono B.out.size))
  clear hb
  obtain ⟨s0, s1, s2, t0, t1, t2⟩ := K2.out.all
  have z2 := K2.out.lt
  have be : ∀ x y z o, Below w.heap.size w ((((w4.setCell ⟨w.heap.size + 1 + 1, 0, none⟩ x).setCell ⟨w.heap.size + 1 + 1, 1, none⟩ y).setCell ⟨w.heap.size + 1 + 1, 2, none⟩ z).alloc o) := fun x y z o =>
    (((B.out.setCell (by show w.heap.size ≤ w.heap.size + 1 + 1; omega) _).setCell (by show w.heap.size ≤ w.heap.size + 1 + 1; omega) _).setCell (by show w.heap.size ≤ w.heap.size + 1 + 1; omega) _).alloc (by have := B.out.size; simpa using this) _
  have BE := Lib.hid be
  clear be
  rcases Bool.eq_false_or_eq_true (isMat R C (mulL R K C xs ys)) with hd | hd
  · have E : Hid (MR.done R C (mulL R K C xs ys) = ⟨true, R, C, mulL R K C xs ys⟩) := by show MR.done R C (mulL R K C xs ys) = _; unfold MR.done; rw [hd]; rfl
    rw [hd]
    clear hd
    unfold DoneRes
    go_wp2_with fail
    obtain ⟨E0, E1, E2, -, -, -⟩ := ((((K2.out.set0 (.int .i64 R)).set1 (.int .i64 C)).set2 (.slice (some ⟨g, 0, none⟩) k k)).old (.cells #[.int .i64 R, .int .i64 C, .slice (some ⟨g, 0, none⟩) k k] 27)).all
    rw [E.out]
    refine bodyPost_ret (v := .tuple #[.agg #[.int .i64 R, .int .i64 C, .slice (some ⟨g, 0, none⟩) k k], .bool true]) (by simp [results, Try.results48, go_sem, E0, E1, E2]) rfl ⟨_, rfl, ?_, ?_⟩
    · refine .inr ⟨g, k, by rw [HL.out], by omega, ?_, by simp [HL.out], by simp [HL.out]; omega⟩
      exact (((I2.out.far (by show g ≠ w.heap.size + 1 + 1; omega) _).far (by show g ≠ w.heap.size + 1 + 1; omega) _).far (by show g ≠ w.heap.size + 1 + 1; omega) _).old _
    · exact BE.out _ _ _ _
  · have E : Hid (MR.done R C (mulL R K C xs ys) = MR.no) := by show MR.done R C (mulL R K C xs ys) = _; unfold MR.done; rw [hd]; rfl
    rw [hd]
    clear hd
    unfold DoneRes
    go_wp2_with fail
    obtain ⟨E0, E1, E2, -, -, -⟩ := ((((K2.out.set0 (.int .i64 0)).set1 (.int .i64 0)).set2 (.slice none 0 0)).old (.cells #[.int .i64 0, .int .i64 0, .slice none 0 0] 27)).all
    rw [E.out]
    exact bodyPost_ret (v := .tuple #[.agg #[.int .i64 0, .int .i64 0, .slice none 0 0], .bool false]) (by simp [results, Try.results48, go_sem, E0, E1, E2]) rfl ⟨_, rfl, .inl ⟨rfl, rfl⟩, BE.out _ _ _ _⟩
set_option maxRecDepth 100000 in
set_option maxHeartbeats 1000000 in
theorem sMul (r c r' c' : Int) (a b : Option Addr) (m n : Nat) (xs ys : List Int) (w : World) (h : Rd w a xs) (h' : Rd w b ys) (hn : xs.length ≤ 16777216) (hn' : ys.length ≤ 16777216) :
    Calls Try.prog 48 #[.agg #[.int .i64 r, .int .i64 c, .slice a xs.length m], .agg #[.int .i64 r', .int .i64 c', .slice b ys.length n]] w (MatRes (mulM r c xs r' c' ys) w) := by
  rcases Bool.eq_false_or_eq_true (isMat r c xs) with hm | hm
  · rcases Bool.eq_false_or_eq_true (isMat r' c' ys) with hm' | hm'
    · by_cases e1 : c = r'
      · subst e1
        obtain ⟨⟨r1, r2⟩, ⟨k1, k2⟩, -, -⟩ := isMat_says hm
        obtain ⟨-, ⟨c1, c2⟩, -, -⟩ := isMat_says hm'
        obtain ⟨R, rfl⟩ := Int.eq_ofNat_of_zero_le r1
        obtain ⟨K, rfl⟩ := Int.eq_ofNat_of_zero_le k1
        obtain ⟨C, rfl⟩ := Int.eq_ofNat_of_zero_le c1
        have E : mulM R K xs K C ys = MR.done R C (mulL R K C xs ys) := by unfold mulM; rw [hm, hm']; simp
        rw [E]
        exact sMul_t R K C a b m n xs ys w h h' hn hn' hm hm'
      · have E : Hid (mulM r c xs r' c' ys = MR.no) := by show mulM r c xs r' c' ys = _; unfold mulM; rw [hm, hm']; simp [e1]
        have n1 : (c == r') = false := by simpa using e1
        have n2 : (c != r') = true := by simpa using e1
        have B0 : ∀ o1 o2 o3, Below w.heap.size w (((w.alloc o1).alloc o2).alloc o3) := fun o1 o2 o3 => (((Below.refl _ _).alloc (Nat.le_refl _) _).alloc (by simp) _).alloc (by simp <;> omega) _
        have BH := Lib.hid B0
        have H := Lib.hid h
        have H' := Lib.hid h'
        clear B0 h h'
        have M := Lib.hid hm
        have M' := Lib.hid hm'
        clear hm hm' e1
        go_enter Try.func48, Try.ntmps48
        go_wp2_with fail
        refine (sIsMat r c a m xs _ (H.out.below (BH.out (.cells #[.int .i64 r, .int .i64 c, .slice a xs.length m] 27) (.cells #[.int .i64 r', .int .i64 c', .slice b ys.length n] 27) (.cells #[.int .i64 0, .int .i64 0, .slice none 0 0] 27))) hn).mono ?_
        rintro e w1 ⟨rfl, hb⟩
        have K0 : Hid (Blk3 w1 w.heap.size 27 (.int .i64 r) (.int .i64 c) (.slice a xs.length m)) := (((Blk3.at_ _ _ _ _ rfl).old _).old _).keep hb (by simp <;> omega)
        have K1 : Hid (Blk3 w1 (w.heap.size + 1) 27 (.int .i64 r') (.int .i64 c') (.slice b ys.length n)) := ((Blk3.at_ _ _ _ _ (by simp)).old _).keep hb (by simp <;> omega)
        have K2 : Hid (Blk3 w1 (w.heap.size + 1 + 1) 27 (.int .i64 0) (.int .i64 0) (.slice none 0 0)) := (Blk3.at_ _ _ _ _ (by simp)).keep hb (by simp)
        have B : Hid (Below w.heap.size w w1) := (BH.out _ _ _).trans (hb.mono (by simp <;> omega))
        clear hb
        obtain ⟨ca0, ca1, ca2, -, -, -⟩ := K0.out.all
        obtain ⟨cb0, cb1, cb2, -, -, -⟩ := K1.out.all
        obtain ⟨cc0, cc1, cc2, ff0, ff1, ff2⟩ := K2.out.all
        rw [M.out]
        go_wp2_with fail
        refine (sIsMat r' c' b n ys _ (H'.out.below B.out) hn').mono ?_
        rintro e w2 ⟨rfl, hb⟩
        have K0 := Lib.hid (K0.out.keep hb K0.out.lt)
        have K1 := Lib.hid (K1.out.keep hb K1.out.lt)
        have K2 := Lib.hid (K2.out.keep hb K2.out.lt)
        have B := Lib.hid (B.out.trans (hb.mono B.out.size))
        clear hb
        obtain ⟨da0, da1, da2, -, -, -⟩ := K0.out.all
        obtain ⟨db0, db1, db2, -, -, -⟩ := K1.out.all
        obtain ⟨dc0, dc1, dc2, gf0, gf1, gf2⟩ := K2.out.all
        rw [M'.out]
        go_wp2_with fail
        obtain ⟨E0, E1, E2, -, -, -⟩ := (((K2.out.set0 (.int .i64 0)).set1 (.int .i64 0)).set2 (.slice none 0 0)).all
        rw [E.out]
        exact bodyPost_ret (v := .tuple #[.agg #[.int .i64 0, .int .i64 0, .slice none 0 0], .bool false]) (by simp [results, Try.results48, go_sem, E0, E1, E2]) rfl ⟨_, rfl, .inl ⟨rfl, rfl⟩, ((B.out.setCell (by show w.heap.size ≤ w.heap.size + 1 + 1; omega) _).setCell (by show w.heap.size ≤ w.heap.size + 1 + 1; omega) _).setCell (by show w.heap.size ≤ w.heap.size + 1 + 1; omega) _⟩
    · have E : Hid (mulM r c xs r' c' ys = MR.no) := by show mulM r c xs r' c' ys = _; unfold mulM; rw [hm, hm']; simp
      have B0 : ∀ o1 o2 o3, Below w.heap.size w (((w.alloc o1).alloc o2).alloc o3) := fun o1 o2 o3 => (((Below.refl _ _).alloc (Nat.le_refl _) _).alloc (by simp) _).alloc (by simp <;> omega) _
      have BH := Lib.hid B0
      have H := Lib.hid h
      have H' := Lib.hid h'
      clear B0 h h'
      have M := Lib.hid hm
      have M' := Lib.hid hm'
      clear hm hm'
      go_enter Try.func48, Try.ntmps48
      go_wp2_with fail
      refine (sIsMat r c a m xs _ (H.out.below (BH.out (.cells #[.int .i64 r, .int .i64 c, .slice a xs.length m] 27) (.cells #[.int .i64 r', .int .i64 c', .slice b ys.length n] 27) (.cells #[.int .i64 0, .int .i64 0, .slice none 0 0] 27))) hn).mono ?_
      rintro e w1 ⟨rfl, hb⟩
      have K0 : Hid (Blk3 w1 w.heap.size 27 (.int .i64 r) (.int .i64 c) (.slice a xs.length m)) := (((Blk3.at_ _ _ _ _ rfl).old _).old _).keep hb (by simp <;> omega)
      have K1 : Hid (Blk3 w1 (w.heap.size + 1) 27 (.int .i64 r') (.int .i64 c') (.slice b ys.length n)) := ((Blk3.at_ _ _ _ _ (by simp)).old _).keep hb (by simp <;> omega)
      have K2 : Hid (Blk3 w1 (w.heap.size + 1 + 1) 27 (.int .i64 0) (.int .i64 0) (.slice none 0 0)) := (Blk3.at_ _ _ _ _ (by simp)).keep hb (by simp)
      have B : Hid (Below w.heap.size w w1) := (BH.out _ _ _).trans (hb.mono (by simp <;> omega))
      clear hb
      obtain ⟨ca0, ca1, ca2, -, -, -⟩ := K0.out.all
      obtain ⟨cb0, cb1, cb2, -, -, -⟩ := K1.out.all
      obtain ⟨cc0, cc1, cc2, ff0, ff1, ff2⟩ := K2.out.all
      rw [M.out]
      go_wp2_with fail
      refine (sIsMat r' c' b n ys _ (H'.out.below B.out) hn').mono ?_
      rintro e w2 ⟨rfl, hb⟩
      have K0 := Lib.hid (K0.out.keep hb K0.out.lt)
      have K1 := Lib.hid (K1.out.keep hb K1.out.lt)
      have K2 := Lib.hid (K2.out.keep hb K2.out.lt)
      have B := Lib.hid (B.out.trans (hb.mono B.out.size))
      clear hb
      obtain ⟨da0, da1, da2, -, -, -⟩ := K0.out.all
      obtain ⟨db0, db1, db2, -, -, -⟩ := K1.out.all
      obtain ⟨dc0, dc1, dc2, gf0, gf1, gf2⟩ := K2.out.all
      rw [M'.out]
      go_wp2_with fail
      obtain ⟨E0, E1, E2, -, -, -⟩ := (((K2.out.set0 (.int .i64 0)).set1 (.int .i64 0)).set2 (.slice none 0 0)).all
      rw [E.out]
      exact bodyPost_ret (v := .tuple #[.agg #[.int .i64 0, .int .i64 0, .slice none 0 0], .bool false]) (by simp [results, Try.results48, go_sem, E0, E1, E2]) rfl ⟨_, rfl, .inl ⟨rfl, rfl⟩, ((B.out.setCell (by show w.heap.size ≤ w.heap.size + 1 + 1; omega) _).setCell (by show w.heap.size ≤ w.heap.size + 1 + 1; omega) _).setCell (by show w.heap.size ≤ w.heap.size + 1 + 1; omega) _⟩
  · have E : Hid (mulM r c xs r' c' ys = MR.no) := by show mulM r c xs r' c' ys = _; unfold mulM; rw [hm]; simp
    have B0 : ∀ o1 o2 o3, Below w.heap.size w (((w.alloc o1).alloc o2).alloc o3) := fun o1 o2 o3 => (((Below.refl _ _).alloc (Nat.le_refl _) _).alloc (by simp) _).alloc (by simp <;> omega) _
    have BH := Lib.hid B0
    have H := Lib.hid h
    have H' := Lib.hid h'
    clear B0 h h'
    have M := Lib.hid hm
    clear hm hn'
    go_enter Try.func48, Try.ntmps48
    go_wp2_with fail
    refine (sIsMat r c a m xs _ (H.out.below (BH.out (.cells #[.int .i64 r, .int .i64 c, .slice a xs.length m] 27) (.cells #[.int .i64 r', .int .i64 c', .slice b ys.length n] 27) (.cells #[.int .i64 0, .int .i64 0, .slice none 0 0] 27))) hn).mono ?_
    rintro e w1 ⟨rfl, hb⟩
    have K0 : Hid (Blk3 w1 w.heap.size 27 (.int .i64 r) (.int .i64 c) (.slice a xs.length m)) := (((Blk3.at_ _ _ _ _ rfl).old _).old _).keep hb (by simp <;> omega)
    have K1 : Hid (Blk3 w1 (w.heap.size + 1) 27 (.int .i64 r') (.int .i64 c') (.slice b ys.length n)) := ((Blk3.at_ _ _ _ _ (by simp)).old _).keep hb (by simp <;> omega)
    have K2 : Hid (Blk3 w1 (w.heap.size + 1 + 1) 27 (.int .i64 0) (.int .i64 0) (.slice none 0 0)) := (Blk3.at_ _ _ _ _ (by simp)).keep hb (by simp)
    have B : Hid (Below w.heap.size w w1) := (BH.out _ _ _).trans (hb.mono (by simp <;> omega))
    clear hb
    obtain ⟨ca0, ca1, ca2, -, -, -⟩ := K0.out.all
    obtain ⟨cb0, cb1, cb2, -, -, -⟩ := K1.out.all
    obtain ⟨cc0, cc1, cc2, ff0, ff1, ff2⟩ := K2.out.all
    rw [M.out]
    go_wp2_with fail
    obtain ⟨E0, E1, E2, -, -, -⟩ := (((K2.out.set0 (.int .i64 0)).set1 (.int .i64 0)).set2 (.slice none 0 0)).all
    rw [E.out]
    exact bodyPost_ret (v := .tuple #[.agg #[.int .i64 0, .int .i64 0, .slice none 0 0], .bool false]) (by simp [results, Try.results48, go_sem, E0, E1, E2]) rfl ⟨_, rfl, .inl ⟨rfl, rfl⟩, ((B.out.setCell (by show w.heap.size ≤ w.heap.size + 1 + 1; omega) _).setCell (by show w.heap.size ≤ w.heap.size + 1 + 1; omega) _).setCell (by show w.heap.size ≤ w.heap.size + 1 + 1; omega) _⟩
end Go.Proofs.Ytdnajkoeojlnbaa
end
