/-
  Texts of this seat, joined: PmI · RdI
-/
import Derived.StillTailTactics
import Derived.Deep.RegionHeld3
import Derived.Test.YtncplikadacjnaaPk3
import Derived.Test.YtncplikadacjnaaPk4

section
/-
  Chapter 7, in the program: a row made primitive (the closure of EchelonOf).
-/
namespace Go.Proofs.Ytncplikadacjnaa
set_option maxRecDepth 100000
open Go.RowKit

/-- The cells of a matrix: nil, or all of what shows in block g. -/
def Cel (w : World) (q : Option Addr) (N cap g : Nat) (xs : List Int) : Prop := (q = none ∧ cap = 0 ∧ N = 0 ∧ xs = []) ∨ (q = some ⟨g, 0, none⟩ ∧ N ≤ cap ∧ xs.length = N ∧ Ints w g xs)
theorem Cel.spot {w : World} {q : Option Addr} {N cap g : Nat} {xs : List Int} (h : Cel w q N cap g xs) : Spot q := by
  rcases h with ⟨h, -⟩ | ⟨h, -⟩
  · exact .inl h
  · exact .inr ⟨g, 0, h⟩
theorem Cel.le {w : World} {q : Option Addr} {N cap g : Nat} {xs : List Int} (h : Cel w q N cap g xs) : N ≤ cap := by
  rcases h with ⟨-, h1, h2, -⟩ | ⟨-, h, -⟩ <;> omega
theorem Cel.nil {w : World} {q : Option Addr} {N cap g : Nat} {xs : List Int} (h : Cel w q N cap g xs) (hq : q = none) : cap = 0 := by
  rcases h with ⟨-, h1, -⟩ | ⟨h, -⟩
  · exact h1
  · rw [hq] at h; cases h
theorem Cel.len {w : World} {q : Option Addr} {N cap g : Nat} {xs : List Int} (h : Cel w q N cap g xs) : xs.length = N := by
  rcases h with ⟨-, -, h1, h2⟩ | ⟨-, -, h, -⟩
  · rw [h1, h2]; rfl
  · exact h
theorem Cel.ints {w : World} {q : Option Addr} {N cap g : Nat} {xs : List Int} (h : Cel w q N cap g xs) (h0 : 0 < N) : q = some ⟨g, 0, none⟩ ∧ Ints w g xs := by
  rcases h with ⟨-, -, h1, -⟩ | ⟨h1, -, -, h2⟩
  · omega
  · exact ⟨h1, h2⟩
theorem Cel.rd {w : World} {q : Option Addr} {N cap g : Nat} {xs : List Int} (h : Cel w q N cap g xs) : Rd w q xs := by
  rcases h with ⟨-, -, -, rfl⟩ | ⟨rfl, -, -, h⟩
  · exact Rd.nil _ _
  · exact h.rd
theorem Cel.move {w w' : World} {q : Option Addr} {N cap g : Nat} {xs : List Int} (h : Cel w q N cap g xs) (e : g < w.heap.size → w'.heap[g]? = w.heap[g]?) : Cel w' q N cap g xs := by
  rcases h with h | ⟨h1, h2, h3, h4⟩
  · exact .inl h
  · exact .inr ⟨h1, h2, h3, h4.move (e h4.lt)⟩
theorem Cel.keep {w w' : World} {q : Option Addr} {N cap g : Nat} {xs : List Int} (h : Cel w q N cap g xs) (hb : Below w.heap.size w w') : Cel w' q N cap g xs := h.move fun hl => hb.block g hl
theorem Cel.drewN {w : World} {q : Option Addr} {N cap g : Nat} {xs : List Int} (h : Cel w q N cap g xs) (n : Nat) : Cel (w.drewN n) q N cap g xs := h
theorem Cel.put {w w' : World} {q : Option Addr} {N cap g : Nat} {xs ys : List Int} (h : Cel w q N cap g xs) (h0 : 0 < N) (hl : ys.length = N) (hi : Ints w' g ys) : Cel w' q N cap g ys :=
  .inr ⟨(h.ints h0).1, h.le, hl, hi⟩
theorem Cel.own {w : World} {q : Option Addr} {N cap g B : Nat} {xs : List Int} (h : Cel w q N cap g xs) (hB : B ≤ g) (hN : N ≤ 16777216) : Own B w (.slice q N cap) xs := by
  rcases h with ⟨rfl, rfl, rfl, rfl⟩ | ⟨rfl, h1, h2, h3⟩
  · exact .inl ⟨rfl, rfl⟩
  · exact .inr ⟨g, cap, by rw [h2], hB, h3, by omega, by omega⟩
set_option maxHeartbeats 2000000 in
theorem iPrim (r c i N ob cap g : Nat) (q : Option Addr) (xs : List Int) (w : World) (hN : N = r * c) (hr : r ≤ 24) (hc : c ≤ 24) (hi : i < r) (nx : nums xs = true) (K : Blk3 w ob 26 (.int .i64 r) (.int .i64 c) (.slice q N cap)) (hg : Cel w q N cap g xs) :
    Calls Try.prog 82 #[.int .i64 i, .pointer (some ⟨ob, 0, none⟩)] w (fun e w' => Void e ∧ Cel w' q N cap g (prL r c i xs) ∧ w.grownBy w' (some g)) := by
  have hle : r * c ≤ 24 * 24 := Nat.mul_le_mul hr hc
  rw [← hN] at hle
  have hx := hg.len
  obtain ⟨D, hD⟩ : ∃ D, i * c = D := ⟨_, rfl⟩
  have hDN : D + c ≤ N := by
    rw [hN, ← hD, ← Nat.succ_mul]; exact Nat.mul_le_mul_right _ hi
  have RW : Hid (∀ w', Calls Try.prog 55 #[.agg #[.int .i64 r, .int .i64 c, .slice q N cap], .int .i64 i] w' (RowAt q D c w')) := fun w' => iRowIn r c i D N cap q w' hg.spot hD hDN hg.le hg.nil (by omega) (by omega)
  obtain ⟨v, hv⟩ : ∃ v, mxC c xs i = v := ⟨_, rfl⟩
  have VN : Hid (∀ j, j < c → NumP (v j)) := fun j hj => by rw [← hv]; exact mx_nums (by rw [hx, hN]) nx hi hj
  have RD : Hid (∀ w' q', Cel w' q N cap g xs → (∀ g o : Nat, q = some ⟨g, o, none⟩ → 0 < c → q' = some ⟨g, o + D, none⟩) → Rd w' q' (rwL c v)) := fun w' q' h hq => by
    rw [← hv]
    exact h.rd.row (by rw [hx, hN]) hi (by rw [hD]; exact hq)
  have PV : Hid (prL r c i xs = rowTo r c i (prV c v) xs c) := by show _ = _; rw [rowTo_all, prL_row, hv]
  have RZ : Hid (rowTo r c i (prV c v) xs 0 = xs) := rowTo_zero (by rw [hx, hN])
  have DV : Hid (∀ j, (v j).tdiv (sgD c v) = prV c v j) := fun j => sgD_div j
  have SG : Hid (∀ w' q' m', Rd w' q' (rwL c v) → Calls Try.prog 83 #[.slice q' c m'] w' (fun e w2 => e = .returned (.int .i64 (sgD c v)) ∧ ∃ n, w2 = w'.drewN n)) := fun w' q' m' h => iSgD c m' q' v w' h hc VN.out
  have d0 := sgD_ne c v
  have dn := sgD_num (c := c) (v := v) VN.out
  have RT : Hid (∀ k, k < c → (rowTo r c i (prV c v) xs k).set (D + k) (prV c v k) = rowTo r c i (prV c v) xs (k + 1)) := fun k hk => by rw [← hD]; exact rowTo_step hi hk
  have RX : Hid (∀ k, k < c → (rowTo r c i (prV c v) xs k).getD (D + k) 0 = v k) := fun k hk => by rw [← hD, rowTo_old hi hk (.inr (Nat.le_refl _)), ← hv]; rfl
  have RL : Hid (∀ k, (rowTo r c i (prV c v) xs k).length = N) := fun k => by rw [rowTo_length, hN]
  have PN : Hid (∀ j, j < c → NumP (prV c v j)) := fun j hj => prV_num VN.out hj
  have CG := Lib.hid hg
  generalize sgD c v = d at DV SG d0 dn
  clear hx nx hg hv hN
  generalize prV c v = u at PV RZ DV RT RX RL PN
  unfold NumP at dn
  obtain ⟨p0, p1, p2, -, -, -⟩ := K.all
  clear K hD
  go_enter Try.func82, Try.ntmps82
  go_wp2_with fail
  refine (RW.out _).mono ?_
  rintro e w1 ⟨q', m', rfl, hcm, hq1, hq2, hb1⟩
  have C1 := Lib.hid (CG.out.keep hb1)
  have G1 := Lib.hid (grown_of_below hb1 (some g))
  have R1 := Lib.hid (RD.out _ _ C1.out hq1)
  have Q1 := Lib.hid hq1
  clear hb1 hq1 hq2 p0 p1 p2
  go_wp2_with fail
  refine (SG.out _ _ _ R1.out).mono ?_
  rintro e w2 ⟨rfl, n, rfl⟩
  have C2 := Lib.hid (C1.out.drewN n)
  have G2 := Lib.hid (grown_drewN_one G1.out n)
  clear C1 G1 R1 SG RD RW
  generalize w1.drewN n = w2 at C2 G2 ⊢
  go_wp2_with fail
  go_loopw [5, 13] (fun _ v13 wr => ∃ j : Nat, v13 = .int .i64 j ∧ j ≤ c ∧ Cel wr q N cap g (rowTo r c i u xs j) ∧ w.grownBy wr (some g)) (fun _ v13 _ => c - (intOf v13).toNat)
  case atStart => exact ⟨0, rfl, by omega, by rw [RZ.out]; exact C2.out, G2.out⟩
  case round =>
    clear C2 G2
    obtain ⟨j, rfl, hj, hcel, hgr⟩ := hrel
    have CL := Lib.hid hcel
    have G := Lib.hid hgr
    clear hcel hgr
    by_cases hlt : j < c
    · obtain ⟨e1, hi1⟩ := CL.out.ints (by omega)
      have e2 := Q1.out g 0 e1 (by omega)
      rw [Nat.zero_add] at e2
      subst e2
      have hcell := hi1.cell (i := D + j) (by rw [RL.out]; omega)
      rw [RX.out j hlt] at hcell
      have hfr := hi1.free (D + j)
      have hb := VN.out j hlt
      have ho := PN.out j hlt
      have RS := Lib.hid (RT.out j hlt)
      have dv := DV.out j
      generalize v j = x at hcell hb dv
      obtain ⟨y, hy⟩ : ∃ y, u j = y := ⟨_, rfl⟩
      rw [hy] at RS ho dv
      unfold NumP at hb ho
      have z2 : IntKind.i64.wrap y = y := IntWalk.i64_in _ (by omega)
      have z3 : (d == 0) = false := by simpa using d0
      have I1 := Lib.hid hi1
      clear hy hi1 e1
      go_wp2_with fail
      go_roundw
      case rel =>
        refine ⟨j + 1, by go_num, by omega, ?_, ?_⟩
        · rw [← RS.out]
          exact CL.out.put (by omega) (by rw [List.length_set, RL.out]) (I1.out.set (D + j) y)
        · exact grown_set_one (a := ⟨g, D + j, none⟩) G.out rfl _
      case measure => simp [intOf]; omega
    · obtain rfl : c = j := by omega
      clear hlt
      go_wp2_with fail
      go_end0
      exact ⟨rfl, by rw [PV.out]; exact CL.out, G.out⟩
end Go.Proofs.Ytncplikadacjnaa
end

section
/-
  Chapter 8, in the program: ReduceMod.
-/
namespace Go.Proofs.Ytncplikadacjnaa
set_option maxRecDepth 100000
open Go.RowKit

set_option maxHeartbeats 2000000 in
theorem iRed (r c p : Int) (a : Option Addr) (m : Nat) (xs : List Int) (w : World) (h : Rd w a xs) (hn : xs.length ≤ 16777216) :
    Calls Try.prog 23 #[.agg #[.int .i64 r, .int .i64 c, .slice a xs.length m], .int .i64 p] w (MatRes (redM r c p xs) w) := by
  have IM : Hid (∀ w', Below w.heap.size w w' → Calls Try.prog 57 #[.agg #[.int .i64 r, .int .i64 c, .slice a xs.length m]] w' (Gives (.bool (isMat r c xs)) w')) := fun w' hb => iIsMat r c a m xs w' (h.below hb) hn
  have HX : Hid (isMat r c xs = true → xs.length ≤ 576) := fun hm => by
    obtain ⟨⟨r0, r1⟩, ⟨c0, c1⟩, hl, -⟩ := isMat_says hm
    have h2 : r * c ≤ 24 * 24 := Int.mul_le_mul (by omega) (by omega) c0 (by omega)
    omega
  have CP : Hid (xs.length ≤ 576 → ∀ w', Below w.heap.size w w' → Calls Try.prog 58 #[.agg #[.int .i64 r, .int .i64 c, .slice a xs.length m]] w' (CopyM r c xs.length xs w')) := fun hl w' hb => iCopyOf r c a m xs.length xs rfl w' (h.below hb) (by omega)
  have H := Lib.hid h
  have VN : Hid (isMat r c xs = false ∨ prmB p = false → redM r c p xs = MR.no) := fun h => by
    show _ = _
    unfold redM
    rcases h with h | h
    · rw [h]; rfl
    · rw [h, Bool.and_false]; rfl
  have VY : Hid (isMat r c xs = true → prmB p = true → redM r c p xs = ⟨true, r, c, resL p xs⟩) := fun h1 h2 => by
    show _ = _
    unfold redM
    rw [h1, h2]; rfl
  have NX : Hid (isMat r c xs = true → ∀ k, k < xs.length → -400000000 ≤ xs.getD k 0 ∧ xs.getD k 0 ≤ 400000000) := fun hm k hk => nums_at (isMat_says hm).2.2.2 hk
  have PB : Hid (prmB p = true → 2 ≤ p ∧ p ≤ 10000) := fun h => ⟨(prmB_says h).1.1, (prmB_says h).2⟩
  have ML : Hid (∀ k, (mixL xs k fun i => xs.getD i 0 % p).length = xs.length) := fun k => mixL_length _ _ _
  have MA : Hid (∀ k, (mixL xs k fun i => xs.getD i 0 % p).getD k 0 = xs.getD k 0) := fun k => mixL_at _ _ _
  have MS : Hid (∀ k, (mixL xs k fun i => xs.getD i 0 % p).set k (xs.getD k 0 % p) = mixL xs (k + 1) fun i => xs.getD i 0 % p) := fun k => mixL_step xs k (fun i => xs.getD i 0 % p)
  have MZ : Hid ((mixL xs 0 fun i => xs.getD i 0 % p) = xs) := mixL_zero _ _
  have ME : Hid ((mixL xs xs.length fun i => xs.getD i 0 % p) = resL p xs) := resL_mix
  have RN : Hid ((resL p xs).length = xs.length) := by show _ = _; unfold resL; exact List.length_map ..
  obtain ⟨N, hN⟩ : ∃ N, xs.length = N := ⟨_, rfl⟩
  rw [hN] at IM CP HX NX ML ME RN hn ⊢
  generalize redM r c p xs = RES at VN VY ⊢
  generalize isMat r c xs = bm at IM HX NX VN VY
  have XN := Lib.hid hN
  clear h hN
  go_enter Try.func23, Try.ntmps23
  go_upto_region 1 with fail
  have K0 : Hid (Blk3 ((w.alloc (.cells #[.int .i64 r, .int .i64 c, .slice a N m] 26)).alloc (.cells #[.int .i64 0, .int .i64 0, .slice none 0 0] 26)) w.heap.size 26 (.int .i64 r) (.int .i64 c) (.slice a N m)) := (Blk3.at_ _ _ _ _ rfl).old _
  have R0 : Hid (Blk3 ((w.alloc (.cells #[.int .i64 r, .int .i64 c, .slice a N m] 26)).alloc (.cells #[.int .i64 0, .int .i64 0, .slice none 0 0] 26)) (w.heap.size + 1) 26 (.int .i64 0) (.int .i64 0) (.slice none 0 0)) := Blk3.at_ _ _ _ _ (by simp)
  have B0 : Hid (Below w.heap.size w ((w.alloc (.cells #[.int .i64 r, .int .i64 c, .slice a N m] 26)).alloc (.cells #[.int .i64 0, .int .i64 0, .slice none 0 0] 26))) := ((Below.refl _ _).alloc (Nat.le_refl _) _).alloc (by simp) _
  have S0 : Hid (((w.alloc (.cells #[.int .i64 r, .int .i64 c, .slice a N m] 26)).alloc (.cells #[.int .i64 0, .int .i64 0, .slice none 0 0] 26)).heap.size = w.heap.size + 2) := by show _ = _; simp
  generalize (w.alloc (.cells #[.int .i64 r, .int .i64 c, .slice a N m] 26)).alloc (.cells #[.int .i64 0, .int .i64 0, .slice none 0 0] 26) = W0 at K0 R0 B0 S0 ⊢
  obtain ⟨p0, p1, p2, -, -, -⟩ := K0.out.all
  go_wp2_with fail
  refine (IM.out _ B0.out).mono ?_
  rintro e w1 ⟨rfl, hb⟩
  have s0 := S0.out
  have sb := hb.size
  have K1 := Lib.hid (K0.out.step hb)
  have R1 := Lib.hid (R0.out.step hb)
  have B1 := Lib.hid (B0.out.trans (hb.mono (by omega)))
  clear hb K0 R0 B0 S0 p0 p1 p2
  obtain ⟨p0, p1, p2, -, -, -⟩ := K1.out.all
  cases bm with
  | false =>
    have RX := Lib.hid (VN.out (.inl rfl))
    clear p0 p1 p2
    obtain ⟨r0, r1, r2, f0, f1, f2⟩ := R1.out.all
    go_wp2_with fail
    obtain ⟨E0, E1, E2, -, -, -⟩ := (((R1.out.set0 (.int .i64 0)).set1 (.int .i64 0)).set2 (.slice none 0 0)).all
    rw [RX.out]
    exact bodyPost_ret (v := .tuple #[.agg #[.int .i64 0, .int .i64 0, .slice none 0 0], .bool false]) (by simp [results, Try.results23, go_sem, E0, E1, E2]) rfl ⟨_, rfl, .inl ⟨rfl, rfl⟩, ((B1.out.setCell (Nat.le_succ _) _).setCell (Nat.le_succ _) _).setCell (Nat.le_succ _) _⟩
  | true =>
    go_wp2_with fail
    refine (iPrime p _).mono ?_
    rintro e w2 ⟨rfl, hb2⟩
    have sb2 := hb2.size
    have K2 := Lib.hid (K1.out.step hb2)
    have R2 := Lib.hid (R1.out.step hb2)
    have B2 := Lib.hid (B1.out.trans (hb2.mono (by omega)))
    clear hb2 K1 R1 B1 p0 p1 p2
    obtain ⟨p0, p1, p2, -, -, -⟩ := K2.out.all
    obtain ⟨bp, hbp⟩ : ∃ b, prmB p = b := ⟨_, rfl⟩
    rw [hbp] at VN VY PB ⊢
    clear hbp
    cases bp with
    | false =>
      have RX := Lib.hid (VN.out (.inr rfl))
      clear p0 p1 p2
      obtain ⟨r0, r1, r2, f0, f1, f2⟩ := R2.out.all
      go_wp2_with fail
      obtain ⟨E0, E1, E2, -, -, -⟩ := (((R2.out.set0 (.int .i64 0)).set1 (.int .i64 0)).set2 (.slice none 0 0)).all
      rw [RX.out]
      exact bodyPost_ret (v := .tuple #[.agg #[.int .i64 0, .int .i64 0, .slice none 0 0], .bool false]) (by simp [results, Try.results23, go_sem, E0, E1, E2]) rfl ⟨_, rfl, .inl ⟨rfl, rfl⟩, ((B2.out.setCell (Nat.le_succ _) _).setCell (Nat.le_succ _) _).setCell (Nat.le_succ _) _⟩
    | true =>
      obtain ⟨hp1, hp2⟩ := PB.out rfl
      have N5 := HX.out trivial
      have np : p ≠ 0 := by omega
      have RX := Lib.hid (VY.out trivial rfl)
      go_wp2_with fail
      refine (CP.out N5 _ B2.out).mono ?_
      rintro e w3 ⟨q, cap, rfl, own, hb⟩
      have sb3 := hb.size
      have s0 := K2.out.lt
      have s9 := R2.out.lt
      obtain ⟨g, C3, g1, g2, g3⟩ : ∃ g, Cel w3 q N cap g xs ∧ w.heap.size ≤ g ∧ g < w3.heap.size ∧ g ≠ w.heap.size + 1 := by
        rcases own with ⟨e, e2⟩ | ⟨g, c', e, hB, hi, hl, -⟩
        · injection e with e1 e3 e4
          exact ⟨w.heap.size, .inl ⟨e1, e4, e3, e2⟩, by omega, by omega, by omega⟩
        · injection e with e1 e3 e4
          subst e1
          exact ⟨g, .inr ⟨rfl, by omega, e3.symm, hi⟩, by omega, hi.lt, by omega⟩
      have R3 := Lib.hid ((R2.out.step hb).old (.cells #[.int .i64 r, .int .i64 c, .slice q N cap] 26))
      have O3 := Lib.hid ((K2.out.step hb).old (.cells #[.int .i64 r, .int .i64 c, .slice q N cap] 26))
      have Bx := B2.out.trans (hb.mono (by omega))
      have B3 := Lib.hid (Bx.alloc Bx.size (.cells #[.int .i64 r, .int .i64 c, .slice q N cap] 26))
      have I3 := Lib.hid (C3.keep (Below.alloc (Below.refl _ _) (Nat.le_refl _) (.cells #[.int .i64 r, .int .i64 c, .slice q N cap] 26)))
      have A3 : Hid (Blk3 (w3.alloc (.cells #[.int .i64 r, .int .i64 c, .slice q N cap] 26)) w3.heap.size 26 (.int .i64 r) (.int .i64 c) (.slice q N cap)) := Blk3.at_ _ _ _ _ rfl
      clear hb Bx p0 p1 p2 K2 R2 B2 IM CP own C3
      go_upto_region 4 with fail
      generalize w3.alloc (.cells #[.int .i64 r, .int .i64 c, .slice q N cap] 26) = W3 at R3 O3 B3 I3 A3 ⊢
      obtain ⟨b, hbb⟩ : ∃ b, w3.heap.size = b := ⟨_, rfl⟩
      rw [hbb] at A3 g2 ⊢
      obtain ⟨rb, hrb⟩ : ∃ rb, w.heap.size + 1 = rb := ⟨_, rfl⟩
      rw [hrb] at R3 g3 ⊢
      have l1 : w.heap.size ≤ rb := by omega
      have gne : g ≠ w.heap.size ∨ N = 0 := by
        rcases I3.out with h | h
        · have : xs = [] := h.2.2.2
          exact .inr (by rw [← XN.out, this]; rfl)
        · refine .inl fun e => ?_
          obtain ⟨-, -, -, h4⟩ := h
          obtain ⟨rest, h4⟩ := h4
          have h5 := O3.out
          unfold Blk3 at h5
          rw [e, h5] at h4
          injection h4 with h4
          injection h4 with h4 h6 h7
          exact absurd h6 (by decide)
      have WW := Lib.hid B3.out
      clear hbb hrb sb3 sb s0 s9 sb2
      obtain ⟨p0, p1, p2, -, -, -⟩ := O3.out.all
      go_wp2_with fail
      clear p0 p1 p2
      go_loopw [7, 8, 23] (fun _ _ v23 wr => ∃ k : Nat, v23 = .int .i64 k ∧ k ≤ N ∧ Cel wr q N cap g (mixL xs k fun i => xs.getD i 0 % p) ∧ W3.grownBy wr (some g)) (fun _ _ v23 _ => N - (intOf v23).toNat)
      case atStart => exact ⟨0, rfl, by omega, by rw [MZ.out]; exact I3.out, World.grownBy.refl _ _⟩
      case round =>
        obtain ⟨k, rfl, hk, hi, hgr⟩ := hrel
        have CI := Lib.hid hi
        have G := Lib.hid hgr
        clear hi hgr
        have R4 := Lib.hid (R3.out.keepOne G.out g3.symm)
        have A4 := Lib.hid (A3.out.keepOne G.out (by omega))
        have B4 := Lib.hid (B3.out.trans (below_of_one G.out g1 B3.out.size))
        by_cases hlt : k < N
        · obtain ⟨rfl, hi⟩ := CI.out.ints (by omega)
          have I := Lib.hid hi
          clear hi
          have MK := Lib.hid (MS.out k)
          obtain ⟨b1, o1, rfl, hc1⟩ := H.out k (by rw [XN.out]; exact hlt)
          have u1 := World.block_lt_of_cell? w _ hc1
          have hc1 := G.out.cell ((B3.out.cell (p := ⟨b1, o1 + k, none⟩) u1).trans hc1) (by simp; simp at u1; omega)
          obtain ⟨v1, v2⟩ := NX.out trivial k hlt
          obtain ⟨x, hx⟩ : ∃ x, xs.getD k 0 = x := ⟨_, rfl⟩
          rw [hx] at hc1 v1 v2 MK
          clear hx u1
          go_wp2_with fail
          refine wp_region_held_drew (S := fun w' => Blk3 w' b 26 (.int .i64 r) (.int .i64 c) (.slice (some ⟨g, 0, none⟩) N cap)) (by kernel_rfl) A4.out.drew (fun hH => ?_)
          refine wpAnyH_take (i := 0) (v := ?_) (by simp only [List.getElem?_toArray, List.getElem?_cons_zero]; rfl) (by kernel_rfl) (by kernel_rfl) (by kernel_rfl) (by exact fun _ _ _ h => h) (Or.inl ⟨by rfl, ?_⟩) hH ?_
          rotate_left
          · (intro wS hS; clear hS; go_simp; try rfl)
          try simp only [Act.put, List.setIfInBounds_toArray, List.set_cons_zero, List.set_cons_succ]
          refine wpAnyH_take (i := 1) (v := ?_) (by simp only [List.getElem?_toArray, List.getElem?_cons_succ, List.getElem?_cons_zero]; rfl) (by kernel_rfl) (by kernel_rfl) (by kernel_rfl) (by exact fun _ _ _ h => h) (Or.inl ⟨by rfl, ?_⟩) hH ?_
          rotate_left
          · (intro wS hS; (try dsimp only at hS); have k2 := hS.cell2; clear hS; go_simp; try rfl)
          try simp only [Act.put, List.setIfInBounds_toArray, List.set_cons_zero, List.set_cons_succ]
          refine wpAnyH_take (i := 2) (v := ?_) (by simp only [List.getElem?_toArray, List.getElem?_cons_succ, List.getElem?_cons_zero]; rfl) (by kernel_rfl) (by kernel_rfl) (by kernel_rfl) (by exact fun _ _ _ h => h) (Or.inl ⟨by rfl, ?_⟩) hH ?_
          rotate_left
          · (intro wS hS; clear hS; go_simp; try rfl)
          try simp only [Act.put, List.setIfInBounds_toArray, List.set_cons_zero, List.set_cons_succ]
          refine wpAnyH_take (i := 3) (v := ?_) (by simp only [List.getElem?_toArray, List.getElem?_cons_succ, List.getElem?_cons_zero]; rfl) (by kernel_rfl) (by kernel_rfl) (by kernel_rfl) (by exact fun _ _ _ h => h) (Or.inl ⟨by rfl, ?_⟩) hH ?_
          rotate_left
          · (intro wS hS; clear hS; go_simp; try rfl)
          try simp only [Act.put, List.setIfInBounds_toArray, List.set_cons_zero, List.set_cons_succ]
          refine wpAnyH_take (i := 4) (v := ?_) (by simp only [List.getElem?_toArray, List.getElem?_cons_succ, List.getElem?_cons_zero]; rfl) (by kernel_rfl) (by kernel_rfl) (by kernel_rfl) (by exact fun _ _ _ h => h) (Or.inl ⟨by rfl, ?_⟩) hH ?_
          rotate_left
          · (intro wS hS; clear hS; go_simp; try rfl)
          try simp only [Act.put, List.setIfInBounds_toArray, List.set_cons_zero, List.set_cons_succ]
          refine wpAnyH_ready (rs := [5]) (by kernel_rfl) (by simp) ?_
          refine AllReadyH.cons (by simp only [List.getElem?_toArray, List.getElem?_cons_succ, List.getElem?_cons_zero]; rfl) (fun K hK => ?_) AllReadyH.nil
          go_simp
          (with_reducible refine (iDiv x p _ v1 v2 (by omega) (by omega) np).mono ?_)
          rintro e v3 ⟨rfl, nq, rfl⟩
          try dsimp only
          refine hK.out _ _ (hH.drewN nq) (fun hH2 => ?_)
          clear hK K hH
          have hH := hH2
          clear hH2
          try simp only [Act.put, List.setIfInBounds_toArray, List.set_cons_zero, List.set_cons_succ]
          refine wpAnyH_take (i := 6) (v := ?_) (by simp only [List.getElem?_toArray, List.getElem?_cons_succ, List.getElem?_cons_zero]; rfl) (by kernel_rfl) (by kernel_rfl) (by kernel_rfl) (by exact fun _ _ _ h => h) (Or.inl ⟨by rfl, ?_⟩) hH ?_
          rotate_left
          · (intro wS hS; clear hS; go_simp; try rfl)
          try simp only [Act.put, List.setIfInBounds_toArray, List.set_cons_zero, List.set_cons_succ]
          refine wpAnyH_take (i := 7) (v := ?_) (by simp only [List.getElem?_toArray, List.getElem?_cons_succ, List.getElem?_cons_zero]; rfl) (by kernel_rfl) (by kernel_rfl) (by kernel_rfl) (by exact fun _ _ _ h => h) (Or.inl ⟨by rfl, ?_⟩) hH ?_
          rotate_left
          · (intro wS hS; clear hS; go_simp; try rfl)
          try simp only [Act.put, List.setIfInBounds_toArray, List.set_cons_zero, List.set_cons_succ]
          refine wpAnyH_take (i := 8) (v := ?_) (by simp only [List.getElem?_toArray, List.getElem?_cons_succ, List.getElem?_cons_zero]; rfl) (by kernel_rfl) (by kernel_rfl) (by kernel_rfl) (by exact fun _ _ _ h => h) (Or.inl ⟨by rfl, ?_⟩) hH ?_
          rotate_left
          · (intro wS hS; clear hS; go_simp; try rfl)
          try simp only [Act.put, List.setIfInBounds_toArray, List.set_cons_zero, List.set_cons_succ]
          refine wpAnyH_take (i := 9) (v := ?_) (by simp only [List.getElem?_toArray, List.getElem?_cons_succ, List.getElem?_cons_zero]; rfl) (by kernel_rfl) (by kernel_rfl) (by kernel_rfl) (by exact fun _ _ _ h => h) (Or.inl ⟨by rfl, ?_⟩) hH ?_
          rotate_left
          · (intro wS hS; clear hS; go_simp; try rfl)
          try simp only [Act.put, List.setIfInBounds_toArray, List.set_cons_zero, List.set_cons_succ]
          refine wpAnyH_take (i := 10) (v := ?_) (by simp only [List.getElem?_toArray, List.getElem?_cons_succ, List.getElem?_cons_zero]; rfl) (by kernel_rfl) (by kernel_rfl) (by kernel_rfl) (by exact fun _ _ _ h => h) (Or.inl ⟨by rfl, ?_⟩) hH ?_
          rotate_left
          · (intro wS hS; clear hS; go_simp; try rfl)
          try simp only [Act.put, List.setIfInBounds_toArray, List.set_cons_zero, List.set_cons_succ]
          have I5 := Lib.hid ((I.out.drewN (1 + nq)).set k (x % p))
          have G5 := Lib.hid (grown_set_one (a := ⟨g, k, none⟩) (grown_drewN_one G.out (1 + nq)) rfl (.int .i64 (x % p)))
          have A5 := Lib.hid ((A4.out.drewN (1 + nq)).far (a := ⟨g, k, none⟩) (by show b ≠ g; omega) (.int .i64 (x % p)))
          have hold := I.out.cell (i := k) (by rw [ML.out]; exact hlt)
          have hfr := I.out.free k
          refine wpAnyH_ready (rs := [11]) (by kernel_rfl) (by simp) ?_
          refine AllReadyH.cons (by simp only [List.getElem?_toArray, List.getElem?_cons_succ, List.getElem?_cons_zero]; rfl) (fun K hK => ?_) AllReadyH.nil
          clear hH
          go_simp
          try dsimp only
          refine hK.out _ _ A5.out (fun hH2 => ?_)
          clear hK K hH2 hold hfr
          try simp only [Act.put, List.setIfInBounds_toArray, List.set_cons_zero, List.set_cons_succ]
          refine wpAnyH_done (by kernel_rfl) ?_ _
          go_wp2_with fail
          go_roundw
          case rel => exact ⟨k + 1, by go_num, by omega, by rw [← MK.out]; exact .inr ⟨rfl, CI.out.le, by rw [List.length_set, ML.out], I5.out⟩, G5.out⟩
          case measure => simp [intOf]; omega
        · obtain rfl : N = k := by omega
          rw [ME.out] at CI
          obtain ⟨r0, r1, r2, f0, f1, f2⟩ := R4.out.all
          obtain ⟨p0, p1, p2, -, -, -⟩ := A4.out.all
          go_wp2_with fail
          obtain ⟨E0, E1, E2, -, -, -⟩ := (((R4.out.set0 (.int .i64 r)).set1 (.int .i64 c)).set2 (.slice q N cap)).all
          rw [RX.out]
          refine bodyPost_ret (v := .tuple #[.agg #[.int .i64 r, .int .i64 c, .slice q N cap], .bool true]) (by simp [results, Try.results23, go_sem, E0, E1, E2]) rfl ⟨_, rfl, ?_, ((B4.out.setCell l1 _).setCell l1 _).setCell l1 _⟩
          refine Cel.own (g := g) (CI.out.move fun _ => ?_) g1 (by omega)
          exact ((Below.heap_setCell _ _ _ g (by show g ≠ rb; omega)).trans (Below.heap_setCell _ _ _ g (by show g ≠ rb; omega))).trans (Below.heap_setCell _ _ _ g (by show g ≠ rb; omega))
end Go.Proofs.Ytncplikadacjnaa
end
