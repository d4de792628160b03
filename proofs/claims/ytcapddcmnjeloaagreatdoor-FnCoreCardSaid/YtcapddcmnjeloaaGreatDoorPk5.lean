/-
  Texts of this seat, joined: ZARdI · ZAIvI · ZADmI · ZACmI · ZAPvR · ZADoneI · ZAFoldM · ZASwR · ZAClI · ZAEcI · ZAElI · ZARkI · ZAIvxI
-/
import Derived.Deep.RegionHeld3
import Derived.StillTailTactics
import Derived.IntWalk
import Derived.BigQuiet
import Derived.Test.YtcapddcmnjeloaaGreatDoorPk3
import Derived.Test.YtcapddcmnjeloaaGreatDoorPk4

section
/-
  Chapter 8, in the program: ReduceMod.
-/
namespace Go.Proofs.YtcapddcmnjeloaaGreatDoor
set_option maxRecDepth 100000
open Go.RowKit
set_option maxHeartbeats 2000000 in
theorem iRed (r c p : Int) (a : Option Addr) (m : Nat) (xs : List Int) (w : World) (h : Rd w a xs) (hn : xs.length ≤ 16777216) :
    Calls Tryz.prog 106 #[.agg #[.int .i64 r, .int .i64 c, .slice a xs.length m], .int .i64 p] w (MatRes (redM r c p xs) w) := by
  have IM : Hid (∀ w', Below w.heap.size w w' → Calls Tryz.prog 43 #[.agg #[.int .i64 r, .int .i64 c, .slice a xs.length m]] w' (Gives (.bool (isMat r c xs)) w')) := fun w' hb => iIsMat r c a m xs w' (h.below hb) hn
  have HX : Hid (isMat r c xs = true → xs.length ≤ 576) := fun hm => by
    obtain ⟨⟨r0, r1⟩, ⟨c0, c1⟩, hl, -⟩ := isMat_says hm
    have h2 : r * c ≤ 24 * 24 := Int.mul_le_mul (by omega) (by omega) c0 (by omega)
    omega
  have CP : Hid (xs.length ≤ 576 → ∀ w', Below w.heap.size w w' → Calls Tryz.prog 124 #[.agg #[.int .i64 r, .int .i64 c, .slice a xs.length m]] w' (CopyM r c xs.length xs w')) := fun hl w' hb => iCopyOf r c a m xs.length xs rfl w' (h.below hb) (by omega)
  have H := Lib.hid h
  have VN : Hid (isMat r c xs = false ∨ prmB p = false → redM r c p xs = MR.no) := fun h => by
    show _ = _
    unfold redM
    rcases h with h | h
    · rw [h]; rfl
    · rw [h, Bool.and_false]; rfl
  have VY : Hid (isMat r c xs = true → prmB p = true → redM r c p xs = ⟨true, r, c, resL p xs⟩) := fun h1 h2 => by
    show _ = _
    unfold redM
    rw [h1, h2]; rfl
  have NX : Hid (isMat r c xs = true → ∀ k, k < xs.length → -400000000 ≤ xs.getD k 0 ∧ xs.getD k 0 ≤ 400000000) := fun hm k hk => nums_at (isMat_says hm).2.2.2 hk
  have PB : Hid (prmB p = true → 2 ≤ p ∧ p ≤ 10000) := fun h => ⟨(prmB_says h).1.1, (prmB_says h).2⟩
  have ML : Hid (∀ k, (mixL xs k fun i => xs.getD i 0 % p).length = xs.length) := fun k => mixL_length _ _ _
  have MA : Hid (∀ k, (mixL xs k fun i => xs.getD i 0 % p).getD k 0 = xs.getD k 0) := fun k => mixL_at _ _ _
  have MS : Hid (∀ k, (mixL xs k fun i => xs.getD i 0 % p).set k (xs.getD k 0 % p) = mixL xs (k + 1) fun i => xs.getD i 0 % p) := fun k => mixL_step xs k (fun i => xs.getD i 0 % p)
  have MZ : Hid ((mixL xs 0 fun i => xs.getD i 0 % p) = xs) := mixL_zero _ _
  have ME : Hid ((mixL xs xs.length fun i => xs.getD i 0 % p) = resL p xs) := resL_mix
  have RN : Hid ((resL p xs).length = xs.length) := by show _ = _; unfold resL; exact List.length_map ..
  obtain ⟨N, hN⟩ : ∃ N, xs.length = N := ⟨_, rfl⟩
  rw [hN] at IM CP HX NX ML ME RN hn ⊢
  generalize redM r c p xs = RES at VN VY ⊢
  generalize isMat r c xs = bm at IM HX NX VN VY
  have XN := Lib.hid hN
  clear h hN
  go_enter Tryz.func106, Tryz.ntmps106
  go_upto_region 1 with fail
  have K0 : Hid (Blk3 ((w.alloc (.cells #[.int .i64 r, .int .i64 c, .slice a N m] 26)).alloc (.cells #[.int .i64 0, .int .i64 0, .slice none 0 0] 26)) w.heap.size 26 (.int .i64 r) (.int .i64 c) (.slice a N m)) := (Blk3.at_ _ _ _ _ rfl).old _
  have R0 : Hid (Blk3 ((w.alloc (.cells #[.int .i64 r, .int .i64 c, .slice a N m] 26)).alloc (.cells #[.int .i64 0, .int .i64 0, .slice none 0 0] 26)) (w.heap.size + 1) 26 (.int .i64 0) (.int .i64 0) (.slice none 0 0)) := Blk3.at_ _ _ _ _ (by simp)
  have B0 : Hid (Below w.heap.size w ((w.alloc (.cells #[.int .i64 r, .int .i64 c, .slice a N m] 26)).alloc (.cells #[.int .i64 0, .int .i64 0, .slice none 0 0] 26))) := ((Below.refl _ _).alloc (Nat.le_refl _) _).alloc (by simp) _
  have S0 : Hid (((w.alloc (.cells #[.int .i64 r, .int .i64 c, .slice a N m] 26)).alloc (.cells #[.int .i64 0, .int .i64 0, .slice none 0 0] 26)).heap.size = w.heap.size + 2) := by show _ = _; simp
  generalize (w.alloc (.cells #[.int .i64 r, .int .i64 c, .slice a N m] 26)).alloc (.cells #[.int .i64 0, .int .i64 0, .slice none 0 0] 26) = W0 at K0 R0 B0 S0 ⊢
  obtain ⟨p0, p1, p2, -, -, -⟩ := K0.out.all
  go_wp2_with fail
  refine (IM.out _ B0.out).mono ?_
  rintro e w1 ⟨rfl, hb⟩
  have s0 := S0.out
  have sb := hb.size
  have K1 := Lib.hid (K0.out.step hb)
  have R1 := Lib.hid (R0.out.step hb)
  have B1 := Lib.hid (B0.out.trans (hb.mono (by omega)))
  clear hb K0 R0 B0 S0 p0 p1 p2
  obtain ⟨p0, p1, p2, -, -, -⟩ := K1.out.all
  cases bm with
  | false =>
    have RX := Lib.hid (VN.out (.inl rfl))
    clear p0 p1 p2
    obtain ⟨r0, r1, r2, f0, f1, f2⟩ := R1.out.all
    go_wp2_with fail
    obtain ⟨E0, E1, E2, -, -, -⟩ := (((R1.out.set0 (.int .i64 0)).set1 (.int .i64 0)).set2 (.slice none 0 0)).all
    rw [RX.out]
    exact bodyPost_ret (v := .tuple #[.agg #[.int .i64 0, .int .i64 0, .slice none 0 0], .bool false]) (by simp [results, Tryz.results106, go_sem, E0, E1, E2]) rfl ⟨_, rfl, .inl ⟨rfl, rfl⟩, ((B1.out.setCell (Nat.le_succ _) _).setCell (Nat.le_succ _) _).setCell (Nat.le_succ _) _⟩
  | true =>
    go_wp2_with fail
    refine (iPrime p _).mono ?_
    rintro e w2 ⟨rfl, hb2⟩
    have sb2 := hb2.size
    have K2 := Lib.hid (K1.out.step hb2)
    have R2 := Lib.hid (R1.out.step hb2)
    have B2 := Lib.hid (B1.out.trans (hb2.mono (by omega)))
    clear hb2 K1 R1 B1 p0 p1 p2
    obtain ⟨p0, p1, p2, -, -, -⟩ := K2.out.all
    obtain ⟨bp, hbp⟩ : ∃ b, prmB p = b := ⟨_, rfl⟩
    rw [hbp] at VN VY PB ⊢
    clear hbp
    cases bp with
    | false =>
      have RX := Lib.hid (VN.out (.inr rfl))
      clear p0 p1 p2
      obtain ⟨r0, r1, r2, f0, f1, f2⟩ := R2.out.all
      go_wp2_with fail
      obtain ⟨E0, E1, E2, -, -, -⟩ := (((R2.out.set0 (.int .i64 0)).set1 (.int .i64 0)).set2 (.slice none 0 0)).all
      rw [RX.out]
      exact bodyPost_ret (v := .tuple #[.agg #[.int .i64 0, .int .i64 0, .slice none 0 0], .bool false]) (by simp [results, Tryz.results106, go_sem, E0, E1, E2]) rfl ⟨_, rfl, .inl ⟨rfl, rfl⟩, ((B2.out.setCell (Nat.le_succ _) _).setCell (Nat.le_succ _) _).setCell (Nat.le_succ _) _⟩
    | true =>
      obtain ⟨hp1, hp2⟩ := PB.out rfl
      have N5 := HX.out trivial
      have np : p ≠ 0 := by omega
      have RX := Lib.hid (VY.out trivial rfl)
      go_wp2_with fail
      refine (CP.out N5 _ B2.out).mono ?_
      rintro e w3 ⟨q, cap, rfl, own, hb⟩
      have sb3 := hb.size
      have s0 := K2.out.lt
      have s9 := R2.out.lt
      obtain ⟨g, C3, g1, g2, g3⟩ : ∃ g, Cel w3 q N cap g xs ∧ w.heap.size ≤ g ∧ g < w3.heap.size ∧ g ≠ w.heap.size + 1 := by
        rcases own with ⟨e, e2⟩ | ⟨g, c', e, hB, hi, hl, -⟩
        · injection e with e1 e3 e4
          exact ⟨w.heap.size, .inl ⟨e1, e4, e3, e2⟩, by omega, by omega, by omega⟩
        · injection e with e1 e3 e4
          subst e1
          exact ⟨g, .inr ⟨rfl, by omega, e3.symm, hi⟩, by omega, hi.lt, by omega⟩
      have R3 := Lib.hid ((R2.out.step hb).old (.cells #[.int .i64 r, .int .i64 c, .slice q N cap] 26))
      have O3 := Lib.hid ((K2.out.step hb).old (.cells #[.int .i64 r, .int .i64 c, .slice q N cap] 26))
      have Bx := B2.out.trans (hb.mono (by omega))
      have B3 := Lib.hid (Bx.alloc Bx.size (.cells #[.int .i64 r, .int .i64 c, .slice q N cap] 26))
      have I3 := Lib.hid (C3.keep (Below.alloc (Below.refl _ _) (Nat.le_refl _) (.cells #[.int .i64 r, .int .i64 c, .slice q N cap] 26)))
      have A3 : Hid (Blk3 (w3.alloc (.cells #[.int .i64 r, .int .i64 c, .slice q N cap] 26)) w3.heap.size 26 (.int .i64 r) (.int .i64 c) (.slice q N cap)) := Blk3.at_ _ _ _ _ rfl
      clear hb Bx p0 p1 p2 K2 R2 B2 IM CP own C3
      go_upto_region 4 with fail
      generalize w3.alloc (.cells #[.int .i64 r, .int .i64 c, .slice q N cap] 26) = W3 at R3 O3 B3 I3 A3 ⊢
      obtain ⟨b, hbb⟩ : ∃ b, w3.heap.size = b := ⟨_, rfl⟩
      rw [hbb] at A3 g2 ⊢
      obtain ⟨rb, hrb⟩ : ∃ rb, w.heap.size + 1 = rb := ⟨_, rfl⟩
      rw [hrb] at R3 g3 ⊢
      have l1 : w.heap.size ≤ rb := by omega
      have gne : g ≠ w.heap.size ∨ N = 0 := by
        rcases I3.out with h | h
        · have : xs = [] := h.2.2.2
          exact .inr (by rw [← XN.out, this]; rfl)
        · refine .inl fun e => ?_
          obtain ⟨-, -, -, h4⟩ := h
          obtain ⟨rest, h4⟩ := h4
          have h5 := O3.out
          unfold Blk3 at h5
          rw [e, h5] at h4
          injection h4 with h4
          injection h4 with h4 h6 h7
          exact absurd h6 (by decide)
      have WW := Lib.hid B3.out
      clear hbb hrb sb3 sb s0 s9 sb2
      obtain ⟨p0, p1, p2, -, -, -⟩ := O3.out.all
      go_wp2_with fail
      clear p0 p1 p2
      go_loopw [7, 8, 23] (fun _ _ v23 wr => ∃ k : Nat, v23 = .int .i64 k ∧ k ≤ N ∧ Cel wr q N cap g (mixL xs k fun i => xs.getD i 0 % p) ∧ W3.grownBy wr (some g)) (fun _ _ v23 _ => N - (intOf v23).toNat)
      case atStart => exact ⟨0, rfl, by omega, by rw [MZ.out]; exact I3.out, World.grownBy.refl _ _⟩
      case round =>
        obtain ⟨k, rfl, hk, hi, hgr⟩ := hrel
        have CI := Lib.hid hi
        have G := Lib.hid hgr
        clear hi hgr
        have R4 := Lib.hid (R3.out.keepOne G.out g3.symm)
        have A4 := Lib.hid (A3.out.keepOne G.out (by omega))
        have B4 := Lib.hid (B3.out.trans (below_of_one G.out g1 B3.out.size))
        by_cases hlt : k < N
        · obtain ⟨rfl, hi⟩ := CI.out.ints (by omega)
          have I := Lib.hid hi
          clear hi
          have MK := Lib.hid (MS.out k)
          obtain ⟨b1, o1, rfl, hc1⟩ := H.out k (by rw [XN.out]; exact hlt)
          have u1 := World.block_lt_of_cell? w _ hc1
          have hc1 := G.out.cell ((B3.out.cell (p := ⟨b1, o1 + k, none⟩) u1).trans hc1) (by simp; simp at u1; omega)
          obtain ⟨v1, v2⟩ := NX.out trivial k hlt
          obtain ⟨x, hx⟩ : ∃ x, xs.getD k 0 = x := ⟨_, rfl⟩
          rw [hx] at hc1 v1 v2 MK
          clear hx u1
          go_wp2_with fail
          refine wp_region_held_drew (S := fun w' => Blk3 w' b 26 (.int .i64 r) (.int .i64 c) (.slice (some ⟨g, 0, none⟩) N cap)) (by kernel_rfl) A4.out.drew (fun hH => ?_)
          refine wpAnyH_take (i := 0) (v := ?_) (by simp only [List.getElem?_toArray, List.getElem?_cons_zero]; rfl) (by kernel_rfl) (by kernel_rfl) (by kernel_rfl) (by exact fun _ _ _ h => h) (Or.inl ⟨by rfl, ?_⟩) hH ?_
          rotate_left
          · (intro wS hS; clear hS; go_simp; try rfl)
          try simp only [Act.put, List.setIfInBounds_toArray, List.set_cons_zero, List.set_cons_succ]
          refine wpAnyH_take (i := 1) (v := ?_) (by simp only [List.getElem?_toArray, List.getElem?_cons_succ, List.getElem?_cons_zero]; rfl) (by kernel_rfl) (by kernel_rfl) (by kernel_rfl) (by exact fun _ _ _ h => h) (Or.inl ⟨by rfl, ?_⟩) hH ?_
          rotate_left
          · (intro wS hS; (try dsimp only at hS); have k2 := hS.cell2; clear hS; go_simp; try rfl)
          try simp only [Act.put, List.setIfInBounds_toArray, List.set_cons_zero, List.set_cons_succ]
          refine wpAnyH_take (i := 2) (v := ?_) (by simp only [List.getElem?_toArray, List.getElem?_cons_succ, List.getElem?_cons_zero]; rfl) (by kernel_rfl) (by kernel_rfl) (by kernel_rfl) (by exact fun _ _ _ h => h) (Or.inl ⟨by rfl, ?_⟩) hH ?_
          rotate_left
          · (intro wS hS; clear hS; go_simp; try rfl)
          try simp only [Act.put, List.setIfInBounds_toArray, List.set_cons_zero, List.set_cons_succ]
          refine wpAnyH_take (i := 3) (v := ?_) (by simp only [List.getElem?_toArray, List.getElem?_cons_succ, List.getElem?_cons_zero]; rfl) (by kernel_rfl) (by kernel_rfl) (by kernel_rfl) (by exact fun _ _ _ h => h) (Or.inl ⟨by rfl, ?_⟩) hH ?_
          rotate_left
          · (intro wS hS; clear hS; go_simp; try rfl)
          try simp only [Act.put, List.setIfInBounds_toArray, List.set_cons_zero, List.set_cons_succ]
          refine wpAnyH_take (i := 4) (v := ?_) (by simp only [List.getElem?_toArray, List.getElem?_cons_succ, List.getElem?_cons_zero]; rfl) (by kernel_rfl) (by kernel_rfl) (by kernel_rfl) (by exact fun _ _ _ h => h) (Or.inl ⟨by rfl, ?_⟩) hH ?_
          rotate_left
          · (intro wS hS; clear hS; go_simp; try rfl)
          try simp only [Act.put, List.setIfInBounds_toArray, List.set_cons_zero, List.set_cons_succ]
          refine wpAnyH_ready (rs := [5]) (by kernel_rfl) (by simp) ?_
          refine AllReadyH.cons (by simp only [List.getElem?_toArray, List.getElem?_cons_succ, List.getElem?_cons_zero]; rfl) (fun K hK => ?_) AllReadyH.nil
          go_simp
          (with_reducible refine (iDiv x p _ v1 v2 (by omega) (by omega) np).mono ?_)
          rintro e v3 ⟨rfl, nq, rfl⟩
          try dsimp only
          refine hK.out _ _ (hH.drewN nq) (fun hH2 => ?_)
          clear hK K hH
          have hH := hH2
          clear hH2
          try simp only [Act.put, List.setIfInBounds_toArray, List.set_cons_zero, List.set_cons_succ]
          refine wpAnyH_take (i := 6) (v := ?_) (by simp only [List.getElem?_toArray, List.getElem?_cons_succ, List.getElem?_cons_zero]; rfl) (by kernel_rfl) (by kernel_rfl) (by kernel_rfl) (by exact fun _ _ _ h => h) (Or.inl ⟨by rfl, ?_⟩) hH ?_
          rotate_left
          · (intro wS hS; clear hS; go_simp; try rfl)
          try simp only [Act.put, List.setIfInBounds_toArray, List.set_cons_zero, List.set_cons_succ]
          refine wpAnyH_take (i := 7) (v := ?_) (by simp only [List.getElem?_toArray, List.getElem?_cons_succ, List.getElem?_cons_zero]; rfl) (by kernel_rfl) (by kernel_rfl) (by kernel_rfl) (by exact fun _ _ _ h => h) (Or.inl ⟨by rfl, ?_⟩) hH ?_
          rotate_left
          · (intro wS hS; clear hS; go_simp; try rfl)
          try simp only [Act.put, List.setIfInBounds_toArray, List.set_cons_zero, List.set_cons_succ]
          refine wpAnyH_take (i := 8) (v := ?_) (by simp only [List.getElem?_toArray, List.getElem?_cons_succ, List.getElem?_cons_zero]; rfl) (by kernel_rfl) (by kernel_rfl) (by kernel_rfl) (by exact fun _ _ _ h => h) (Or.inl ⟨by rfl, ?_⟩) hH ?_
          rotate_left
          · (intro wS hS; clear hS; go_simp; try rfl)
          try simp only [Act.put, List.setIfInBounds_toArray, List.set_cons_zero, List.set_cons_succ]
          refine wpAnyH_take (i := 9) (v := ?_) (by simp only [List.getElem?_toArray, List.getElem?_cons_succ, List.getElem?_cons_zero]; rfl) (by kernel_rfl) (by kernel_rfl) (by kernel_rfl) (by exact fun _ _ _ h => h) (Or.inl ⟨by rfl, ?_⟩) hH ?_
          rotate_left
          · (intro wS hS; clear hS; go_simp; try rfl)
          try simp only [Act.put, List.setIfInBounds_toArray, List.set_cons_zero, List.set_cons_succ]
          refine wpAnyH_take (i := 10) (v := ?_) (by simp only [List.getElem?_toArray, List.getElem?_cons_succ, List.getElem?_cons_zero]; rfl) (by kernel_rfl) (by kernel_rfl) (by kernel_rfl) (by exact fun _ _ _ h => h) (Or.inl ⟨by rfl, ?_⟩) hH ?_
          rotate_left
          · (intro wS hS; clear hS; go_simp; try rfl)
          try simp only [Act.put, List.setIfInBounds_toArray, List.set_cons_zero, List.set_cons_succ]
          have I5 := Lib.hid ((I.out.drewN (1 + nq)).set k (x % p))
          have G5 := Lib.hid (grown_set_one (a := ⟨g, k, none⟩) (grown_drewN_one G.out (1 + nq)) rfl (.int .i64 (x % p)))
          have A5 := Lib.hid ((A4.out.drewN (1 + nq)).far (a := ⟨g, k, none⟩) (by show b ≠ g; omega) (.int .i64 (x % p)))
          have hold := I.out.cell (i := k) (by rw [ML.out]; exact hlt)
          have hfr := I.out.free k
          refine wpAnyH_ready (rs := [11]) (by kernel_rfl) (by simp) ?_
          refine AllReadyH.cons (by simp only [List.getElem?_toArray, List.getElem?_cons_succ, List.getElem?_cons_zero]; rfl) (fun K hK => ?_) AllReadyH.nil
          clear hH
          go_simp
          try dsimp only
          refine hK.out _ _ A5.out (fun hH2 => ?_)
          clear hK K hH2 hold hfr
          try simp only [Act.put, List.setIfInBounds_toArray, List.set_cons_zero, List.set_cons_succ]
          refine wpAnyH_done (by kernel_rfl) ?_ _
          go_wp2_with fail
          go_roundw
          case rel => exact ⟨k + 1, by go_num, by omega, by rw [← MK.out]; exact .inr ⟨rfl, CI.out.le, by rw [List.length_set, ML.out], I5.out⟩, G5.out⟩
          case measure => simp [intOf]; omega
        · obtain rfl : N = k := by omega
          rw [ME.out] at CI
          obtain ⟨r0, r1, r2, f0, f1, f2⟩ := R4.out.all
          obtain ⟨p0, p1, p2, -, -, -⟩ := A4.out.all
          go_wp2_with fail
          obtain ⟨E0, E1, E2, -, -, -⟩ := (((R4.out.set0 (.int .i64 r)).set1 (.int .i64 c)).set2 (.slice q N cap)).all
          rw [RX.out]
          refine bodyPost_ret (v := .tuple #[.agg #[.int .i64 r, .int .i64 c, .slice q N cap], .bool true]) (by simp [results, Tryz.results106, go_sem, E0, E1, E2]) rfl ⟨_, rfl, ?_, ((B4.out.setCell l1 _).setCell l1 _).setCell l1 _⟩
          refine Cel.own (g := g) (CI.out.move fun _ => ?_) g1 (by omega)
          exact ((Below.heap_setCell _ _ _ g (by show g ≠ rb; omega)).trans (Below.heap_setCell _ _ _ g (by show g ≠ rb; omega))).trans (Below.heap_setCell _ _ _ g (by show g ≠ rb; omega))
end Go.Proofs.YtcapddcmnjeloaaGreatDoor
end

section
/-
  Chapter 8, in the program: InverseModulo; a row divided by a pivot; a row without its cell in the pivot's column.
-/
namespace Go.Proofs.YtcapddcmnjeloaaGreatDoor
set_option maxRecDepth 100000
open Go.RowKit
theorem ext_any {p a : Int} (hp : Prm p) (hp2 : p ≤ 10000) (ha : NumP a) (hn : a % p ≠ 0) : ∃ x z : Int, egAns a p = (1, x, z) ∧ invF p (a % p) = x % p ∧ -400000000 ≤ x ∧ x ≤ 400000000 := by
  have hp1 := hp.1
  obtain ⟨x, z, e, hxz, b1, b2, -, -⟩ := egAns_is a p ha ⟨by omega, by omega⟩
  have hnd : ¬ p ∣ a := fun h => hn (Int.emod_eq_zero_of_dvd h)
  have hg : (Int.gcd a p : Int) = 1 := by have := hp.gcd hnd; omega
  rw [hg] at e hxz
  refine ⟨x, z, e, invF_ext (y := z + a / p * x) (g := 1) hp ?_ rfl, b1, b2⟩
  rw [Int.emod_def]
  grind
theorem ext_mult {p a : Int} (hp : Prm p) (hp2 : p ≤ 10000) (ha : NumP a) (hn : a % p = 0) : ∃ g x z : Int, egAns a p = (g, x, z) ∧ g ≠ 1 := by
  have hp1 := hp.1
  obtain ⟨x, z, e, hxz, -, -, -, -⟩ := egAns_is a p ha ⟨by omega, by omega⟩
  refine ⟨_, x, z, e, fun h1 => ?_⟩
  have hdv : p ∣ (Int.gcd a p : Int) := by
    rw [← hxz]
    exact Int.dvd_add (Int.dvd_trans (Int.dvd_of_emod_eq_zero hn) (Int.dvd_mul_right a x)) (Int.dvd_mul_right p z)
  rw [h1] at hdv
  have := Int.le_of_dvd (by omega) hdv
  omega
theorem iInvM (a p : Int) (w : World) : Calls Tryz.prog 179 #[.int .i64 a, .int .i64 p] w fun e w' => e = .returned (.tuple #[.int .i64 (ivM p a).1, .bool (ivM p a).2]) ∧ Below w.heap.size w w' := by
  rcases Bool.eq_false_or_eq_true (prmB p) with h1 | h1
  · obtain ⟨hp, hp2⟩ := prmB_says h1
    have hp1 := hp.1
    have np : p ≠ 0 := by omega
    have P1 := Lib.hid h1
    by_cases h2 : NumP a
    · by_cases h3 : a % p = 0
      · have V := Lib.hid (ivM_no3 h3)
        obtain ⟨g, x, z, hx, hg⟩ := ext_mult hp hp2 h2 h3
        have HX : Hid (egVal (egAns a p) = .tuple #[.int .i64 g, .int .i64 x, .int .i64 z, .bool true]) := by show _ = _; rw [hx]; rfl
        have n1 : (g != 1) = true := by simpa using hg
        clear h1 h3 hp hx hg
        go_enter Tryz.func179, Tryz.ntmps179
        go_wp2_with fail
        refine (iPrime p _).mono ?_
        rintro e w1 ⟨rfl, hb1⟩
        rw [P1.out]
        go_wp2_with fail
        refine (iExt a p _ h2 ⟨by omega, by omega⟩).mono ?_
        rintro e w2 ⟨rfl, hb2⟩
        have B := Lib.hid (hb1.trans (hb2.mono hb1.size))
        clear hb1 hb2
        rw [HX.out]
        go_wp2_with fail
        exact bodyPost_ret (v := .tuple #[.int .i64 0, .bool false]) (by simp [results, Tryz.results179, go_sem]) rfl ⟨by rw [V.out], B.out⟩
      · have V := Lib.hid (ivM_yes h1 h2 rfl h3)
        obtain ⟨x, z, hx, hi, b1, b2⟩ := ext_any hp hp2 h2 h3
        have HI := Lib.hid hi
        have HX : Hid (egVal (egAns a p) = .tuple #[.int .i64 1, .int .i64 x, .int .i64 z, .bool true]) := by show _ = _; rw [hx]; rfl
        clear h1 h3 hp hi hx
        go_enter Tryz.func179, Tryz.ntmps179
        go_wp2_with fail
        refine (iPrime p _).mono ?_
        rintro e w1 ⟨rfl, hb1⟩
        rw [P1.out]
        go_wp2_with fail
        refine (iExt a p _ h2 ⟨by omega, by omega⟩).mono ?_
        rintro e w2 ⟨rfl, hb2⟩
        have B := Lib.hid (hb1.trans (hb2.mono hb1.size))
        clear hb1 hb2
        rw [HX.out]
        go_wp2_with fail
        refine (iDiv x p _ b1 b2 (by omega) (by omega) np).mono ?_
        rintro e w3 ⟨rfl, n, rfl⟩
        have B2 := Lib.hid (below_drewN B.out n)
        go_wp2_with fail
        exact bodyPost_ret (v := .tuple #[.int .i64 (x % p), .bool true]) (by simp [results, Tryz.results179, go_sem]) rfl ⟨by rw [V.out, ← HI.out], B2.out⟩
    · have V := Lib.hid (ivM_no2 (p := p) h2)
      have h2' : ¬ ((-400000000 ≤ a ∧ a ≤ 400000000) ∧ (-400000000 ≤ p ∧ p ≤ 400000000)) := fun h => h2 h.1
      clear h1 h2 hp
      go_enter Tryz.func179, Tryz.ntmps179
      go_wp2_with fail
      refine (iPrime p _).mono ?_
      rintro e w1 ⟨rfl, hb1⟩
      rw [P1.out]
      go_wp2_with fail
      refine (iExt_f a p _ h2').mono ?_
      rintro e w2 ⟨rfl, rfl⟩
      go_wp2_with fail
      exact bodyPost_ret (v := .tuple #[.int .i64 0, .bool false]) (by simp [results, Tryz.results179, go_sem]) rfl ⟨by rw [V.out], hb1⟩
  · have V := Lib.hid (ivM_no1 (a := a) h1)
    have P1 := Lib.hid h1
    clear h1
    go_enter Tryz.func179, Tryz.ntmps179
    go_wp2_with fail
    refine (iPrime p _).mono ?_
    rintro e w1 ⟨rfl, hb1⟩
    rw [P1.out]
    go_wp2_with fail
    exact bodyPost_ret (v := .tuple #[.int .i64 0, .bool false]) (by simp [results, Tryz.results179, go_sem]) rfl ⟨by rw [V.out], hb1⟩
end Go.Proofs.YtcapddcmnjeloaaGreatDoor
end

section
/-
  Chapter 8, in the program: a row divided by a pivot; a row without its cell in the pivot's column.
-/
namespace Go.Proofs.YtcapddcmnjeloaaGreatDoor
set_option maxRecDepth 100000
open Go.RowKit
set_option maxHeartbeats 2000000 in
theorem iDivide (r c t N g m : Nat) (x p : Int) (xs : List Int) (w : World) (hN : N = r * c) (hx : xs.length = N) (hc : c ≤ 24) (htr : t < r) (hp : prmB p = true) (hcan : CanL p xs) (h0 : 0 ≤ x) (h1 : x < p) (hn : x ≠ 0) (hi : Ints w g xs) :
    Calls Tryz.prog 151 #[.slice (some ⟨g, t * c, none⟩) c m, .int .i64 x, .int .i64 p] w (fun e w' => Void e ∧ Ints w' g (rowL r c t (scV p (invF p x) (mxC c xs t)) xs) ∧ w.grownBy w' (some g)) := by
  have hl : xs.length = r * c := by rw [hx, hN]
  obtain ⟨pp, hp2⟩ := prmB_says hp
  have hp1 := pp.1
  obtain ⟨-, i0, i1⟩ := pp.hasInv.inv pp (can_nd ⟨h0, h1⟩ hn)
  have IV := Lib.hid (ivM_can hp h0 h1 hn)
  have LI : Hid (∀ q, q < c → t * c + q < N) := fun q hq => by rw [hN]; exact idx_lt htr hq
  have RX : Hid (∀ k, k < c → (rowTo r c t (scV p (invF p x) (mxC c xs t)) xs k).getD (t * c + k) 0 = mxC c xs t k) := fun k hk => rowTo_old htr hk (.inr (Nat.le_refl _))
  have RS : Hid (∀ k, k < c → (rowTo r c t (scV p (invF p x) (mxC c xs t)) xs k).set (t * c + k) ((mxC c xs t k * invF p x) % p) = rowTo r c t (scV p (invF p x) (mxC c xs t)) xs (k + 1)) := fun k hk => rowTo_step htr hk
  have RL : Hid (∀ k, (rowTo r c t (scV p (invF p x) (mxC c xs t)) xs k).length = N) := fun k => by rw [rowTo_length, hN]
  have RZ : Hid (rowTo r c t (scV p (invF p x) (mxC c xs t)) xs 0 = xs) := rowTo_zero hl
  have RA : Hid (rowTo r c t (scV p (invF p x) (mxC c xs t)) xs c = rowL r c t (scV p (invF p x) (mxC c xs t)) xs) := rowTo_all
  have ZT : Hid (∀ q, q < c → 0 ≤ mxC c xs t q ∧ mxC c xs t q < p) := fun q hq => hcan.mx hl htr hq
  have I := Lib.hid hi
  have lg := hi.lt
  obtain ⟨v, hv⟩ : ∃ v, invF p x = v := ⟨_, rfl⟩
  rw [hv] at IV i0 i1 RX RS RL RZ RA ⊢
  obtain ⟨D, hD⟩ : ∃ D, t * c = D := ⟨_, rfl⟩
  rw [hD] at LI RX RS ⊢
  have np : ¬ p = 0 := by omega
  clear hl hx hN hD hi hv pp hp hcan
  go_enter Tryz.func151, Tryz.ntmps151
  go_wp2_with fail
  refine (iInvM x p _).mono ?_
  rintro e w1 ⟨rfl, hb⟩
  rw [IV.out]
  have I := Lib.hid (I.out.keep hb lg)
  have G := Lib.hid (grown_of_below hb (some g))
  clear hb
  go_wp2_with fail
  go_loopw [8, 17] (fun _ v17 wr => ∃ h : Nat, v17 = .int .i64 h ∧ h ≤ c ∧ Ints wr g (rowTo r c t (scV p v (mxC c xs t)) xs h) ∧ w.grownBy wr (some g)) (fun _ v17 _ => c - (intOf v17).toNat)
  case atStart => exact ⟨0, rfl, by omega, by rw [RZ.out]; exact I.out, G.out⟩
  case round =>
    clear I G
    obtain ⟨h, rfl, hh, hi, hgr⟩ := hrel
    have I := Lib.hid hi
    have G := Lib.hid hgr
    clear hi hgr
    by_cases hlt : h < c
    · have hca := I.out.cell (i := D + h) (by rw [RL.out]; exact LI.out h hlt)
      have hfr := I.out.free (D + h)
      rw [RX.out h hlt] at hca
      obtain ⟨z1, z2⟩ := ZT.out h hlt
      have RS := Lib.hid (RS.out h hlt)
      generalize mxC c xs t h = ea at hca z1 z2 RS
      obtain ⟨m3, m4⟩ := mul_bd z1 z2 i0 i1 hp2
      obtain ⟨y, hy⟩ : ∃ y, ea * v = y := ⟨_, rfl⟩
      have w2 : IntKind.i64.wrap (ea * v) = y := by rw [← hy]; exact IntWalk.i64_in _ (by omega)
      rw [hy] at m3 m4 RS
      have e2 : Int.tmod y p = y % p := Int.tmod_eq_emod_of_nonneg m3
      have IS := Lib.hid (I.out.set (D + h) (y % p))
      have GS := Lib.hid (grown_set_one (a := ⟨g, D + h, none⟩) G.out rfl (.int .i64 (y % p)))
      clear hy
      go_wp2_with fail
      go_roundw
      case rel => exact ⟨h + 1, by go_num, by omega, by rw [← RS.out]; exact IS.out, GS.out⟩
      case measure => simp [intOf]; omega
    · obtain rfl : c = h := by omega
      go_wp2_with fail
      go_end0
      exact ⟨rfl, by rw [← RA.out]; exact I.out, G.out⟩
end Go.Proofs.YtcapddcmnjeloaaGreatDoor
end

section
/-
  Chapter 8, in the program: a row without its cell in the pivot's column.
-/
namespace Go.Proofs.YtcapddcmnjeloaaGreatDoor
set_option maxRecDepth 100000
open Go.RowKit
theorem less_mod {p a x b : Int} : (a + (p - x) * b) % p = (a - x * b) % p := by
  rw [show a + (p - x) * b = (a - x * b) + p * b by grind, Int.add_mul_emod_self_left]
set_option maxHeartbeats 2000000 in
theorem iClearM (r c i t j N g mi mt : Nat) (p : Int) (xs : List Int) (w : World) (hN : N = r * c) (hx : xs.length = N) (hc : c ≤ 24) (hir : i < r) (htr : t < r) (hit : i ≠ t) (hj : j < c) (hp : prmB p = true) (hcan : CanL p xs) (hi : Ints w g xs) :
    Calls Tryz.prog 152 #[.slice (some ⟨g, i * c, none⟩) c mi, .slice (some ⟨g, t * c, none⟩) c mt, .int .i64 j, .int .i64 p] w (fun e w' => Void e ∧ Ints w' g (rowL r c i (lsV p (mxC c xs i j) (mxC c xs i) (mxC c xs t)) xs) ∧ w.grownBy w' (some g)) := by
  have hl : xs.length = r * c := by rw [hx, hN]
  obtain ⟨pp, hp2⟩ := prmB_says hp
  have hp1 := pp.1
  have IL : Hid (∀ i q, i < r → q < c → i * c + q < N) := fun i q hi hq => by rw [hN]; exact idx_lt hi hq
  have NI : Hid (∀ k, k < c → 0 ≤ mxC c xs i k ∧ mxC c xs i k < p) := fun k hk => hcan.mx hl hir hk
  have NT : Hid (∀ k, k < c → 0 ≤ mxC c xs t k ∧ mxC c xs t k < p) := fun k hk => hcan.mx hl htr hk
  have hcx : w.cell? ⟨g, i * c + j, none⟩ = some (.int .i64 (mxC c xs i j)) := hi.cell (by rw [hl]; exact idx_lt hir hj)
  obtain ⟨x0, x1⟩ := NI.out j hj
  obtain ⟨x, hxx⟩ : ∃ x, mxC c xs i j = x := ⟨_, rfl⟩
  rw [hxx] at x0 x1 hcx ⊢
  have RT : Hid (∀ k, k < c → (rowTo r c i (lsV p x (mxC c xs i) (mxC c xs t)) xs k).set (i * c + k) ((mxC c xs i k + (p - x) * mxC c xs t k) % p) = rowTo r c i (lsV p x (mxC c xs i) (mxC c xs t)) xs (k + 1)) := fun k hk => by rw [less_mod]; exact rowTo_step hir hk
  have RX : Hid (∀ k, k < c → (rowTo r c i (lsV p x (mxC c xs i) (mxC c xs t)) xs k).getD (i * c + k) 0 = mxC c xs i k) := fun k hk => rowTo_old hir hk (.inr (Nat.le_refl _))
  have RY : Hid (∀ k, k < c → (rowTo r c i (lsV p x (mxC c xs i) (mxC c xs t)) xs k).getD (t * c + k) 0 = mxC c xs t k) := fun k hk => rowTo_old htr hk (.inl (fun e => hit e.symm))
  have RL : Hid (∀ k, (rowTo r c i (lsV p x (mxC c xs i) (mxC c xs t)) xs k).length = N) := fun k => by rw [rowTo_length, hN]
  have RZ : Hid (rowTo r c i (lsV p x (mxC c xs i) (mxC c xs t)) xs 0 = xs) := rowTo_zero hl
  have RA : Hid (rowTo r c i (lsV p x (mxC c xs i) (mxC c xs t)) xs c = rowL r c i (lsV p x (mxC c xs i) (mxC c xs t)) xs) := rowTo_all
  have I := Lib.hid hi
  have lg := hi.lt
  generalize lsV p x (mxC c xs i) (mxC c xs t) = u at RT RX RY RL RZ RA ⊢
  obtain ⟨Di, hDi⟩ : ∃ D, i * c = D := ⟨_, rfl⟩
  obtain ⟨Dt, hDt⟩ : ∃ D, t * c = D := ⟨_, rfl⟩
  have LI : Hid (∀ q, q < c → Di + q < N) := fun q hq => by rw [← hDi]; exact IL.out i q hir hq
  have LT : Hid (∀ q, q < c → Dt + q < N) := fun q hq => by rw [← hDt]; exact IL.out t q htr hq
  rw [hDi] at RT RX hcx ⊢
  rw [hDt] at RY ⊢
  have np : ¬ p = 0 := by omega
  obtain ⟨v, hv⟩ : ∃ v, p - x = v := ⟨_, rfl⟩
  have w0 : IntKind.i64.wrap (p - x) = v := by rw [← hv]; exact IntWalk.i64_in _ (by omega)
  have v0 : 0 ≤ v ∧ v ≤ 10000 := by omega
  rw [hv] at RT
  clear hl hx hN hDi hDt hi IL hv hxx pp hp hcan
  go_enter Tryz.func152, Tryz.ntmps152
  go_wp2_with fail
  go_loopw [9, 18] (fun _ v18 wr => ∃ h : Nat, v18 = .int .i64 h ∧ h ≤ c ∧ Ints wr g (rowTo r c i u xs h) ∧ w.grownBy wr (some g)) (fun _ v18 _ => c - (intOf v18).toNat)
  case atStart => exact ⟨0, rfl, by omega, by rw [RZ.out]; exact I.out, World.grownBy.refl _ _⟩
  case round =>
    clear I hcx
    obtain ⟨h, rfl, hh, hi, hgr⟩ := hrel
    have I := Lib.hid hi
    have G := Lib.hid hgr
    clear hi hgr
    by_cases hlt : h < c
    · have hca := I.out.cell (i := Di + h) (by rw [RL.out]; exact LI.out h hlt)
      have hcb := I.out.cell (i := Dt + h) (by rw [RL.out]; exact LT.out h hlt)
      have hfr := I.out.free (Di + h)
      rw [RX.out h hlt] at hca
      rw [RY.out h hlt] at hcb
      obtain ⟨na1, na2⟩ := NI.out h hlt
      obtain ⟨nb1, nb2⟩ := NT.out h hlt
      have RS := Lib.hid (RT.out h hlt)
      generalize mxC c xs i h = ea at hca na1 na2 RS
      generalize mxC c xs t h = eb at hcb nb1 nb2 RS
      have m1 : 0 ≤ v * eb := Int.mul_nonneg v0.1 nb1
      have m2 : v * eb ≤ 10000 * 10000 := Int.mul_le_mul v0.2 (by omega) nb1 (by omega)
      obtain ⟨o, ho⟩ : ∃ o, v * eb = o := ⟨_, rfl⟩
      have v2 : IntKind.i64.wrap (v * eb) = o := by rw [← ho]; exact IntWalk.i64_in _ (by omega)
      rw [ho] at RS m1 m2
      obtain ⟨f, hf⟩ : ∃ f, ea + o = f := ⟨_, rfl⟩
      have v3 : IntKind.i64.wrap (ea + o) = f := by rw [← hf]; exact IntWalk.i64_in _ (by omega)
      rw [hf] at RS
      have e2 : Int.tmod f p = f % p := Int.tmod_eq_emod_of_nonneg (by omega)
      have IS := Lib.hid ((I.out.drew).set (Di + h) (f % p))
      have GS := Lib.hid (grown_set_one (a := ⟨g, Di + h, none⟩) (grown_drew_one G.out) rfl (.int .i64 (f % p)))
      clear ho hf
      go_wp2_with fail
      go_still_tail 16, (by kernel_rfl)
      go_wp2_with fail
      go_roundw
      case rel => exact ⟨h + 1, by go_num, by omega, by rw [← RS.out]; exact IS.out, GS.out⟩
      case measure => simp [intOf]; omega
    · obtain rfl : c = h := by omega
      go_wp2_with fail
      go_end0
      exact ⟨rfl, by rw [← RA.out]; exact I.out, G.out⟩
end Go.Proofs.YtcapddcmnjeloaaGreatDoor
end

section
/-
  Chapter 7, in the program: the pivot's row of any matrix.
-/
namespace Go.Proofs.YtcapddcmnjeloaaGreatDoor
set_option maxRecDepth 100000
open Go.RowKit
def pvR (r c j t : Nat) (xs : List Int) : Int := if fstR c j xs (r - t) t = r then -1 else (fstR c j xs (r - t) t : Int)
set_option maxHeartbeats 1000000 in
theorem iPivR (r c t j N cap g : Nat) (q : Option Addr) (xs : List Int) (w : World) (hN : N = r * c) (hr : r ≤ 24) (hc : c ≤ 24) (ht : t ≤ r) (hj : j < c) (hg : Cel w q N cap g xs) :
    Calls Tryz.prog 130 #[.agg #[.int .i64 r, .int .i64 c, .slice q N cap], .int .i64 t, .int .i64 j] w (Gives (.int .i64 (pvR r c j t xs)) w) := by
  have hle : r * c ≤ 24 * 24 := Nat.mul_le_mul hr hc
  rw [← hN] at hle
  have hx := hg.len
  have hl : xs.length = r * c := by rw [hx, hN]
  have IX : Hid (∀ i, i < r → ∃ P : Nat, i * c + j = P ∧ P < N ∧ IntKind.i64.wrap ((i : Int) * (c : Int)) = (i : Int) * (c : Int) ∧ IntKind.i64.wrap ((i : Int) * (c : Int) + (j : Int)) = (P : Int)) := fun i hi => by
    have h1 : i * c + j < r * c := idx_lt hi hj
    have c1 : (i : Int) * (c : Int) = ((i * c : Nat) : Int) := (Int.natCast_mul _ _).symm
    refine ⟨i * c + j, rfl, by omega, IntWalk.i64_in _ (by rw [c1]; omega), ?_⟩
    rw [show (i : Int) * (c : Int) + (j : Int) = ((i * c + j : Nat) : Int) by rw [c1]; omega]
    exact IntWalk.i64_in _ (by omega)
  have BW : Hid (Below w.heap.size w (w.alloc (.cells #[.int .i64 r, .int .i64 c, .slice q N cap] 26))) := (Below.refl _ _).alloc (Nat.le_refl _) _
  have K0 : Hid (Blk3 (w.alloc (.cells #[.int .i64 r, .int .i64 c, .slice q N cap] 26)) w.heap.size 26 (.int .i64 r) (.int .i64 c) (.slice q N cap)) := Blk3.at_ _ _ _ _ rfl
  have CX : Hid (∀ i P, i < r → i * c + j = P → ∃ b o : Nat, q = some ⟨b, o, none⟩ ∧ (w.alloc (.cells #[.int .i64 r, .int .i64 c, .slice q N cap] 26)).cell? ⟨b, o + P, none⟩ = some (.int .i64 (mxC c xs i j))) := fun i P hi hP => by
    subst hP
    exact hg.rd.below BW.out _ (by rw [hl]; exact idx_lt hi hj)
  clear hN hx hl hg
  go_enter Tryz.func130, Tryz.ntmps130
  go_wp2_with fail
  generalize w.alloc (.cells #[.int .i64 r, .int .i64 c, .slice q N cap] 26) = W at BW K0 CX
  obtain ⟨p0, p1, p2, -, -, -⟩ := K0.out.all
  go_loopw [6, 7] (fun _ v7 wq => ∃ p : Nat, v7 = .int .i64 p ∧ t ≤ p ∧ p ≤ r ∧ (∀ i, t ≤ i → i < p → mxC c xs i j = 0) ∧ wq = W) (fun _ v7 _ => r - (intOf v7).toNat)
  case atStart => exact ⟨t, rfl, Nat.le_refl _, by omega, fun i h1 h2 => by omega, rfl⟩
  case round =>
    obtain ⟨p, rfl, hp1, hp2, hp0, rfl⟩ := hrel
    have P0 := Lib.hid hp0
    clear hp0
    by_cases hpn : p < r
    · obtain ⟨P, hP, hPN, u1, u2⟩ := IX.out p hpn
      have Pa : (0 : Int) ≤ (P : Int) := by omega
      have Pb : (P : Int) < (N : Int) := by omega
      obtain ⟨b, o, rfl, hcell⟩ := CX.out p P hpn hP
      obtain ⟨x, hxx⟩ : ∃ x, mxC c xs p j = x := ⟨_, rfl⟩
      have X := Lib.hid hxx
      rw [hxx] at hcell
      clear hxx hP
      by_cases h0 : x = 0
      · have n1 : (x != 0) = false := by simp [h0]
        have n2 : (x == 0) = true := by simp [h0]
        have P1 : Hid (∀ i, t ≤ i → i < p + 1 → mxC c xs i j = 0) := fun i h1 h2 => by
          rcases Nat.lt_or_ge i p with h3 | h3
          · exact P0.out i h1 h3
          · obtain rfl : i = p := by omega
            rw [X.out, h0]
        clear h0
        go_wp2_with fail
        go_roundw
        case rel => exact ⟨p + 1, by go_num, by omega, by omega, P1.out, trivial⟩
        case measure => simp [intOf]; omega
      · have n1 : (x != 0) = true := by simpa using h0
        have n2 : (x == 0) = false := by simpa using h0
        have PV : Hid (pvR r c j t xs = p) := by
          have e : fstR c j xs (r - t) t = p := fstR_eq hp1 (by omega) P0.out fun _ => by rw [X.out]; exact h0
          show pvR r c j t xs = p
          unfold pvR
          rw [e, if_neg (by omega)]
        clear h0
        go_wp2_with fail
        go_ret
        exact ⟨by rw [PV.out]; rfl, BW.out⟩
    · have hpe : p = r := by omega
      have PV : Hid (pvR r c j t xs = -1) := by
        show pvR r c j t xs = -1
        unfold pvR
        rw [if_pos ((fstR_eq hp1 (by omega) P0.out fun h => by omega).trans hpe)]
      clear hpe
      go_wp2_with fail
      go_ret
      exact ⟨by rw [PV.out]; rfl, BW.out⟩
end Go.Proofs.YtcapddcmnjeloaaGreatDoor
end

section
/-
  Chapter 3, in the program: a matrix that is handed on if it is valid.
-/
namespace Go.Proofs.YtcapddcmnjeloaaGreatDoor
open Go.RowKit
end Go.Proofs.YtcapddcmnjeloaaGreatDoor
end

section
/-
  Chapter 3, in the program: a fold whose closure writes into its value (MultiplyMatrices).
-/
namespace Go.Proofs.YtcapddcmnjeloaaGreatDoor
set_option maxRecDepth 100000
open Go.RowKit
theorem far_of {w : World} {a : Option Addr} {zs : List Int} {n : Nat} (h : Rd w a zs) (hn : zs.length = n) : ∀ b o : Nat, a = some ⟨b, o, none⟩ → 0 < n → b ≠ w.heap.size := by
  intro b o e hz
  obtain ⟨b', o', e', hc⟩ := h 0 (by omega)
  rw [e] at e'
  injection e' with e'
  injection e' with e1 e2
  have := World.block_lt_of_cell? w _ hc
  simp at this
  omega
end Go.Proofs.YtcapddcmnjeloaaGreatDoor
end

section
/-
  Chapter 7, in the program: two rows of any matrix swapped in place.
-/
namespace Go.Proofs.YtcapddcmnjeloaaGreatDoor
set_option maxRecDepth 100000
open Go.RowKit
theorem keepC {W : World} {b g : Nat} {p q v : Value} (h : W.cell? ⟨b, 0, none⟩ = some p ∧ W.cell? ⟨b, 1, none⟩ = some q ∧ W.cell? ⟨b, 2, none⟩ = some v) (hne : b ≠ g) (o : Nat) (u : Value) :
    (W.setCell ⟨g, o, none⟩ u).cell? ⟨b, 0, none⟩ = some p ∧ (W.setCell ⟨g, o, none⟩ u).cell? ⟨b, 1, none⟩ = some q ∧ (W.setCell ⟨g, o, none⟩ u).cell? ⟨b, 2, none⟩ = some v := by
  have e : ∀ k, (W.setCell ⟨g, o, none⟩ u).cell? ⟨b, k, none⟩ = W.cell? ⟨b, k, none⟩ := fun k => World.cell?_setCell_other W _ _ _ (fun e => hne (by injection e with e; exact e.symm))
  exact ⟨(e 0).trans h.1, (e 1).trans h.2.1, (e 2).trans h.2.2⟩
def swTo (p t c : Nat) (xs : List Int) (q : Nat) : List Int := if p = t then xs else opTo 0 p t 0 c xs q
theorem swTo_length (p t c : Nat) (xs : List Int) (q : Nat) : (swTo p t c xs q).length = xs.length := by
  unfold swTo
  split
  · rfl
  · exact opTo_length _ _ _ _ _ _ _
theorem swTo_zero (p t c : Nat) (xs : List Int) : swTo p t c xs 0 = xs := by
  unfold swTo
  split
  · rfl
  · exact opTo_zero _ _ _ _ _ _
theorem swTo_all {p t c : Nat} {xs : List Int} (h : 0 < c) : swTo p t c xs c = swC p t c xs := by
  unfold swTo swC
  split
  · rfl
  · exact opTo_all _ _ _ _ _ _ (.inr h)
theorem set_self (xs : List Int) (i : Nat) : xs.set i (xs.getD i 0) = xs := by
  rcases Nat.lt_or_ge i xs.length with h | h
  · simp [List.getD, h]
  · exact List.set_eq_of_length_le h
theorem swTo_step {r p t c q : Nat} {xs : List Int} (hx : xs.length = r * c) (hp : p < r) (ht : t < r) (hq : q < c) : ((swTo p t c xs q).set (p * c + q) (xs.getD (t * c + q) 0)).set (t * c + q) (xs.getD (p * c + q) 0) = swTo p t c xs (q + 1) := by
  unfold swTo
  by_cases e : p = t
  · rw [if_pos e, if_pos e, e, set_self, set_self]
  · rw [if_neg e, if_neg e]
    exact (op_swap p t 0 c r xs q hx hp ht hq).resolve_right e
theorem swTo_at {r p t c q i : Nat} {xs : List Int} (hx : xs.length = r * c) (hi : i < r) (hq : q < c) : (swTo p t c xs q).getD (i * c + q) 0 = xs.getD (i * c + q) 0 := by
  unfold swTo
  split
  · rfl
  · exact opTo_at _ _ _ _ _ _ _ _ hq (by rw [hx]; exact idx_lt hi hq)
set_option maxHeartbeats 2000000 in
theorem iSwR (r c p t N cap g : Nat) (xs : List Int) (w : World) (hN : N = r * c) (hx : xs.length = N) (hr : r ≤ 24) (hc : c ≤ 24) (hc0 : 0 < c) (hp : p < r) (ht : t < r) (hi : Ints w g xs) :
    Calls Tryz.prog 131 #[.agg #[.int .i64 r, .int .i64 c, .slice (some ⟨g, 0, none⟩) N cap], .int .i64 p, .int .i64 t] w (fun e w' => Void e ∧ Ints w' g (swC p t c xs) ∧ w.grownBy w' (some g)) := by
  have hle : r * c ≤ 24 * 24 := Nat.mul_le_mul hr hc
  rw [← hN] at hle
  have hl : xs.length = r * c := by rw [hx, hN]
  have SL : Hid (∀ q, (swTo p t c xs q).length = N) := fun q => by rw [swTo_length, hx]
  have SS : Hid (∀ q, q < c → ((swTo p t c xs q).set (p * c + q) (xs.getD (t * c + q) 0)).set (t * c + q) (xs.getD (p * c + q) 0) = swTo p t c xs (q + 1)) := fun q hq => swTo_step hl hp ht hq
  have SA : Hid (∀ i q, i < r → q < c → (swTo p t c xs q).getD (i * c + q) 0 = xs.getD (i * c + q) 0) := fun i q hi hq => swTo_at hl hi hq
  have SZ : Hid (swTo p t c xs 0 = xs) := swTo_zero _ _ _ _
  have SE : Hid (swTo p t c xs c = swC p t c xs) := swTo_all hc0
  have IL : Hid (∀ i q, i < r → q < c → i * c + q < N) := fun i q hi hq => by rw [hN]; exact idx_lt hi hq
  have lg := hi.lt
  have GW : Hid (w.grownBy (w.alloc (.cells #[.int .i64 r, .int .i64 c, .slice (some ⟨g, 0, none⟩) N cap] 26)) (some g)) := World.grownBy_alloc _ _ _
  have K0 : Hid (Blk3 (w.alloc (.cells #[.int .i64 r, .int .i64 c, .slice (some ⟨g, 0, none⟩) N cap] 26)) w.heap.size 26 (.int .i64 r) (.int .i64 c) (.slice (some ⟨g, 0, none⟩) N cap)) := Blk3.at_ _ _ _ _ rfl
  have I := Lib.hid (hi.old (.cells #[.int .i64 r, .int .i64 c, .slice (some ⟨g, 0, none⟩) N cap] 26))
  clear hN hx hi hl
  go_enter Tryz.func131, Tryz.ntmps131
  go_wp2_with fail
  generalize w.alloc (.cells #[.int .i64 r, .int .i64 c, .slice (some ⟨g, 0, none⟩) N cap] 26) = W at GW K0 I
  obtain ⟨z0, z1, z2, -, -, -⟩ := K0.out.all
  go_loopw [6, 7, 8, 11] (fun _ _ _ v11 wr => ∃ q : Nat, v11 = .int .i64 q ∧ q ≤ c ∧ Ints wr g (swTo p t c xs q) ∧ W.grownBy wr (some g)) (fun _ _ _ v11 _ => c - (intOf v11).toNat)
  case atStart => exact ⟨0, rfl, by omega, by rw [SZ.out]; exact I.out, World.grownBy.refl _ _⟩
  case round =>
    clear z0 z1 z2
    obtain ⟨q, rfl, hq, hi, hgr⟩ := hrel
    have I := Lib.hid hi
    have G := Lib.hid hgr
    clear hi hgr
    have R0 := Lib.hid (K0.out.keepOne G.out (by omega))
    obtain ⟨r0, r1, r2, -, -, -⟩ := R0.out.all
    by_cases hlt : q < c
    · have ja := IL.out p q hp hlt
      have jb := IL.out t q ht hlt
      have ca : (p : Int) * (c : Int) = ((p * c : Nat) : Int) := (Int.natCast_mul _ _).symm
      have cb : (t : Int) * (c : Int) = ((t * c : Nat) : Int) := (Int.natCast_mul _ _).symm
      obtain ⟨A, hA⟩ : ∃ A, p * c + q = A := ⟨_, rfl⟩
      obtain ⟨C, hC⟩ : ∃ C, t * c + q = C := ⟨_, rfl⟩
      have va0 : IntKind.i64.wrap ((p : Int) * (c : Int)) = (p : Int) * (c : Int) := IntWalk.i64_in _ (by rw [ca]; omega)
      have va1 : IntKind.i64.wrap ((p : Int) * (c : Int) + (q : Int)) = (A : Int) := by
        rw [show (p : Int) * (c : Int) + (q : Int) = (A : Int) by rw [ca, ← hA]; omega]
        exact IntWalk.i64_in _ (by omega)
      have vb0 : IntKind.i64.wrap ((t : Int) * (c : Int)) = (t : Int) * (c : Int) := IntWalk.i64_in _ (by rw [cb]; omega)
      have vb1 : IntKind.i64.wrap ((t : Int) * (c : Int) + (q : Int)) = (C : Int) := by
        rw [show (t : Int) * (c : Int) + (q : Int) = (C : Int) by rw [cb, ← hC]; omega]
        exact IntWalk.i64_in _ (by omega)
      have a0 : (0 : Int) ≤ (A : Int) := by omega
      have a1 : (A : Int) < (N : Int) := by omega
      have b0 : (0 : Int) ≤ (C : Int) := by omega
      have b1 : (C : Int) < (N : Int) := by omega
      have s0 := SS.out q hlt
      have oa := SA.out p q hp hlt
      have ob := SA.out t q ht hlt
      rw [hA] at oa s0
      rw [hC] at ob s0
      have h1 := I.out.cell (i := A) (by rw [SL.out]; omega)
      have h2 := I.out.cell (i := C) (by rw [SL.out]; omega)
      rw [oa] at h1
      rw [ob] at h2
      obtain ⟨x, hxx⟩ : ∃ x, xs.getD A 0 = x := ⟨_, rfl⟩
      obtain ⟨y, hyy⟩ : ∃ y, xs.getD C 0 = y := ⟨_, rfl⟩
      rw [hxx, hyy] at s0
      rw [hxx] at h1
      rw [hyy] at h2
      have S0 := Lib.hid s0
      have OY : Hid (A = C → x = y) := fun h => by rw [← hxx, ← hyy, h]
      have f1 := I.out.free A
      have C36 : C < N := by omega
      clear ca cb hA hC s0 oa ob hxx hyy ja jb
      go_wp2_with fail
      go_quiet (fail)
      have I := Lib.hid (I.out.drewN nq)
      have G := Lib.hid (grown_drewN_one G.out nq)
      have ng : w.heap.size ≠ g := by omega
      replace h1 : (wr.drewN nq).cell? ⟨g, A, none⟩ = some (.int .i64 x) := h1
      replace h2 : (wr.drewN nq).cell? ⟨g, C, none⟩ = some (.int .i64 y) := h2
      replace f1 : (wr.drewN nq).frozen? ⟨g, A, none⟩ = false := f1
      replace r0 : (wr.drewN nq).cell? ⟨w.heap.size, 0, none⟩ = some (.int .i64 r) := r0
      replace r1 : (wr.drewN nq).cell? ⟨w.heap.size, 1, none⟩ = some (.int .i64 c) := r1
      replace r2 : (wr.drewN nq).cell? ⟨w.heap.size, 2, none⟩ = some (.slice (some ⟨g, 0, none⟩) N cap) := r2
      generalize wr.drewN nq = wd at I G h1 h2 f1 r0 r1 r2
      go_upto_region 5 with fail
      have hS := Lib.hid (show wd.drew.cell? ⟨w.heap.size, 0, none⟩ = some (.int .i64 r) ∧ wd.drew.cell? ⟨w.heap.size, 1, none⟩ = some (.int .i64 c) ∧ wd.drew.cell? ⟨w.heap.size, 2, none⟩ = some (.slice (some ⟨g, 0, none⟩) N cap) from ⟨r0, r1, r2⟩)
      have G := Lib.hid (grown_drew_one G.out)
      have ID := I.out.drew
      have IS := ID.set A y
      have f2 := IS.free C
      have h3 := IS.cell (i := C) (by rw [List.length_set, SL.out]; omega)
      have IS2 := Lib.hid (IS.set C x)
      replace h1 : wd.drew.cell? ⟨g, A, none⟩ = some (.int .i64 x) := h1
      replace h2 : wd.drew.cell? ⟨g, C, none⟩ = some (.int .i64 y) := h2
      replace f1 : wd.drew.frozen? ⟨g, A, none⟩ = false := f1
      clear r0 r1 r2 I ID IS
      refine wp_region_held_drew (S := fun w' => w'.cell? ⟨w.heap.size, 0, none⟩ = some (.int .i64 r) ∧ w'.cell? ⟨w.heap.size, 1, none⟩ = some (.int .i64 c) ∧ w'.cell? ⟨w.heap.size, 2, none⟩ = some (.slice (some ⟨g, 0, none⟩) N cap)) (by kernel_rfl) hS.out (fun hH => ?_)
      (try dsimp only at hH)
      generalize wd.drew = we at hS G f2 h3 IS2 h1 h2 f1 hH ⊢
      refine wpAnyH_take (i := 0) (v := ?_) (by simp only [List.getElem?_toArray, List.getElem?_cons_zero]; rfl) (by kernel_rfl) (by kernel_rfl) (by kernel_rfl) (by exact fun _ _ _ h => h) (Or.inl ⟨by rfl, ?_⟩) hH ?_
      rotate_left
      · (intro wS hS; clear hS; go_simp; try rfl)
      try simp only [Act.put, List.setIfInBounds_toArray, List.set_cons_zero, List.set_cons_succ]
      refine wpAnyH_take (i := 1) (v := ?_) (by simp only [List.getElem?_toArray, List.getElem?_cons_succ, List.getElem?_cons_zero]; rfl) (by kernel_rfl) (by kernel_rfl) (by kernel_rfl) (by exact fun _ _ _ h => h) (Or.inl ⟨by rfl, ?_⟩) hH ?_
      rotate_left
      · (intro wS hS; (try dsimp only at hS); obtain ⟨k0, k1, k2⟩ := hS; go_simp; try rfl)
      try simp only [Act.put, List.setIfInBounds_toArray, List.set_cons_zero, List.set_cons_succ]
      refine wpAnyH_take (i := 2) (v := ?_) (by simp only [List.getElem?_toArray, List.getElem?_cons_succ, List.getElem?_cons_zero]; rfl) (by kernel_rfl) (by kernel_rfl) (by kernel_rfl) (by exact fun _ _ _ h => h) (Or.inl ⟨by rfl, ?_⟩) hH ?_
      rotate_left
      · (intro wS hS; clear hS; go_simp; try rfl)
      try simp only [Act.put, List.setIfInBounds_toArray, List.set_cons_zero, List.set_cons_succ]
      refine wpAnyH_take (i := 3) (v := ?_) (by simp only [List.getElem?_toArray, List.getElem?_cons_succ, List.getElem?_cons_zero]; rfl) (by kernel_rfl) (by kernel_rfl) (by kernel_rfl) (by exact fun _ _ _ h => h) (Or.inl ⟨by rfl, ?_⟩) hH ?_
      rotate_left
      · (intro wS hS; clear hS; go_simp; try rfl)
      try simp only [Act.put, List.setIfInBounds_toArray, List.set_cons_zero, List.set_cons_succ]
      refine wpAnyH_take (i := 4) (v := ?_) (by simp only [List.getElem?_toArray, List.getElem?_cons_succ, List.getElem?_cons_zero]; rfl) (by kernel_rfl) (by kernel_rfl) (by kernel_rfl) (by exact fun _ _ _ h => h) (Or.inl ⟨by rfl, ?_⟩) hH ?_
      rotate_left
      · (intro wS hS; (try dsimp only at hS); obtain ⟨k0, k1, k2⟩ := hS; go_simp; try rfl)
      try simp only [Act.put, List.setIfInBounds_toArray, List.set_cons_zero, List.set_cons_succ]
      refine wpAnyH_take (i := 5) (v := ?_) (by simp only [List.getElem?_toArray, List.getElem?_cons_succ, List.getElem?_cons_zero]; rfl) (by kernel_rfl) (by kernel_rfl) (by kernel_rfl) (by exact fun _ _ _ h => h) (Or.inl ⟨by rfl, ?_⟩) hH ?_
      rotate_left
      · (intro wS hS; clear hS; go_simp; try rfl)
      try simp only [Act.put, List.setIfInBounds_toArray, List.set_cons_zero, List.set_cons_succ]
      refine wpAnyH_take (i := 6) (v := ?_) (by simp only [List.getElem?_toArray, List.getElem?_cons_succ, List.getElem?_cons_zero]; rfl) (by kernel_rfl) (by kernel_rfl) (by kernel_rfl) (by exact fun _ _ _ h => h) (Or.inl ⟨by rfl, ?_⟩) hH ?_
      rotate_left
      · (intro wS hS; clear hS; go_simp; try rfl)
      try simp only [Act.put, List.setIfInBounds_toArray, List.set_cons_zero, List.set_cons_succ]
      refine wpAnyH_take (i := 7) (v := ?_) (by simp only [List.getElem?_toArray, List.getElem?_cons_succ, List.getElem?_cons_zero]; rfl) (by kernel_rfl) (by kernel_rfl) (by kernel_rfl) (by exact fun _ _ _ h => h) (Or.inl ⟨by rfl, ?_⟩) hH ?_
      rotate_left
      · (intro wS hS; (try dsimp only at hS); obtain ⟨k0, k1, k2⟩ := hS; go_simp; try rfl)
      try simp only [Act.put, List.setIfInBounds_toArray, List.set_cons_zero, List.set_cons_succ]
      refine wpAnyH_take (i := 8) (v := ?_) (by simp only [List.getElem?_toArray, List.getElem?_cons_succ, List.getElem?_cons_zero]; rfl) (by kernel_rfl) (by kernel_rfl) (by kernel_rfl) (by exact fun _ _ _ h => h) (Or.inl ⟨by rfl, ?_⟩) hH ?_
      rotate_left
      · (intro wS hS; clear hS; go_simp; try rfl)
      try simp only [Act.put, List.setIfInBounds_toArray, List.set_cons_zero, List.set_cons_succ]
      refine wpAnyH_take (i := 9) (v := ?_) (by simp only [List.getElem?_toArray, List.getElem?_cons_succ, List.getElem?_cons_zero]; rfl) (by kernel_rfl) (by kernel_rfl) (by kernel_rfl) (by exact fun _ _ _ h => h) (Or.inl ⟨by rfl, ?_⟩) hH ?_
      rotate_left
      · (intro wS hS; (try dsimp only at hS); obtain ⟨k0, k1, k2⟩ := hS; go_simp; try rfl)
      try simp only [Act.put, List.setIfInBounds_toArray, List.set_cons_zero, List.set_cons_succ]
      refine wpAnyH_take (i := 11) (v := ?_) (by simp only [List.getElem?_toArray, List.getElem?_cons_succ, List.getElem?_cons_zero]; rfl) (by kernel_rfl) (by kernel_rfl) (by kernel_rfl) (by exact fun _ _ _ h => h) (Or.inl ⟨by rfl, ?_⟩) hH ?_
      rotate_left
      · (intro wS hS; clear hS; go_simp; try rfl)
      try simp only [Act.put, List.setIfInBounds_toArray, List.set_cons_zero, List.set_cons_succ]
      refine wpAnyH_take (i := 12) (v := ?_) (by simp only [List.getElem?_toArray, List.getElem?_cons_succ, List.getElem?_cons_zero]; rfl) (by kernel_rfl) (by kernel_rfl) (by kernel_rfl) (by exact fun _ _ _ h => h) (Or.inl ⟨by rfl, ?_⟩) hH ?_
      rotate_left
      · (intro wS hS; (try dsimp only at hS); obtain ⟨k0, k1, k2⟩ := hS; go_simp; try rfl)
      try simp only [Act.put, List.setIfInBounds_toArray, List.set_cons_zero, List.set_cons_succ]
      refine wpAnyH_take (i := 13) (v := ?_) (by simp only [List.getElem?_toArray, List.getElem?_cons_succ, List.getElem?_cons_zero]; rfl) (by kernel_rfl) (by kernel_rfl) (by kernel_rfl) (by exact fun _ _ _ h => h) (Or.inl ⟨by rfl, ?_⟩) hH ?_
      rotate_left
      · (intro wS hS; clear hS; go_simp; try rfl)
      try simp only [Act.put, List.setIfInBounds_toArray, List.set_cons_zero, List.set_cons_succ]
      refine wpAnyH_take (i := 14) (v := ?_) (by simp only [List.getElem?_toArray, List.getElem?_cons_succ, List.getElem?_cons_zero]; rfl) (by kernel_rfl) (by kernel_rfl) (by kernel_rfl) (by exact fun _ _ _ h => h) (Or.inl ⟨by rfl, ?_⟩) hH ?_
      rotate_left
      · (intro wS hS; (try dsimp only at hS); obtain ⟨k0, k1, k2⟩ := hS; go_simp; try rfl)
      try simp only [Act.put, List.setIfInBounds_toArray, List.set_cons_zero, List.set_cons_succ]
      refine wpAnyH_ready (rs := [10, 15]) (by kernel_rfl) (by simp) ?_
      refine AllReadyH.cons (by simp only [List.getElem?_toArray, List.getElem?_cons_succ, List.getElem?_cons_zero]; rfl) (fun KK hKK => ?_) (AllReadyH.cons (by simp only [List.getElem?_toArray, List.getElem?_cons_succ, List.getElem?_cons_zero]; rfl) (fun KK hKK => ?_) AllReadyH.nil)
      · go_simp
        try dsimp only
        refine hKK.out _ _ ?_ (fun hH2 => ?_)
        · exact hH
        clear hKK KK
        have hO := hH
        clear hH
        have hH := hH2
        clear hH2
        try simp only [Act.put, List.setIfInBounds_toArray, List.set_cons_zero, List.set_cons_succ]
        refine wpAnyH_ready (rs := [15]) (by kernel_rfl) (by simp) ?_
        refine AllReadyH.cons (by simp only [List.getElem?_toArray, List.getElem?_cons_succ, List.getElem?_cons_zero]; rfl) (fun KK hKK => ?_) AllReadyH.nil
        go_simp
        try dsimp only
        refine hKK.out _ _ ?_ (fun hH2 => ?_)
        · exact hH
        clear hKK KK
        have hO := hH
        clear hH
        have hH := hH2
        clear hH2
        try simp only [Act.put, List.setIfInBounds_toArray, List.set_cons_zero, List.set_cons_succ]
        refine wpAnyH_take (i := 16) (v := ?_) (by simp only [List.getElem?_toArray, List.getElem?_cons_succ, List.getElem?_cons_zero]; rfl) (by kernel_rfl) (by kernel_rfl) (by kernel_rfl) (by exact fun _ _ _ h => h) (Or.inl ⟨by rfl, ?_⟩) hH ?_
        rotate_left
        · (intro wS hS; (try dsimp only at hS); obtain ⟨k0, k1, k2⟩ := hS; go_simp; try rfl)
        try simp only [Act.put, List.setIfInBounds_toArray, List.set_cons_zero, List.set_cons_succ]
        refine wpAnyH_ready (rs := [17]) (by kernel_rfl) (by simp) ?_
        refine AllReadyH.cons (by simp only [List.getElem?_toArray, List.getElem?_cons_succ, List.getElem?_cons_zero]; rfl) (fun KK hKK => ?_) AllReadyH.nil
        go_simp
        try dsimp only
        refine hKK.out _ _ ?_ (fun hH2 => ?_)
        · exact keepC hH ng _ _
        clear hKK KK
        have hO := hH
        clear hH
        have hH := hH2
        clear hH2
        try simp only [Act.put, List.setIfInBounds_toArray, List.set_cons_zero, List.set_cons_succ]
        refine wpAnyH_take (i := 18) (v := ?_) (by simp only [List.getElem?_toArray, List.getElem?_cons_succ, List.getElem?_cons_zero]; rfl) (by kernel_rfl) (by kernel_rfl) (by kernel_rfl) (by exact fun _ _ _ h => h) (Or.inl ⟨by rfl, ?_⟩) hH ?_
        rotate_left
        · (intro wS hS; (try dsimp only at hS); obtain ⟨k0, k1, k2⟩ := hS; go_simp; try rfl)
        try simp only [Act.put, List.setIfInBounds_toArray, List.set_cons_zero, List.set_cons_succ]
        refine wpAnyH_ready (rs := [19]) (by kernel_rfl) (by simp) ?_
        refine AllReadyH.cons (by simp only [List.getElem?_toArray, List.getElem?_cons_succ, List.getElem?_cons_zero]; rfl) (fun KK hKK => ?_) AllReadyH.nil
        go_simp
        try dsimp only
        refine hKK.out _ _ ?_ (fun hH2 => ?_)
        · exact keepC hH ng _ _
        clear hKK KK
        have hO := hH
        clear hH
        have hH := hH2
        clear hH2
        try simp only [Act.put, List.setIfInBounds_toArray, List.set_cons_zero, List.set_cons_succ]
        refine wpAnyH_done (by kernel_rfl) ?_ _
        go_wp2_with fail
        go_roundw
        case rel => exact ⟨q + 1, by go_num, by omega, by rw [← S0.out]; exact IS2.out, grown_set_one (a := ⟨g, C, none⟩) (grown_set_one (a := ⟨g, A, none⟩) G.out rfl _) rfl _⟩
        case measure => simp [intOf]; omega
      · go_simp
        try dsimp only
        refine hKK.out _ _ ?_ (fun hH2 => ?_)
        · exact hH
        clear hKK KK
        have hO := hH
        clear hH
        have hH := hH2
        clear hH2
        try simp only [Act.put, List.setIfInBounds_toArray, List.set_cons_zero, List.set_cons_succ]
        refine wpAnyH_ready (rs := [10]) (by kernel_rfl) (by simp) ?_
        refine AllReadyH.cons (by simp only [List.getElem?_toArray, List.getElem?_cons_succ, List.getElem?_cons_zero]; rfl) (fun KK hKK => ?_) AllReadyH.nil
        go_simp
        try dsimp only
        refine hKK.out _ _ ?_ (fun hH2 => ?_)
        · exact hH
        clear hKK KK
        have hO := hH
        clear hH
        have hH := hH2
        clear hH2
        try simp only [Act.put, List.setIfInBounds_toArray, List.set_cons_zero, List.set_cons_succ]
        refine wpAnyH_take (i := 16) (v := ?_) (by simp only [List.getElem?_toArray, List.getElem?_cons_succ, List.getElem?_cons_zero]; rfl) (by kernel_rfl) (by kernel_rfl) (by kernel_rfl) (by exact fun _ _ _ h => h) (Or.inl ⟨by rfl, ?_⟩) hH ?_
        rotate_left
        · (intro wS hS; (try dsimp only at hS); obtain ⟨k0, k1, k2⟩ := hS; go_simp; try rfl)
        try simp only [Act.put, List.setIfInBounds_toArray, List.set_cons_zero, List.set_cons_succ]
        refine wpAnyH_ready (rs := [17]) (by kernel_rfl) (by simp) ?_
        refine AllReadyH.cons (by simp only [List.getElem?_toArray, List.getElem?_cons_succ, List.getElem?_cons_zero]; rfl) (fun KK hKK => ?_) AllReadyH.nil
        go_simp
        try dsimp only
        refine hKK.out _ _ ?_ (fun hH2 => ?_)
        · exact keepC hH ng _ _
        clear hKK KK
        have hO := hH
        clear hH
        have hH := hH2
        clear hH2
        try simp only [Act.put, List.setIfInBounds_toArray, List.set_cons_zero, List.set_cons_succ]
        refine wpAnyH_take (i := 18) (v := ?_) (by simp only [List.getElem?_toArray, List.getElem?_cons_succ, List.getElem?_cons_zero]; rfl) (by kernel_rfl) (by kernel_rfl) (by kernel_rfl) (by exact fun _ _ _ h => h) (Or.inl ⟨by rfl, ?_⟩) hH ?_
        rotate_left
        · (intro wS hS; (try dsimp only at hS); obtain ⟨k0, k1, k2⟩ := hS; go_simp; try rfl)
        try simp only [Act.put, List.setIfInBounds_toArray, List.set_cons_zero, List.set_cons_succ]
        refine wpAnyH_ready (rs := [19]) (by kernel_rfl) (by simp) ?_
        refine AllReadyH.cons (by simp only [List.getElem?_toArray, List.getElem?_cons_succ, List.getElem?_cons_zero]; rfl) (fun KK hKK => ?_) AllReadyH.nil
        go_simp
        try dsimp only
        refine hKK.out _ _ ?_ (fun hH2 => ?_)
        · exact keepC hH ng _ _
        clear hKK KK
        have hO := hH
        clear hH
        have hH := hH2
        clear hH2
        try simp only [Act.put, List.setIfInBounds_toArray, List.set_cons_zero, List.set_cons_succ]
        refine wpAnyH_done (by kernel_rfl) ?_ _
        go_wp2_with fail
        go_roundw
        case rel => exact ⟨q + 1, by go_num, by omega, by rw [← S0.out]; exact IS2.out, grown_set_one (a := ⟨g, C, none⟩) (grown_set_one (a := ⟨g, A, none⟩) G.out rfl _) rfl _⟩
        case measure => simp [intOf]; omega
    · obtain rfl : c = q := by omega
      clear hlt
      go_wp2_with fail
      go_end0
      exact ⟨rfl, by rw [← SE.out]; exact I.out, GW.out.trans G.out⟩
end Go.Proofs.YtcapddcmnjeloaaGreatDoor
end

section
/-
  Chapter 7, in the program: a row without its cell in the pivot's column.
-/
namespace Go.Proofs.YtcapddcmnjeloaaGreatDoor
set_option maxRecDepth 100000
open Go.RowKit
end Go.Proofs.YtcapddcmnjeloaaGreatDoor
end

section
/-
  Chapter 7, in the program: the elimination.
-/
namespace Go.Proofs.YtcapddcmnjeloaaGreatDoor
set_option maxRecDepth 100000
open Go.RowKit
end Go.Proofs.YtcapddcmnjeloaaGreatDoor
end

section
/-
  Chapter 8, in the program: the elimination over residues.
-/
namespace Go.Proofs.YtcapddcmnjeloaaGreatDoor
set_option maxRecDepth 100000
open Go.RowKit
structure EmSt (w : World) (b r c N cap g : Nat) (q : Option Addr) (ys : List Int) (wr : World) : Prop where
  blk : Blk3 wr b 26 (.int .i64 r) (.int .i64 c) (.slice q N cap)
  cel : Cel wr q N cap g ys
  gro : w.grownBy wr (Value.slice q N cap).ownBlock
theorem EmSt.below {w : World} {b r c N cap g : Nat} {q : Option Addr} {ys : List Int} {wr w' : World} (h : EmSt w b r c N cap g q ys wr) (hb : Below wr.heap.size wr w') : EmSt w b r c N cap g q ys w' :=
  ⟨h.blk.step hb, h.cel.keep hb, h.gro.trans (grown_of_below hb _)⟩
theorem EmSt.one {w : World} {b r c N cap g : Nat} {ys ys' : List Int} {wr w' : World} (h : EmSt w b r c N cap g (some ⟨g, 0, none⟩) ys wr) (hl : ys'.length = N) (hi : Ints w' g ys') (hg : wr.grownBy w' (some g)) (hb : b ≠ g) : EmSt w b r c N cap g (some ⟨g, 0, none⟩) ys' w' :=
  ⟨h.blk.keepOne hg hb, .inr ⟨rfl, h.cel.le, hl, hi⟩, h.gro.trans hg⟩
theorem clP_clear {p : Int} {r c t j l i : Nat} {us : List Int} (hx : us.length = r * c) (hcan : CanL p us) (hi : i < r) (hit : i ≠ t) : clP p r c t j (l + 1) i us = clP p r c t j l (i + 1) (rowL r c i (lsV p (mxC c us i j) (mxC c us i) (mxC c us t)) us) := by
  by_cases h0 : mxC c us i j = 0
  · rw [clP_skip (.inr h0), h0]
    congr 1
    refine (rowL_self hx fun _ k hk => ?_).symm
    obtain ⟨h1, h2⟩ := hcan.mx hx hi hk
    show (mxC c us i k - 0 * mxC c us t k) % p = mxC c us i k
    rw [Int.zero_mul, Int.sub_zero]
    exact Int.emod_eq_of_lt h1 h2
  · exact clP_on (fun h => h.elim hit h0)
theorem elP_full {p : Int} {r c k j : Nat} {xs : List Int} {pv : List Nat} {d : Int} (h : ¬ pv.length < r) : elP p r c (k + 1) j xs pv d = elP p r c k (j + 1) xs pv d := by rw [elP_end h, elP_end h]
theorem prod_pos {p d x : Int} (hp : Prm p) (d0 : 0 < d) (d1 : d < p) (x0 : 0 < x) (x1 : x < p) : 0 < (d * x) % p := by
  have h1 := Int.emod_nonneg (d * x) (show p ≠ 0 by omega)
  rcases Int.lt_or_eq_of_le h1 with h | h
  · exact h
  · rcases hp.mul (Int.dvd_of_emod_eq_zero h.symm) with h2 | h2
    · have := Int.le_of_dvd d0 h2; omega
    · have := Int.le_of_dvd x0 h2; omega
theorem neg_mod {p d : Int} (d0 : 0 < d) (d1 : d < p) : (-d) % p = p - d := by
  rw [show -d = (p - d) + p * (-1) by grind, Int.add_mul_emod_self_left]
  exact Int.emod_eq_of_lt (by omega) (by omega)
set_option maxHeartbeats 4000000 in
theorem iElim (r c n N cap g : Nat) (q : Option Addr) (p : Int) (xs : List Int) (w : World) (hN : N = r * c) (hr : r ≤ 24) (hc : c ≤ 24) (hnc : n ≤ c) (hp : prmB p = true) (hcan : CanL p xs) (hi : Cel w q N cap g xs) :
    Calls Tryz.prog 107 #[.agg #[.int .i64 r, .int .i64 c, .slice q N cap], .int .i64 n, .int .i64 p] w (fun e w' => e = .returned (.tuple #[.int .i64 ((elP p r c n 0 xs [] 1).2.1.length : Int), .int .i64 (elP p r c n 0 xs [] 1).2.2]) ∧ Cel w' q N cap g (elP p r c n 0 xs [] 1).1 ∧ w.grownBy w' (Value.slice q N cap).ownBlock) := by
  have hle : r * c ≤ 24 * 24 := Nat.mul_le_mul hr hc
  rw [← hN] at hle
  obtain ⟨pp, hp2⟩ := prmB_says hp
  have hp1 := pp.1
  have np : ¬ p = 0 := by omega
  have PP := Lib.hid pp
  have PB := Lib.hid hp
  have DL : Hid (∀ i, i < r → i * c + c ≤ N) := fun i hi => by rw [hN, ← Nat.succ_mul]; exact Nat.mul_le_mul_right _ hi
  have bne : ∀ g', q = some ⟨g', 0, none⟩ → 0 < N → w.heap.size ≠ g' := fun g' e h0 => by
    obtain ⟨e2, hI⟩ := hi.ints h0
    rw [e] at e2
    injection e2 with e2
    injection e2 with e2
    have := hI.lt
    omega
  have BN := Lib.hid bne
  obtain ⟨RES, hRES⟩ : ∃ RES, elP p r c n 0 xs [] 1 = RES := ⟨_, rfl⟩
  have HR := Lib.hid hRES
  rw [hRES]
  have HN := Lib.hid hN
  have CX := Lib.hid hcan
  have S0 : Hid (EmSt w w.heap.size r c N cap g q xs (w.alloc (.cells #[.int .i64 r, .int .i64 c, .slice q N cap] 26))) := ⟨Blk3.at_ _ _ _ _ rfl, hi.keep ((Below.refl _ _).alloc (Nat.le_refl _) _), World.grownBy_alloc w _ _⟩
  obtain ⟨b, hb⟩ : ∃ b, w.heap.size = b := ⟨_, rfl⟩
  have HB := Lib.hid hb
  clear hN hcan pp hRES hp hi bne hb
  go_enter Tryz.func107, Tryz.ntmps107
  go_upto_region 1 with fail
  rw [HB.out] at S0 BN ⊢
  generalize w.alloc (.cells #[.int .i64 r, .int .i64 c, .slice q N cap] 26) = W at S0 ⊢
  go_wp2_with fail
  go_loopw [8, 9, 10, 11, 12, 13, 15, 54] (fun v8 v9 _ _ _ _ v15 _ wr => ∃ (j k : Nat) (ys : List Int) (pv : List Nat) (d : Int), v8 = .int .i64 (pv.length : Int) ∧ v9 = .int .i64 d ∧ v15 = .int .i64 j ∧ j + k = n ∧ CanL p ys ∧ pv.length ≤ r ∧ 0 < d ∧ d < p ∧ elP p r c k j ys pv d = RES ∧ EmSt w b r c N cap g q ys wr) (fun _ _ _ _ _ _ v15 _ _ => n - (intOf v15).toNat)
  case atStart => exact ⟨0, n, xs, [], 1, rfl, rfl, rfl, by omega, CX.out, by simp, by omega, by omega, HR.out, S0.out⟩
  case round =>
    clear S0 HR CX HB
    obtain ⟨j, k, ys, pv, d, rfl, rfl, rfl, hjk, hn, hpv, hd0, hd1, hR, hst⟩ := hrel
    have ST := Lib.hid hst
    have HY := Lib.hid hn
    have HR := Lib.hid hR
    have HL := Lib.hid hst.cel.len
    clear hst hn hR
    obtain ⟨t, ht⟩ : ∃ t, pv.length = t := ⟨_, rfl⟩
    have PT := Lib.hid ht
    rw [ht] at hpv ⊢
    clear ht
    obtain ⟨p0, p1, p2, -, -, -⟩ := ST.out.blk.all
    by_cases hjn : j < n
    · have hjc : j < c := by omega
      obtain ⟨k, rfl⟩ : ∃ k', k = k' + 1 := ⟨k - 1, by omega⟩
      obtain ⟨f1, f2, f3, f4⟩ := fstR_says (c := c) (j := j) (xs := ys) (k := r - t) (p := t)
      go_wp2_with fail
      refine (iPivR r c t j N cap g q ys _ HN.out hr hc hpv hjc ST.out.cel).mono ?_
      rintro e w5 ⟨rfl, hb5⟩
      have ST := Lib.hid (ST.out.below hb5)
      clear hb5 p0 p1 p2
      by_cases hf : fstR c j ys (r - t) t = r
      · have n1 : pvR r c j t ys = -1 := if_pos hf
        have HE : Hid (elP p r c k (j + 1) ys pv d = RES) := by
          have h1 := HR.out
          by_cases htl : t < r
          · rw [elP_skip (by rw [PT.out]; exact htl) (by rw [PT.out]; exact hf)] at h1
            exact h1
          · rw [elP_full (by rw [PT.out]; exact htl)] at h1
            exact h1
        rw [n1]
        clear n1 hf f1 f2 f3 f4
        go_wp2_with fail
        go_roundw
        case rel => exact ⟨j + 1, k, ys, pv, d, by rw [PT.out], rfl, by go_num, by omega, HY.out, by rw [PT.out]; exact hpv, hd0, hd1, HE.out, ST.out⟩
        case measure => simp [intOf]; omega
      · have n1 : pvR r c j t ys = (fstR c j ys (r - t) t : Int) := if_neg hf
        obtain ⟨s, hs⟩ : ∃ s, fstR c j ys (r - t) t = s := ⟨_, rfl⟩
        rw [hs] at n1 hf f1 f2 f3 f4
        have hsr : s < r := by omega
        have htl : t < r := by omega
        have N0 : 0 < N := by have := DL.out t htl; omega
        have FS : Hid (fstR c j ys (r - pv.length) pv.length = s) := by show _ = _; rw [PT.out]; exact hs
        obtain ⟨rfl, hI⟩ := ST.out.cel.ints N0
        have II := Lib.hid hI
        have bg : b ≠ g := BN.out g rfl N0
        have ZL : Hid ((swC s t c ys).length = N) := by show _ = _; rw [swC_length, HL.out]
        have ZC : Hid (CanL p (swC s t c ys)) := HY.out.sw (by rw [HL.out, HN.out]) hsr htl
        have x0 : mxC c (swC s t c ys) t j ≠ 0 := by
          rw [swC_at (by rw [HL.out, HN.out]) htl hjc]
          by_cases e : t = s
          · rw [if_pos e, e]; exact f4 (by omega)
          · rw [if_neg e, if_pos rfl]; exact f4 (by omega)
        obtain ⟨x1, x2⟩ := ZC.out.mx (by rw [ZL.out, HN.out]) htl hjc
        have EO : Hid (elP p r c k (j + 1) (clP p r c t j r 0 (rowL r c t (scV p (invF p (mxC c (swC s t c ys) t j)) (mxC c (swC s t c ys) t)) (swC s t c ys))) (pv ++ [j]) (((if s = t then d else (-d) % p) * mxC c (swC s t c ys) t j) % p) = RES) := by
          have h1 := HR.out
          rw [elP_on (s := s) (by rw [PT.out]; exact htl) FS.out (by omega), PT.out] at h1
          exact h1
        have SN : Hid (s = t → ys = swC s t c ys) := fun h => by unfold swC; rw [if_pos h]
        have n2 : decide ((s : Int) < 0) = false := decide_eq_false (by omega)
        obtain ⟨x, hx⟩ : ∃ x, mxC c (swC s t c ys) t j = x := ⟨_, rfl⟩
        have X := Lib.hid hx
        rw [hx] at x0 x1 x2 EO
        obtain ⟨d2, hd2⟩ : ∃ d2, (if s = t then d else (-d) % p) = d2 := ⟨_, rfl⟩
        have D2 := Lib.hid hd2
        rw [hd2] at EO
        have d20 : 0 < d2 ∧ d2 < p := by
          rw [← hd2]
          split
          · exact ⟨hd0, hd1⟩
          · rw [neg_mod hd0 hd1]; omega
        obtain ⟨d21, d22⟩ := d20
        have DP := Lib.hid (prod_pos PP.out d21 d22 (by omega) x2)
        have SWC : Hid (∀ w', Ints w' g ys → Calls Tryz.prog 131 #[.agg #[.int .i64 r, .int .i64 c, .slice (some ⟨g, 0, none⟩) N cap], .int .i64 s, .int .i64 t] w' (fun e w2 => Void e ∧ Ints w2 g (swC s t c ys) ∧ w'.grownBy w2 (some g))) := fun w' hi' => iSwR r c s t N cap g ys w' HN.out HL.out hr hc (by omega) hsr htl hi'
        have RW : Hid (∀ i, i < r → ∀ w', Calls Tryz.prog 44 #[.agg #[.int .i64 r, .int .i64 c, .slice (some ⟨g, 0, none⟩) N cap], .int .i64 i] w' (RowAt (some ⟨g, 0, none⟩) (i * c) c w')) := fun i hi w' => iRowIn r c i (i * c) N cap _ w' (.inr ⟨g, 0, rfl⟩) rfl (DL.out i hi) ST.out.cel.le (fun h => by cases h) (by omega) (by omega)
        rw [n1]
        clear n1 hf f1 f2 f3 f4 hI hs FS hx hd2 HR
        obtain ⟨p0, p1, p2, -, -, -⟩ := ST.out.blk.all
        go_upto_if 26 with fail
        generalize swC s t c ys = zs at ZL ZC EO SN X SWC
        go_cut [9] (fun v9 wx => v9 = .int .i64 d2 ∧ EmSt w b r c N cap g (some ⟨g, 0, none⟩) zs wx)
        case first =>
          by_cases hst : s = t
          · have n3 : ((s : Int) != (t : Int)) = false := by simp [hst]
            have hs := ST.out
            rw [SN.out hst] at hs
            have S2 := Lib.hid hs
            have DD : Hid (d = d2) := by show _ = _; rw [← D2.out, if_pos hst]
            clear hs hst
            go_wp2_with fail
            go_meet
            exact ⟨by rw [DD.out], S2.out⟩
          · have n3 : ((s : Int) != (t : Int)) = true := by simp; omega
            have DD : Hid (p - d = d2) := by show _ = _; rw [← D2.out, if_neg hst, neg_mod hd0 hd1]
            have w9 : IntKind.i64.wrap (p - d) = p - d := IntWalk.i64_in _ (by omega)
            clear hst
            go_wp2_with fail
            refine (SWC.out _ II.out).mono ?_
            rintro e w6 ⟨rfl, hi6, hg6⟩
            have S6 := Lib.hid (ST.out.one ZL.out hi6 hg6 bg)
            clear hi6 hg6 p0 p1 p2
            go_wp2_with fail
            go_meet
            exact ⟨by rw [DD.out], S6.out⟩
        case rest =>
          clear ST II SN HY HL D2 SWC
          obtain ⟨rfl, hst⟩ := hcut
          have ST := Lib.hid hst
          clear hst p0 p1 p2
          obtain ⟨p0, p1, p2, -, -, -⟩ := ST.out.blk.all
          have DV : Hid (∀ (m : Nat) (w' : World), Ints w' g zs → Calls Tryz.prog 151 #[.slice (some ⟨g, t * c, none⟩) c m, .int .i64 x, .int .i64 p] w' (fun e w2 => Void e ∧ Ints w2 g (rowL r c t (scV p (invF p x) (mxC c zs t)) zs) ∧ w'.grownBy w2 (some g))) := fun m w' hi' => iDivide r c t N g m x p zs w' HN.out ZL.out hc htl PB.out ZC.out x1 x2 x0 hi'
          have UL : Hid ((rowL r c t (scV p (invF p x) (mxC c zs t)) zs).length = N) := by show _ = _; rw [rowL_length, HN.out]
          have UC : Hid (CanL p (rowL r c t (scV p (invF p x) (mxC c zs t)) zs)) := ZC.out.row (by rw [ZL.out, HN.out]) fun q _ => ⟨Int.emod_nonneg _ (by omega), Int.emod_lt_of_pos _ (by omega)⟩
          generalize rowL r c t (scV p (invF p x) (mxC c zs t)) zs = vs at DV UL UC EO
          have CZ : Hid (∀ w', Ints w' g zs → w'.cell? ⟨g, t * c + j, none⟩ = some (.int .i64 x)) := fun w' hi' => by
            have h1 := hi'.cell (i := t * c + j) (by rw [ZL.out, HN.out]; exact idx_lt htl hjc)
            rw [show zs.getD (t * c + j) 0 = x from X.out] at h1
            exact h1
          obtain ⟨m3, m4⟩ := mul_bd (show 0 ≤ d2 by omega) d22 x1 x2 hp2
          obtain ⟨y, hy⟩ : ∃ y, d2 * x = y := ⟨_, rfl⟩
          have w8 : IntKind.i64.wrap (d2 * x) = y := by rw [← hy]; exact IntWalk.i64_in _ (by omega)
          rw [hy] at m3 m4 EO DP
          have e8 : Int.tmod y p = y % p := Int.tmod_eq_emod_of_nonneg m3
          clear hy ZC ZL X
          go_wp2_with fail
          refine (RW.out t htl _).mono ?_
          rintro e v1 ⟨q1, m1, rfl, hm1, hq1, -, hb1⟩
          obtain rfl := hq1 g 0 rfl (by omega)
          rw [Nat.zero_add]
          have S1 := Lib.hid (ST.out.below hb1)
          clear hq1 hb1 ST p0 p1 p2
          have hcz := CZ.out _ (S1.out.cel.ints N0).2
          go_wp2_with fail
          refine (DV.out _ _ (S1.out.cel.ints N0).2).mono ?_
          rintro e v2 ⟨rfl, hi2, hg2⟩
          have S2 := Lib.hid (S1.out.one UL.out hi2 hg2 bg)
          clear hi2 hg2 S1 hcz DV CZ
          obtain ⟨p0, p1, p2, -, -, -⟩ := S2.out.blk.all
          obtain ⟨E, hE⟩ : ∃ E, clP p r c t j r 0 vs = E := ⟨_, rfl⟩
          rw [hE] at EO
          have EE := Lib.hid hE
          clear hE
          go_wp2_with fail
          clear p0 p1 p2
          go_loopw [13, 54] (fun _ v54 wu => ∃ (i l : Nat) (us : List Int), v54 = .int .i64 i ∧ i + l = r ∧ CanL p us ∧ clP p r c t j l i us = E ∧ EmSt w b r c N cap g (some ⟨g, 0, none⟩) us wu) (fun _ v54 _ => r - (intOf v54).toNat)
          case atStart => exact ⟨0, r, vs, rfl, by omega, UC.out, EE.out, S2.out⟩
          case round =>
            clear S2 UL UC EE
            obtain ⟨i, l, us, rfl, hil, hun, hue, hst⟩ := hrel
            have ST := Lib.hid hst
            have UL := Lib.hid hst.cel.len
            have UN := Lib.hid hun
            have UE := Lib.hid hue
            clear hst hun hue
            obtain ⟨p0, p1, p2, -, -, -⟩ := ST.out.blk.all
            by_cases hir : i < r
            · obtain ⟨l, rfl⟩ : ∃ l', l = l' + 1 := ⟨l - 1, by omega⟩
              by_cases hit : i = t
              · have n2 : ((i : Int) != (t : Int)) = false := by simp [hit]
                have UE2 : Hid (clP p r c t j l (i + 1) us = E) := by
                  have h1 := UE.out
                  rw [clP_skip (.inl hit)] at h1
                  exact h1
                clear hit
                go_wp2_with fail
                go_roundw
                case rel => exact ⟨i + 1, l, us, by go_num, by omega, UN.out, UE2.out, ST.out⟩
                case measure => simp [intOf]; omega
              · have n2 : ((i : Int) != (t : Int)) = true := by simp; omega
                have CM : Hid (∀ (mi : Nat) (w' : World), Ints w' g us → Calls Tryz.prog 152 #[.slice (some ⟨g, i * c, none⟩) c mi, .slice (some ⟨g, t * c, none⟩) c m1, .int .i64 j, .int .i64 p] w' (fun e w2 => Void e ∧ Ints w2 g (rowL r c i (lsV p (mxC c us i j) (mxC c us i) (mxC c us t)) us) ∧ w'.grownBy w2 (some g))) := fun mi w' hi' => iClearM r c i t j N g mi m1 p us w' HN.out UL.out hc hir htl hit hjc PB.out UN.out hi'
                have UE2 : Hid (clP p r c t j l (i + 1) (rowL r c i (lsV p (mxC c us i j) (mxC c us i) (mxC c us t)) us) = E) := by
                  have h1 := UE.out
                  rw [clP_clear (by rw [UL.out, HN.out]) UN.out hir hit] at h1
                  exact h1
                have VL : Hid ((rowL r c i (lsV p (mxC c us i j) (mxC c us i) (mxC c us t)) us).length = N) := by show _ = _; rw [rowL_length, HN.out]
                have VC : Hid (CanL p (rowL r c i (lsV p (mxC c us i j) (mxC c us i) (mxC c us t)) us)) := UN.out.row (by rw [UL.out, HN.out]) fun q _ => ⟨Int.emod_nonneg _ (by omega), Int.emod_lt_of_pos _ (by omega)⟩
                generalize rowL r c i (lsV p (mxC c us i j) (mxC c us i) (mxC c us t)) us = ws at CM UE2 VL VC
                clear hit
                go_wp2_with fail
                refine (RW.out i hir _).mono ?_
                rintro e v3 ⟨q3, m3', rfl, -, hq3, -, hb3⟩
                obtain rfl := hq3 g 0 rfl (by omega)
                rw [Nat.zero_add]
                have S3 := Lib.hid (ST.out.below hb3)
                clear hq3 hb3 ST p0 p1 p2
                go_wp2_with fail
                refine (CM.out _ _ (S3.out.cel.ints N0).2).mono ?_
                rintro e v4 ⟨rfl, hi4, hg4⟩
                have S4 := Lib.hid (S3.out.one VL.out hi4 hg4 bg)
                clear hi4 hg4
                go_wp2_with fail
                go_roundw
                case rel => exact ⟨i + 1, l, ws, by go_num, by omega, VC.out, UE2.out, S4.out⟩
                case measure => simp [intOf]; omega
            · obtain rfl : l = 0 := by omega
              have UF : Hid (us = E) := UE.out
              have UR : Hid (elP p r c k (j + 1) us (pv ++ [j]) (y % p) = RES) := by
                have h1 := EO.out
                rw [← UF.out] at h1
                exact h1
              have y1 : y % p < p := Int.emod_lt_of_pos _ (by omega)
              have LP : Hid ((t : Int) + 1 = (((pv ++ [j]).length : Nat) : Int)) := by show _ = _; rw [List.length_append, PT.out]; simp
              have LR : Hid ((pv ++ [j]).length ≤ r) := by show _ ≤ _; rw [List.length_append, PT.out]; simp; omega
              have w7 : IntKind.i64.wrap ((t : Int) + 1) = (t : Int) + 1 := IntWalk.i64_in _ (by omega)
              go_wp2_with fail
              go_roundw
              case rel => exact ⟨j + 1, k, us, pv ++ [j], y % p, by rw [← LP.out], rfl, by go_num, by omega, UN.out, LR.out, DP.out, y1, UR.out, ST.out⟩
              case measure => simp [intOf]; omega
    · obtain rfl : k = 0 := by omega
      have RF : Hid ((ys, pv, d) = RES) := HR.out
      go_wp2_with fail
      refine bodyPost_ret (v := .tuple #[.int .i64 (t : Int), .int .i64 d]) (by simp [results, Tryz.results107, go_sem]) rfl ⟨?_, ?_, ST.out.gro⟩
      · rw [← RF.out, ← PT.out]
      · rw [← RF.out]; exact ST.out.cel
end Go.Proofs.YtcapddcmnjeloaaGreatDoor
end

section
/-
  Chapter 8, in the program: RankMod, DeterminantMod.
-/
namespace Go.Proofs.YtcapddcmnjeloaaGreatDoor
set_option maxRecDepth 100000
open Go.RowKit
theorem Own.cel' {B N cap : Nat} {w w0 : World} {q : Option Addr} {zs : List Int} (h : Own B w (.slice q N cap) zs) (_ : w0.heap.size ≤ w.heap.size) : ∃ g, Cel w q N cap g zs ∧ ∀ k, (Value.slice q N cap).ownBlock = some k → B ≤ k := by
  rcases h with ⟨hv, rfl⟩ | ⟨g, c', hv, hB, hi, hl, _⟩
  · injection hv with e1 e2 e3
    exact ⟨0, .inl ⟨e1, e3, e2, rfl⟩, fun k hk => by subst e1; cases hk⟩
  · injection hv with e1 e2 e3
    refine ⟨g, .inr ⟨e1, by omega, e2.symm, hi⟩, fun k hk => ?_⟩
    subst e1
    simp only [Value.ownBlock, Option.some.injEq] at hk
    omega
set_option maxHeartbeats 1000000 in
theorem iDetM (r c p : Int) (a : Option Addr) (m : Nat) (xs : List Int) (w : World) (h : Rd w a xs) (hn : xs.length ≤ 16777216) :
    Calls Tryz.prog 62 #[.agg #[.int .i64 r, .int .i64 c, .slice a xs.length m], .int .i64 p] w (Gives (.tuple #[.int .i64 (dtM r c p xs).1, .bool (dtM r c p xs).2]) w) := by
  have RD : Hid (∀ w', Below w.heap.size w w' → Calls Tryz.prog 106 #[.agg #[.int .i64 r, .int .i64 c, .slice a xs.length m], .int .i64 p] w' (MatRes (redM r c p xs) w')) := fun w' hb => iRed r c p a m xs w' (h.below hb) hn
  have B0 : Hid (Below w.heap.size w (w.alloc (.cells #[.int .i64 r, .int .i64 c, .slice a xs.length m] 26))) := (Below.refl _ _).alloc (Nat.le_refl _) _
  have K0 : Hid (Blk3 (w.alloc (.cells #[.int .i64 r, .int .i64 c, .slice a xs.length m] 26)) w.heap.size 26 (.int .i64 r) (.int .i64 c) (.slice a xs.length m)) := Blk3.at_ _ _ _ _ rfl
  rcases Bool.eq_false_or_eq_true (isMat r c xs && prmB p) with hh | hh
  · obtain ⟨R, C, N, rfl, rfl, hN, hR, hC, hx, hl, hp, hcan, e1, -, e3⟩ := rkM_yes hh
    rw [e1] at RD
    have D1 : Hid (R = C → (elM p R C xs).2.1.length < R → dtM R C p xs = (0, true)) := fun h1 h2 => by show _ = _; rw [e3, if_pos h1, if_pos h2]
    have D2 : Hid (R = C → ¬ (elM p R C xs).2.1.length < R → dtM R C p xs = ((elM p R C xs).2.2, true)) := fun h1 h2 => by show _ = _; rw [e3, if_pos h1, if_neg h2]
    have D3 : Hid (R ≠ C → dtM R C p xs = (0, false)) := fun h1 => by show _ = _; rw [e3, if_neg h1]
    generalize dtM R C p xs = DD at D1 D2 D3 ⊢
    have EL : Hid (∀ (q : Option Addr) (cap g : Nat) (w' : World), Cel w' q N cap g (resL p xs) → Calls Tryz.prog 107 #[.agg #[.int .i64 R, .int .i64 C, .slice q N cap], .int .i64 C, .int .i64 p] w' (fun e w2 => e = .returned (.tuple #[.int .i64 ((elM p R C xs).2.1.length : Int), .int .i64 (elM p R C xs).2.2]) ∧ Cel w2 q N cap g (elM p R C xs).1 ∧ w'.grownBy w2 (Value.slice q N cap).ownBlock)) := fun q cap g w' h1 => iElim R C C N cap g q p (resL p xs) w' hN hR hC (Nat.le_refl _) hp hcan h1
    generalize elM p R C xs = RES at EL D1 D2
    generalize resL p xs = zs at RD EL hl
    rw [hx] at RD B0 K0 ⊢
    clear h hn hx hN hcan e1 e3 hh hp
    go_enter Tryz.func62, Tryz.ntmps62
    go_wp2_with fail
    refine (RD.out _ B0.out).mono ?_
    rintro e w1 ⟨v, rfl, own, hb⟩
    obtain ⟨q, cap, rfl, -, -⟩ := own.form
    dsimp only
    rw [hl]
    rw [hl] at own
    have s1 := hb.size
    have B1 := B0.out.trans (hb.mono (by simp))
    have B2 := Lib.hid (B1.alloc B1.size (.cells #[.int .i64 R, .int .i64 C, .slice q N cap] 26))
    have O2 := Lib.hid (own.keep ((Below.refl _ _).alloc (Nat.le_refl _) (.cells #[.int .i64 R, .int .i64 C, .slice q N cap] 26)))
    have K2 : Hid (Blk3 (w1.alloc (.cells #[.int .i64 R, .int .i64 C, .slice q N cap] 26)) w1.heap.size 26 (.int .i64 R) (.int .i64 C) (.slice q N cap)) := Blk3.at_ _ _ _ _ rfl
    have K1 := Lib.hid ((K0.out.step hb).old (.cells #[.int .i64 R, .int .i64 C, .slice q N cap] 26))
    have lt1 : w.heap.size < w1.heap.size := (K0.out.step hb).lt
    clear hb own B1 B0 K0
    go_upto_region 2 with fail
    generalize w1.alloc (.cells #[.int .i64 R, .int .i64 C, .slice q N cap] 26) = W at B2 O2 K2 K1 ⊢
    obtain ⟨p0, p1, p2, -, -, -⟩ := K2.out.all
    obtain ⟨q0, q1, q2, -, -, -⟩ := K1.out.all
    by_cases hRC : R = C
    · have n1 : ((R : Int) != (C : Int)) = false := by simp [hRC]
      have D1 : Hid (RES.2.1.length < R → DD = (0, true)) := D1.out hRC
      have D2 : Hid (¬ RES.2.1.length < R → DD = (RES.2.2, true)) := D2.out hRC
      clear hRC
      go_wp2_with fail
      obtain ⟨g, C2, hg⟩ := Own.cel' O2.out B2.out.size
      refine (EL.out q cap g _ C2).mono ?_
      rintro e w2 ⟨rfl, -, hg2⟩
      have B4 := Lib.hid (B2.out.grown hg2 B2.out.size (fun k e => by have := hg k e; simp at this; omega))
      have K3 : Hid (Blk3 w2 w.heap.size 26 (.int .i64 R) (.int .i64 C) (.slice a N m)) := (hg2.block _ K1.out.lt (fun e => by have := hg _ e.symm; simp at this; omega)).trans K1.out
      clear hg2 C2 hg p0 p1 p2 q0 q1 q2
      obtain ⟨q0, q1, q2, -, -, -⟩ := K3.out.all
      by_cases hlt : RES.2.1.length < R
      · have DX := Lib.hid (D1.out hlt)
        go_wp2_with fail
        rw [DX.out]
        exact bodyPost_ret (v := .tuple #[.int .i64 0, .bool true]) (by simp [results, Tryz.results62, go_sem]) rfl ⟨rfl, B4.out⟩
      · have DX := Lib.hid (D2.out hlt)
        go_wp2_with fail
        rw [DX.out]
        exact bodyPost_ret (v := .tuple #[.int .i64 RES.2.2, .bool true]) (by simp [results, Tryz.results62, go_sem]) rfl ⟨rfl, B4.out⟩
    · have n1 : ((R : Int) != (C : Int)) = true := by simp; omega
      have DX := Lib.hid (D3.out hRC)
      clear hRC
      go_wp2_with fail
      rw [DX.out]
      exact bodyPost_ret (v := .tuple #[.int .i64 0, .bool false]) (by simp [results, Tryz.results62, go_sem]) rfl ⟨rfl, B2.out⟩
  · obtain ⟨-, e2, e1⟩ := rkM_no hh
    rw [e2] at RD
    rw [e1]
    generalize xs.length = L at RD B0 ⊢
    clear h hn e1 e2 hh K0
    go_enter Tryz.func62, Tryz.ntmps62
    go_wp2_with fail
    refine (RD.out _ B0.out).mono ?_
    rintro e w1 ⟨v, rfl, own, hb⟩
    obtain ⟨q, cap, rfl, -, -⟩ := own.form
    have B1 := B0.out.trans (hb.mono (by simp))
    have B2 := Lib.hid (B1.alloc B1.size (.cells #[.int .i64 MR.no.r, .int .i64 MR.no.c, .slice q MR.no.zs.length cap] 26))
    clear hb own B1 B0
    have ok : MR.no.ok = false := rfl
    rw [ok]
    go_wp2_with fail
    exact bodyPost_ret (v := .tuple #[.int .i64 0, .bool false]) (by simp [results, Tryz.results62, go_sem]) rfl ⟨rfl, B2.out⟩
end Go.Proofs.YtcapddcmnjeloaaGreatDoor
end

section
/-
  Chapter 8, in the program: InverseMod.
-/
namespace Go.Proofs.YtcapddcmnjeloaaGreatDoor
set_option maxRecDepth 100000
open Go.RowKit
theorem Ints.rdAt {w : World} {g R D : Nat} {zs : List Int} (h : Ints w g zs) (hl : D + R + R ≤ zs.length) : Rd w (some ⟨g, D + R, none⟩) (rwL R fun b => zs.getD (D + (R + b)) 0) := fun j hj => by
  rw [rwL_length] at hj
  refine ⟨g, D + R, rfl, ?_⟩
  rw [rwL_at hj, ← Nat.add_assoc]
  exact h.cell (by omega)
theorem Own.celQ {B N cap : Nat} {w : World} {q : Option Addr} {zs : List Int} (h : Own B w (.slice q N cap) zs) : ∃ _ : Nat, N ≤ cap ∧ (q = none → cap = 0) := by
  rcases h with ⟨hv, rfl⟩ | ⟨g, c', hv, hB, hi, hl, _⟩
  · injection hv with e1 e2 e3
    exact ⟨0, by omega, fun _ => e3⟩
  · injection hv with e1 e2 e3
    exact ⟨0, by omega, fun h => by rw [e1] at h; cases h⟩
set_option maxHeartbeats 4000000 in
theorem iIvx (r c p : Int) (a : Option Addr) (m : Nat) (xs : List Int) (w : World) (h : Rd w a xs) (hn : xs.length ≤ 16777216) :
    Calls Tryz.prog 134 #[.agg #[.int .i64 r, .int .i64 c, .slice a xs.length m], .int .i64 p] w (MatRes (ivX r c p xs) w) := by
  have RD : Hid (∀ w', Below w.heap.size w w' → Calls Tryz.prog 106 #[.agg #[.int .i64 r, .int .i64 c, .slice a xs.length m], .int .i64 p] w' (MatRes (redM r c p xs) w')) := fun w' hb => iRed r c p a m xs w' (h.below hb) hn
  have K0 : Hid (Blk3 ((w.alloc (.cells #[.int .i64 r, .int .i64 c, .slice a xs.length m] 26)).alloc (.cells #[.int .i64 0, .int .i64 0, .slice none 0 0] 26)) w.heap.size 26 (.int .i64 r) (.int .i64 c) (.slice a xs.length m)) := (Blk3.at_ _ _ _ _ rfl).old _
  have R0 : Hid (Blk3 ((w.alloc (.cells #[.int .i64 r, .int .i64 c, .slice a xs.length m] 26)).alloc (.cells #[.int .i64 0, .int .i64 0, .slice none 0 0] 26)) (w.heap.size + 1) 26 (.int .i64 0) (.int .i64 0) (.slice none 0 0)) := Blk3.at_ _ _ _ _ (by simp)
  have B0 : Hid (Below w.heap.size w ((w.alloc (.cells #[.int .i64 r, .int .i64 c, .slice a xs.length m] 26)).alloc (.cells #[.int .i64 0, .int .i64 0, .slice none 0 0] 26))) := ((Below.refl _ _).alloc (Nat.le_refl _) _).alloc (by simp) _
  have S0 : Hid (((w.alloc (.cells #[.int .i64 r, .int .i64 c, .slice a xs.length m] 26)).alloc (.cells #[.int .i64 0, .int .i64 0, .slice none 0 0] 26)).heap.size = w.heap.size + 2) := by show _ = _; simp
  rcases Bool.eq_false_or_eq_true (isMat r c xs && prmB p) with hh | hh
  · obtain ⟨R, C, N, rfl, rfl, hN, hR, hC, hx, hl, hp, hcan, e1, -, -⟩ := rkM_yes hh
    have N2 : Hid (R ≠ C → ivX R C p xs = MR.no) := fun h => ivX_no2 (by omega)
    have N3 : Hid (¬ R ≤ 12 → ivX R C p xs = MR.no) := fun h => ivX_no3 (by omega)
    have YY : Hid (R = C → R ≤ 12 → ivX R C p xs = if (elW p R xs).2.1.length < R then MR.no else ⟨true, R, R, hfTo R (elW p R xs).1 R 0⟩) := fun h1 h2 => by
      subst h1
      show _ = _
      rw [ivX_at hh h2, hfTo_all]
    rw [e1] at RD
    have PB := Lib.hid hp
    have HN := Lib.hid hN
    have HC := Lib.hid hcan
    have HX := Lib.hid hx
    have HL := Lib.hid hl
    rw [hx] at RD K0 R0 B0 S0 ⊢
    clear h hn hx hN hcan e1 hh hp hl
    generalize ivX R C p xs = RES at N2 N3 YY ⊢
    go_enter Tryz.func134, Tryz.ntmps134
    go_upto_region 1 with fail
    generalize (w.alloc (.cells #[.int .i64 R, .int .i64 C, .slice a N m] 26)).alloc (.cells #[.int .i64 0, .int .i64 0, .slice none 0 0] 26) = W0 at K0 R0 B0 S0 ⊢
    obtain ⟨p0, p1, p2, -, -, -⟩ := K0.out.all
    go_wp2_with fail
    refine (RD.out _ B0.out).mono ?_
    rintro e w1 ⟨v, rfl, own, hb⟩
    obtain ⟨q, cap, rfl, -, -⟩ := own.form
    dsimp only
    rw [HL.out]
    replace own := own.le (show w.heap.size ≤ _ by have := S0.out; omega)
    rw [HL.out] at own
    have s0 := S0.out
    have s1 := hb.size
    have Bx := B0.out.trans (hb.mono (by omega))
    have B2 := Lib.hid (Bx.alloc Bx.size (.cells #[.int .i64 R, .int .i64 C, .slice q N cap] 26))
    have QS := Lib.hid own.elim.2
    obtain ⟨g0, hcel⟩ := own.celQ
    have QC := Lib.hid hcel.1
    have QN := Lib.hid hcel.2
    have Q2 := Lib.hid (own.elim.1.below ((Below.refl _ _).alloc (Nat.le_refl _) (.cells #[.int .i64 R, .int .i64 C, .slice q N cap] 26)))
    have A2 : Hid (Blk3 (w1.alloc (.cells #[.int .i64 R, .int .i64 C, .slice q N cap] 26)) w1.heap.size 26 (.int .i64 R) (.int .i64 C) (.slice q N cap)) := Blk3.at_ _ _ _ _ rfl
    have K2 := Lib.hid ((K0.out.step hb).old (.cells #[.int .i64 R, .int .i64 C, .slice q N cap] 26))
    have R2 := Lib.hid ((R0.out.step hb).old (.cells #[.int .i64 R, .int .i64 C, .slice q N cap] 26))
    have S2 : Hid ((w1.alloc (.cells #[.int .i64 R, .int .i64 C, .slice q N cap] 26)).heap.size = w1.heap.size + 1) := by show _ = _; simp
    clear hb own Bx K0 R0 B0 S0 p0 p1 p2 RD
    go_upto_region 2 with fail
    generalize w1.alloc (.cells #[.int .i64 R, .int .i64 C, .slice q N cap] 26) = W2 at B2 Q2 A2 K2 R2 S2 ⊢
    obtain ⟨b6, hb6⟩ : ∃ b6, w1.heap.size = b6 := ⟨_, rfl⟩
    obtain ⟨rb, hrb⟩ : ∃ rb, w.heap.size + 1 = rb := ⟨_, rfl⟩
    have s2 := S2.out
    rw [hb6] at A2 s2 ⊢
    rw [hrb] at R2 ⊢
    have l0 : w.heap.size ≤ rb := by omega
    have l1 : rb < b6 := by omega
    clear hb6 hrb s0 s1 S2 w1 W0
    obtain ⟨p0, p1, p2, -, -, -⟩ := K2.out.all
    by_cases hRC : R = C
    · have n1 : ((R : Int) != (C : Int)) = false := by simp [hRC]
      by_cases h12 : R ≤ 12
      · have YY := Lib.hid (YY.out hRC h12)
        have u9 : IntKind.i64.wrap (2 * (R : Int)) = 2 * (R : Int) := IntWalk.i64_in _ (by omega)
        obtain ⟨C2, hC2⟩ : ∃ C2, 2 * R = C2 := ⟨_, rfl⟩
        have u8 : IntKind.i64.wrap (2 * (R : Int)) = (C2 : Int) := by rw [u9, ← hC2]; omega
        have n3 : decide ((12 : Int) < (R : Int)) = false := decide_eq_false (by omega)
        obtain ⟨N2', hN2⟩ : ∃ N2, R * C2 = N2 := ⟨_, rfl⟩
        have HN2 := Lib.hid hN2
        have HC2 := Lib.hid hC2
        have lN2 : N2' ≤ 288 := by
          rw [← hN2]
          have : R * C2 ≤ 12 * 24 := Nat.mul_le_mul h12 (by omega)
          omega
        have HNN : Hid (N = R * R) := by show _ = _; rw [HN.out, ← hRC]
        have CR : Hid (C = R) := hRC.symm
        clear u9 hC2 hN2 N3 hRC
        have s2' : b6 < W2.heap.size := by omega
        clear s2
        have u7 : IntKind.i64.wrap ((C2 : Int) * (R : Int)) = (N2' : Int) := by
          rw [show (C2 : Int) * (R : Int) = (N2' : Int) by rw [← HN2.out, Int.natCast_mul, Int.mul_comm]]
          exact IntWalk.i64_in _ (by omega)
        have hmk := makeInts N2' (by omega)
        have I5 : Hid (Ints ((W2.alloc (.cells (madeCells #[.int .i64 0] N2') 3)).alloc (.cells #[.int .i64 R, .int .i64 C2, .slice (some ⟨W2.heap.size, 0, none⟩) N2' N2'] 26)) W2.heap.size (wdTo p R xs 0 0)) := by
          have := ((IntsC.made (w := W2) N2' (by omega) rfl).ints).old (.cells #[.int .i64 R, .int .i64 C2, .slice (some ⟨W2.heap.size, 0, none⟩) N2' N2'] 26)
          rw [wdTo_zero, HC2.out, HN2.out]
          exact this
        have T5 : Hid (Blk3 ((W2.alloc (.cells (madeCells #[.int .i64 0] N2') 3)).alloc (.cells #[.int .i64 R, .int .i64 C2, .slice (some ⟨W2.heap.size, 0, none⟩) N2' N2'] 26)) (W2.heap.size + 1) 26 (.int .i64 R) (.int .i64 C2) (.slice (some ⟨W2.heap.size, 0, none⟩) N2' N2')) := Blk3.at_ _ _ _ _ (by simp)
        have E5 : Hid (Below W2.heap.size W2 ((W2.alloc (.cells (madeCells #[.int .i64 0] N2') 3)).alloc (.cells #[.int .i64 R, .int .i64 C2, .slice (some ⟨W2.heap.size, 0, none⟩) N2' N2'] 26))) := ((Below.refl _ _).alloc (Nat.le_refl _) _).alloc (by simp) _
        have S5 : Hid (((W2.alloc (.cells (madeCells #[.int .i64 0] N2') 3)).alloc (.cells #[.int .i64 R, .int .i64 C2, .slice (some ⟨W2.heap.size, 0, none⟩) N2' N2'] 26)).heap.size = W2.heap.size + 2) := by show _ = _; simp
        go_upto_region 6 with fail
        generalize (W2.alloc (.cells (madeCells #[.int .i64 0] N2') 3)).alloc (.cells #[.int .i64 R, .int .i64 C2, .slice (some ⟨W2.heap.size, 0, none⟩) N2' N2'] 26) = W5 at I5 T5 E5 S5 ⊢
        have A5 := Lib.hid (A2.out.keep E5.out A2.out.lt)
        have R5 := Lib.hid (R2.out.keep E5.out R2.out.lt)
        have B5 := Lib.hid (B2.out.trans (E5.out.mono B2.out.size))
        have lb6 := A2.out.lt
        have s5 := S5.out
        obtain ⟨g, hg⟩ : ∃ g, W2.heap.size = g := ⟨_, rfl⟩
        obtain ⟨b9, hb9⟩ : ∃ b9, g + 1 = b9 := ⟨_, rfl⟩
        rw [hg] at I5 T5 E5 lb6 s5 s2' ⊢
        rw [hb9] at T5 ⊢
        have lg9 : g < b9 := by omega
        have LW2 : Hid (W2.heap.size = g) := hg
        have lw2 := B2.out.size
        rw [hg] at lw2
        have DL2 : Hid (∀ i, i < R → i * C2 + C2 ≤ N2') := fun i hi => by rw [← HN2.out, ← Nat.succ_mul]; exact Nat.mul_le_mul_right _ hi
        have DLN : Hid (∀ i, i < R → i * R + R ≤ N) := fun i hi => by rw [HNN.out, ← Nat.succ_mul]; exact Nat.mul_le_mul_right _ hi
        have DLR : Hid (∀ i, i < R → i * R + R ≤ R * R) := fun i hi => by rw [← Nat.succ_mul]; exact Nat.mul_le_mul_right _ hi
        have lN : N ≤ 144 := by rw [HNN.out]; exact Nat.mul_le_mul h12 h12
        have RW6 : Hid (∀ i, i < R → ∀ w', Calls Tryz.prog 44 #[.agg #[.int .i64 R, .int .i64 C, .slice q N cap], .int .i64 i] w' (RowAt q (i * R) R w')) := fun i hi w' => by
          have e := CR.out
          rw [e]
          exact iRowIn R R i (i * R) N cap q w' QS.out rfl (DLN.out i hi) QC.out QN.out (by omega) (by omega)
        have RW9 : Hid (∀ i, i < R → ∀ w', Calls Tryz.prog 44 #[.agg #[.int .i64 R, .int .i64 C2, .slice (some ⟨g, 0, none⟩) N2' N2'], .int .i64 i] w' (RowAt (some ⟨g, 0, none⟩) (i * C2) C2 w')) := fun i hi w' => iRowIn R C2 i (i * C2) N2' N2' _ w' (.inr ⟨g, 0, rfl⟩) rfl (DL2.out i hi) (Nat.le_refl _) (fun h => by cases h) (by omega) (by omega)
        clear hg hb9 S5 hmk K2 R2 A2 B2 p0 p1 p2
        go_wp2_with fail
        go_loopw [10, 11, 49] (fun _ _ v49 wr => ∃ i : Nat, v49 = .int .i64 i ∧ i ≤ R ∧ Ints wr g (wdTo p R xs i 0) ∧ W5.grownBy wr (some g)) (fun _ _ v49 _ => R - (intOf v49).toNat)
        case atStart => exact ⟨0, rfl, by omega, I5.out, World.grownBy.refl _ _⟩
        case round =>
          clear I5
          obtain ⟨i, rfl, hi, hI, hgr⟩ := hrel
          have I := Lib.hid hI
          have G := Lib.hid hgr
          clear hI hgr
          by_cases hlt : i < R
          · have c20 : R ≤ C2 := by have := HC2.out; omega
            have A6 := Lib.hid (A5.out.keepOne G.out (by omega))
            have T6 := Lib.hid (T5.out.keepOne G.out (by omega))
            obtain ⟨q0, q1, q2, -, -, -⟩ := T6.out.all
            go_wp2_with fail
            refine (RW9.out i hlt _).mono ?_
            rintro e w6 ⟨q6, m6, rfl, hm6, hq6, -, hb6'⟩
            obtain rfl := hq6 g 0 rfl (by omega)
            rw [Nat.zero_add]
            have A7 := Lib.hid (A6.out.step hb6')
            have I7 := Lib.hid (I.out.keep hb6' I.out.lt)
            have G7 := Lib.hid (G.out.trans (grown_of_below hb6' (some g)))
            clear hb6' hq6 q0 q1 q2
            obtain ⟨p0, p1, p2, -, -, -⟩ := A7.out.all
            go_wp2_with fail
            refine (RW6.out i hlt _).mono ?_
            rintro e w7 ⟨q7, m7, rfl, hm7, hq7, -, hb7⟩
            have I8 := Lib.hid (I7.out.keep hb7 I7.out.lt)
            have G8 := Lib.hid (G7.out.trans (grown_of_below hb7 (some g)))
            clear hb7 p0 p1 p2
            have hsrc : Rd w7 q7 (rwL R (mxC R (resL p xs) i)) := by
              have h1 : Rd w7 q (resL p xs) := (Q2.out.below (by rw [LW2.out]; exact E5.out)).one G8.out (fun b o e e2 => by
                subst e2
                obtain ⟨b', o', e', hc'⟩ := Q2.out 0 (by rw [HL.out]; have := DLN.out i hlt; omega)
                rw [e] at e'
                injection e' with e'
                injection e' with e' _
                subst e'
                have := World.block_lt_of_cell? W2 _ hc'
                simp at this
                have := LW2.out
                omega)
              exact h1.row (by rw [HL.out, HNN.out]) hlt (fun g' o' e _ => hq7 g' o' e (by omega))
            obtain ⟨w8, hrun, hi8, hg8⟩ := copyInts w7 g (i * C2) C2 m6 R m7 q7 (wdTo p R xs i 0) (rwL R (mxC R (resL p xs) i)) I8.out hsrc (rwL_length _ _) (by omega) (by omega) (by rw [wdTo_length, HC2.out, HN2.out]; have := DL2.out i hlt; omega) 3
            have e8 : (wdTo p R xs i 0).take (i * C2) ++ rwL R (mxC R (resL p xs) i) ++ (wdTo p R xs i 0).drop (i * C2 + R) = wdTo p R xs i R := by
              have := wdTo_lay (p := p) (xs := xs) hlt (rwL_length R (mxC R (resL p xs) i)) (fun b hb => rwL_at hb)
              rw [HC2.out] at this
              exact this
            rw [e8] at hi8
            have I9 := Lib.hid hi8
            have G9 := Lib.hid (G8.out.trans hg8)
            clear hi8 hg8 hsrc e8 hq7
            obtain ⟨P, hP⟩ : ∃ P, i * C2 + (R + i) = P := ⟨_, rfl⟩
            have hPN : P < N2' := by have := DL2.out i hlt; have := HC2.out; omega
            have hold := I9.out.cell (i := P) (by rw [wdTo_length, HC2.out, HN2.out]; exact hPN)
            have hfr := I9.out.free P
            have ST : Hid ((wdTo p R xs i R).set P 1 = wdTo p R xs (i + 1) 0) := by
              show _ = _
              rw [← hP, ← HC2.out]
              exact wdTo_row hlt
            have IS := Lib.hid (I9.out.set P 1)
            have GS := Lib.hid (grown_set_one (a := ⟨g, P, none⟩) G9.out rfl (.int .i64 1))
            have u3 : IntKind.i64.wrap ((R : Int) + (i : Int)) = (R : Int) + (i : Int) := IntWalk.i64_in _ (by omega)
            have u4 : (R : Int) + (i : Int) < (C2 : Int) := by have := HC2.out; omega
            have u5 : ((R : Int) + (i : Int)).toNat = R + i := by omega
            have u6 : (0 : Int) ≤ (R : Int) + (i : Int) := by omega
            rw [← hP] at hold hfr IS GS ST
            clear hP hPN
            go_wp2_with (at_builtin; refine wpList_copyR rfl _ _ 24 rfl _ _ rfl rfl _ _ hrun ?_)
            go_roundw
            case rel => exact ⟨i + 1, by go_num, by omega, by rw [← ST.out]; exact IS.out, GS.out⟩
            case measure => simp [intOf]; omega
          · obtain rfl : R = i := by omega
            have T6 := Lib.hid (T5.out.keepOne G.out (by omega))
            have R6 := Lib.hid (R5.out.keepOne G.out (by omega))
            have B6 := Lib.hid (B5.out.trans (below_of_one G.out lw2 B5.out.size))
            have EL : Hid (∀ w', Ints w' g (wdTo p R xs R 0) → Calls Tryz.prog 107 #[.agg #[.int .i64 R, .int .i64 C2, .slice (some ⟨g, 0, none⟩) N2' N2'], .int .i64 R, .int .i64 p] w' (fun e w2 => e = .returned (.tuple #[.int .i64 ((elW p R xs).2.1.length : Int), .int .i64 (elW p R xs).2.2]) ∧ Cel w2 (some ⟨g, 0, none⟩) N2' N2' g (elW p R xs).1 ∧ w'.grownBy w2 (some g))) := fun w' hi' => by
              rw [wdTo_all] at hi'
              have lw : (wideL p R xs).length = N2' := by unfold wideL; rw [tab_length, HC2.out, HN2.out]
              have := iElim R C2 R N2' N2' g (some ⟨g, 0, none⟩) p (wideL p R xs) w' HN2.out.symm (by omega) (by have := HC2.out; omega) (by have := HC2.out; omega) PB.out (wideL_can (prmB_says PB.out).1 (by rw [HX.out, HNN.out])) (.inr ⟨rfl, Nat.le_refl _, lw, hi'⟩)
              unfold elW
              rw [← HC2.out] at this ⊢
              exact this
            obtain ⟨EW, hEW⟩ : ∃ EW, elW p R xs = EW := ⟨_, rfl⟩
            have LE : EW.1.length = N2' := by
              rw [← hEW]
              have := elW_len p R xs
              rw [HC2.out, HN2.out] at this
              exact this
            rw [hEW] at EL YY
            have II := Lib.hid I.out
            clear hEW I
            obtain ⟨q0, q1, q2, -, -, -⟩ := T6.out.all
            go_wp2_with fail
            refine (EL.out _ II.out).mono ?_
            rintro e w7 ⟨rfl, hc7, hg7⟩
            have Q7 := Lib.hid hc7
            have T7 := Lib.hid (T6.out.keepOne hg7 (by omega))
            have R7 := Lib.hid (R6.out.keepOne hg7 (by omega))
            have B7 := Lib.hid (B6.out.trans (below_of_one hg7 lw2 B6.out.size))
            clear hg7 hc7 q0 q1 q2 R6 T6 B6 II G EL
            by_cases hlt2 : EW.2.1.length < R
            · have RX : Hid (RES = MR.no) := by show _ = _; rw [YY.out, if_pos hlt2]
              obtain ⟨r0, r1, r2, f0, f1, f2⟩ := R7.out.all
              go_wp2_with fail
              obtain ⟨E0, E1, E2, -, -, -⟩ := (((R7.out.set0 (.int .i64 0)).set1 (.int .i64 0)).set2 (.slice none 0 0)).all
              rw [RX.out]
              exact bodyPost_ret (v := .tuple #[.agg #[.int .i64 0, .int .i64 0, .slice none 0 0], .bool false]) (by simp [results, Tryz.results134, go_sem, E0, E1, E2]) rfl ⟨_, rfl, .inl ⟨rfl, rfl⟩, ((B7.out.setCell l0 _).setCell l0 _).setCell l0 _⟩
            · have RX : Hid (RES = ⟨true, R, R, hfTo R EW.1 R 0⟩) := by show _ = _; rw [YY.out, if_neg hlt2]
              have u6 : IntKind.i64.wrap ((R : Int) * (R : Int)) = (N : Int) := by
                rw [show (R : Int) * (R : Int) = (N : Int) by rw [HNN.out, Int.natCast_mul]]
                exact IntWalk.i64_in _ (by omega)
              have hmk := makeInts N (by omega)
              have I8 : Hid (Ints ((w7.alloc (.cells (madeCells #[.int .i64 0] N) 3)).alloc (.cells #[.int .i64 R, .int .i64 R, .slice (some ⟨w7.heap.size, 0, none⟩) N N] 26)) w7.heap.size (hfTo R EW.1 0 0)) := by
                have := ((IntsC.made (w := w7) N (by omega) rfl).ints).old (.cells #[.int .i64 R, .int .i64 R, .slice (some ⟨w7.heap.size, 0, none⟩) N N] 26)
                rw [hfTo_zero, ← HNN.out]
                exact this
              have T8 : Hid (Blk3 ((w7.alloc (.cells (madeCells #[.int .i64 0] N) 3)).alloc (.cells #[.int .i64 R, .int .i64 R, .slice (some ⟨w7.heap.size, 0, none⟩) N N] 26)) (w7.heap.size + 1) 26 (.int .i64 R) (.int .i64 R) (.slice (some ⟨w7.heap.size, 0, none⟩) N N)) := Blk3.at_ _ _ _ _ (by simp)
              have E8 : Hid (Below w7.heap.size w7 ((w7.alloc (.cells (madeCells #[.int .i64 0] N) 3)).alloc (.cells #[.int .i64 R, .int .i64 R, .slice (some ⟨w7.heap.size, 0, none⟩) N N] 26))) := ((Below.refl _ _).alloc (Nat.le_refl _) _).alloc (by simp) _
              have n9 : decide (EW.2.1.length < R) = false := decide_eq_false hlt2
              go_upto_region 17 with fail
              generalize (w7.alloc (.cells (madeCells #[.int .i64 0] N) 3)).alloc (.cells #[.int .i64 R, .int .i64 R, .slice (some ⟨w7.heap.size, 0, none⟩) N N] 26) = W8 at I8 T8 E8 ⊢
              have A8 := Lib.hid (T7.out.keep E8.out T7.out.lt)
              have R8 := Lib.hid (R7.out.keep E8.out R7.out.lt)
              have B8 := Lib.hid (B7.out.trans (E8.out.mono B7.out.size))
              have Q8 := Lib.hid (Q7.out.keep E8.out)
              have lg7 := T7.out.lt
              have lw7 := B7.out.size
              obtain ⟨g2, hg2⟩ : ∃ g2, w7.heap.size = g2 := ⟨_, rfl⟩
              obtain ⟨b14, hb14⟩ : ∃ b14, g2 + 1 = b14 := ⟨_, rfl⟩
              rw [hg2] at I8 T8 E8 lg7 lw7 ⊢
              rw [hb14] at T8 ⊢
              have l14 : g2 < b14 := by omega
              have RW2 : Hid (∀ i, i < R → ∀ w', Calls Tryz.prog 44 #[.agg #[.int .i64 R, .int .i64 R, .slice (some ⟨g2, 0, none⟩) N N], .int .i64 i] w' (RowAt (some ⟨g2, 0, none⟩) (i * R) R w')) := fun i hi w' => iRowIn R R i (i * R) N N _ w' (.inr ⟨g2, 0, rfl⟩) rfl (DLN.out i hi) (Nat.le_refl _) (fun h => by cases h) (by omega) (by omega)
              clear hmk hg2 hb14 n9 hlt2 Q7 R7 T7 B7
              go_wp2_with fail
              go_loopw [15, 85] (fun _ v85 wr => ∃ i : Nat, v85 = .int .i64 i ∧ i ≤ R ∧ Ints wr g2 (hfTo R EW.1 i 0) ∧ W8.grownBy wr (some g2)) (fun _ v85 _ => R - (intOf v85).toNat)
              case atStart => exact ⟨0, rfl, by omega, I8.out, World.grownBy.refl _ _⟩
              case round =>
                clear I8
                obtain ⟨i, rfl, hi, hI, hgr⟩ := hrel
                have I := Lib.hid hI
                have G := Lib.hid hgr
                clear hI hgr
                have T9 := Lib.hid (T8.out.keepOne G.out (by omega))
                have A9 := Lib.hid (A8.out.keepOne G.out (by omega))
                by_cases hlt : i < R
                · have c20 : R ≤ C2 := by have := HC2.out; omega
                  have h0 : 0 < N2' := by have := DL2.out i hlt; omega
                  have QB := Lib.hid ((Q8.out.ints h0).2.move (w' := wr) (G.out.block g (Q8.out.ints h0).2.lt (by simp; omega)))
                  have e8 : (hfTo R EW.1 i 0).take (i * R) ++ (rwL R fun b => EW.1.getD (i * C2 + (R + b)) 0) ++ (hfTo R EW.1 i 0).drop (i * R + R) = hfTo R EW.1 (i + 1) 0 := hfTo_lay hlt (rwL_length _ _) (fun b hb => by rw [rwL_at hb, HC2.out])
                  have EE := Lib.hid e8
                  clear e8
                  go_wp2_with fail
                  refine wp_region_held_drew (S := fun w' => Blk3 w' b14 26 (.int .i64 R) (.int .i64 R) (.slice (some ⟨g2, 0, none⟩) N N) ∧ Blk3 w' b9 26 (.int .i64 R) (.int .i64 C2) (.slice (some ⟨g, 0, none⟩) N2' N2')) (by kernel_rfl) ⟨T9.out.drew, A9.out.drew⟩ (fun hH => ?_)
                  have X9 := Lib.hid I.out.drew
                  have Y9 := Lib.hid (grown_drew_one G.out)
                  have Z9 := Lib.hid QB.out.drew
                  generalize wr.drew = wd at hH X9 Y9 Z9 ⊢
                  refine wpAnyH_take (i := 0) (v := ?_) (by simp only [List.getElem?_toArray, List.getElem?_cons_zero]; rfl) (by kernel_rfl) (by kernel_rfl) (by kernel_rfl) (by exact fun _ _ _ h => h) (Or.inl ⟨by rfl, ?_⟩) hH ?_
                  rotate_left
                  · (intro wS hS; (try dsimp only at hS); have k0 := hS.1.cell0; have k1 := hS.1.cell1; have k2 := hS.1.cell2; clear hS; go_simp; try rfl)
                  try simp only [Act.put, List.setIfInBounds_toArray, List.set_cons_zero, List.set_cons_succ]
                  refine wpAnyH_take (i := 1) (v := ?_) (by simp only [List.getElem?_toArray, List.getElem?_cons_succ, List.getElem?_cons_zero]; rfl) (by kernel_rfl) (by kernel_rfl) (by kernel_rfl) (by exact fun _ _ _ h => h) (Or.inl ⟨by rfl, ?_⟩) hH ?_
                  rotate_left
                  · (intro wS hS; clear hS; go_simp; try rfl)
                  try simp only [Act.put, List.setIfInBounds_toArray, List.set_cons_zero, List.set_cons_succ]
                  refine wpAnyH_take (i := 3) (v := ?_) (by simp only [List.getElem?_toArray, List.getElem?_cons_succ, List.getElem?_cons_zero]; rfl) (by kernel_rfl) (by kernel_rfl) (by kernel_rfl) (by exact fun _ _ _ h => h) (Or.inl ⟨by rfl, ?_⟩) hH ?_
                  rotate_left
                  · (intro wS hS; (try dsimp only at hS); have k0 := hS.2.cell0; have k1 := hS.2.cell1; have k2 := hS.2.cell2; clear hS; go_simp; try rfl)
                  try simp only [Act.put, List.setIfInBounds_toArray, List.set_cons_zero, List.set_cons_succ]
                  refine wpAnyH_take (i := 4) (v := ?_) (by simp only [List.getElem?_toArray, List.getElem?_cons_succ, List.getElem?_cons_zero]; rfl) (by kernel_rfl) (by kernel_rfl) (by kernel_rfl) (by exact fun _ _ _ h => h) (Or.inl ⟨by rfl, ?_⟩) hH ?_
                  rotate_left
                  · (intro wS hS; clear hS; go_simp; try rfl)
                  try simp only [Act.put, List.setIfInBounds_toArray, List.set_cons_zero, List.set_cons_succ]
                  refine wpAnyH_take (i := 6) (v := ?_) (by simp only [List.getElem?_toArray, List.getElem?_cons_succ, List.getElem?_cons_zero]; rfl) (by kernel_rfl) (by kernel_rfl) (by kernel_rfl) (by exact fun _ _ _ h => h) (Or.inl ⟨by rfl, ?_⟩) hH ?_
                  rotate_left
                  · (intro wS hS; clear hS; go_simp; try rfl)
                  try simp only [Act.put, List.setIfInBounds_toArray, List.set_cons_zero, List.set_cons_succ]
                  refine wpAnyH_ready (rs := [2]) (by kernel_rfl) (by simp) ?_
                  refine AllReadyH.cons (by simp only [List.getElem?_toArray, List.getElem?_cons_succ, List.getElem?_cons_zero]; rfl) (fun K hK => ?_) AllReadyH.nil
                  go_simp
                  (with_reducible refine (RW2.out i hlt _).mono ?_)
                  rintro e v1 ⟨q1, m1, rfl, hm1, hq1, -, hb1⟩
                  obtain rfl := hq1 g2 0 rfl (by omega)
                  rw [Nat.zero_add]
                  have X9 := Lib.hid (X9.out.keep hb1 X9.out.lt)
                  have Y9 := Lib.hid (Y9.out.trans (grown_of_below hb1 _))
                  have Z9 := Lib.hid (Z9.out.keep hb1 Z9.out.lt)
                  try dsimp only
                  refine hK.out _ _ ?_ (fun hH2 => ?_)
                  · exact ⟨hH.1.step hb1, hH.2.step hb1⟩
                  clear hK K hH
                  have hH := hH2
                  clear hH2
                  try simp only [Act.put, List.setIfInBounds_toArray, List.set_cons_zero, List.set_cons_succ]
                  refine wpAnyH_ready (rs := [5]) (by kernel_rfl) (by simp) ?_
                  refine AllReadyH.cons (by simp only [List.getElem?_toArray, List.getElem?_cons_succ, List.getElem?_cons_zero]; rfl) (fun K hK => ?_) AllReadyH.nil
                  go_simp
                  (with_reducible refine (RW9.out i hlt _).mono ?_)
                  rintro e v2 ⟨q2, m2, rfl, hm2, hq2, -, hb2⟩
                  obtain rfl := hq2 g 0 rfl (by omega)
                  rw [Nat.zero_add]
                  have X9 := Lib.hid (X9.out.keep hb2 X9.out.lt)
                  have Y9 := Lib.hid (Y9.out.trans (grown_of_below hb2 _))
                  have Z9 := Lib.hid (Z9.out.keep hb2 Z9.out.lt)
                  try dsimp only
                  refine hK.out _ _ ?_ (fun hH2 => ?_)
                  · exact ⟨hH.1.step hb2, hH.2.step hb2⟩
                  clear hK K hH
                  have hH := hH2
                  clear hH2
                  try simp only [Act.put, List.setIfInBounds_toArray, List.set_cons_zero, List.set_cons_succ]
                  have c22 : (R : Int) ≤ (C2 : Int) := by omega
                  have c23 : ¬ m2 = R := by have := HC2.out; omega
                  refine wpAnyH_take (i := 7) (v := ?_) (by simp only [List.getElem?_toArray, List.getElem?_cons_succ, List.getElem?_cons_zero]; rfl) (by kernel_rfl) (by kernel_rfl) (by kernel_rfl) (by exact fun _ _ _ h => h) (Or.inl ⟨by rfl, ?_⟩) hH ?_
                  rotate_left
                  · (intro wS hS; clear hS; go_simp; try rfl)
                  try simp only [Act.put, List.setIfInBounds_toArray, List.set_cons_zero, List.set_cons_succ]
                  rw [show C2 - R = R by have := HC2.out; omega]
                  obtain ⟨w8, hrun, hi8, hg8⟩ := copyInts v2 g2 (i * R) R m1 R (m2 - R) (some ⟨g, i * C2 + R, none⟩) (hfTo R EW.1 i 0) (rwL R fun b => EW.1.getD (i * C2 + (R + b)) 0) X9.out (Z9.out.rdAt (by rw [LE]; have := DL2.out i hlt; have := HC2.out; omega)) (rwL_length _ _) (by omega) (Nat.le_refl _) (by rw [hfTo_length]; exact DLR.out i hlt) 3
                  refine wpAnyH_ready (rs := [8]) (by kernel_rfl) (by simp) ?_
                  refine AllReadyH.cons (by simp only [List.getElem?_toArray, List.getElem?_cons_succ, List.getElem?_cons_zero]; rfl) (fun K hK => ?_) AllReadyH.nil
                  refine step_copy rfl _ _ 24 rfl _ _ rfl rfl _ _ hrun ?_
                  try dsimp only
                  refine hK.out _ _ ⟨hH.1.keepOne hg8 (by omega), hH.2.keepOne hg8 (by omega)⟩ (fun hH2 => ?_)
                  clear hK K hH hH2
                  try simp only [Act.put, List.setIfInBounds_toArray, List.set_cons_zero, List.set_cons_succ]
                  refine wpAnyH_done (by kernel_rfl) ?_ _
                  rw [EE.out] at hi8
                  have I8 := Lib.hid hi8
                  have G8 := Lib.hid (Y9.out.trans hg8)
                  clear hi8 hg8 hrun
                  go_wp2_with fail
                  go_roundw
                  case rel => exact ⟨i + 1, by go_num, by omega, I8.out, G8.out⟩
                  case measure => simp [intOf]; omega
                · obtain rfl : R = i := by omega
                  have R9 := Lib.hid (R8.out.keepOne G.out (by omega))
                  have B9 := Lib.hid (B8.out.trans (below_of_one G.out lw7 B8.out.size))
                  obtain ⟨q0, q1, q2, -, -, -⟩ := T9.out.all
                  obtain ⟨r0, r1, r2, f0, f1, f2⟩ := R9.out.all
                  have LN : (hfTo R EW.1 R 0).length = N := by rw [hfTo_length, HNN.out]
                  go_wp2_with fail
                  obtain ⟨E0, E1, E2, -, -, -⟩ := (((R9.out.set0 (.int .i64 R)).set1 (.int .i64 R)).set2 (.slice (some ⟨g2, 0, none⟩) N N)).all
                  rw [RX.out]
                  refine bodyPost_ret (v := .tuple #[.agg #[.int .i64 R, .int .i64 R, .slice (some ⟨g2, 0, none⟩) N N], .bool true]) (by simp [results, Tryz.results134, go_sem, E0, E1, E2]) rfl ⟨_, rfl, .inr ⟨g2, N, by rw [LN], lw7, ?_, by rw [LN]; exact Nat.le_refl _, by rw [LN]; omega⟩, ((B9.out.setCell l0 _).setCell l0 _).setCell l0 _⟩
                  exact ((I.out.far (a := ⟨rb, 0, none⟩) (by show g2 ≠ rb; omega) _).far (a := ⟨rb, 1, none⟩) (by show g2 ≠ rb; omega) _).far (a := ⟨rb, 2, none⟩) (by show g2 ≠ rb; omega) _
      · have RX := Lib.hid (N3.out h12)
        have n2 : decide ((12 : Int) < (R : Int)) = true := decide_eq_true (by omega)
        obtain ⟨r0, r1, r2, f0, f1, f2⟩ := R2.out.all
        go_wp2_with fail
        obtain ⟨E0, E1, E2, -, -, -⟩ := (((R2.out.set0 (.int .i64 0)).set1 (.int .i64 0)).set2 (.slice none 0 0)).all
        rw [RX.out]
        exact bodyPost_ret (v := .tuple #[.agg #[.int .i64 0, .int .i64 0, .slice none 0 0], .bool false]) (by simp [results, Tryz.results134, go_sem, E0, E1, E2]) rfl ⟨_, rfl, .inl ⟨rfl, rfl⟩, ((B2.out.setCell l0 _).setCell l0 _).setCell l0 _⟩
    · have n1 : ((R : Int) != (C : Int)) = true := by simp; omega
      have RX := Lib.hid (N2.out hRC)
      obtain ⟨r0, r1, r2, f0, f1, f2⟩ := R2.out.all
      go_wp2_with fail
      obtain ⟨E0, E1, E2, -, -, -⟩ := (((R2.out.set0 (.int .i64 0)).set1 (.int .i64 0)).set2 (.slice none 0 0)).all
      rw [RX.out]
      exact bodyPost_ret (v := .tuple #[.agg #[.int .i64 0, .int .i64 0, .slice none 0 0], .bool false]) (by simp [results, Tryz.results134, go_sem, E0, E1, E2]) rfl ⟨_, rfl, .inl ⟨rfl, rfl⟩, ((B2.out.setCell l0 _).setCell l0 _).setCell l0 _⟩
  · have RX : Hid (ivX r c p xs = MR.no) := ivX_no1 hh
    rw [(rkM_no hh).2.1] at RD
    obtain ⟨L, hL⟩ : ∃ L, xs.length = L := ⟨_, rfl⟩
    rw [hL] at RD K0 R0 B0 S0 ⊢
    clear h hn hh hL K0
    go_enter Tryz.func134, Tryz.ntmps134
    go_upto_region 1 with fail
    have B0' := B0.out
    go_wp2_with fail
    refine (RD.out _ B0.out).mono ?_
    rintro e w1 ⟨v, rfl, own, hb⟩
    obtain ⟨q, cap, rfl, -, -⟩ := own.form
    have s0 := S0.out
    have s1 := hb.size
    have Bx := B0.out.trans (hb.mono (by omega))
    have B2 := Lib.hid (Bx.alloc Bx.size (.cells #[.int .i64 MR.no.r, .int .i64 MR.no.c, .slice q MR.no.zs.length cap] 26))
    have R2 := Lib.hid ((R0.out.step hb).old (.cells #[.int .i64 MR.no.r, .int .i64 MR.no.c, .slice q MR.no.zs.length cap] 26))
    have l0 : w.heap.size ≤ w.heap.size + 1 := Nat.le_succ _
    clear hb own Bx B0' B0 R0
    have ok : MR.no.ok = false := rfl
    rw [ok]
    obtain ⟨r0, r1, r2, f0, f1, f2⟩ := R2.out.all
    go_wp2_with fail
    obtain ⟨E0, E1, E2, -, -, -⟩ := (((R2.out.set0 (.int .i64 0)).set1 (.int .i64 0)).set2 (.slice none 0 0)).all
    rw [RX.out]
    exact bodyPost_ret (v := .tuple #[.agg #[.int .i64 0, .int .i64 0, .slice none 0 0], .bool false]) (by simp [results, Tryz.results134, go_sem, E0, E1, E2]) rfl ⟨_, rfl, .inl ⟨rfl, rfl⟩, ((B2.out.setCell l0 _).setCell l0 _).setCell l0 _⟩
end Go.Proofs.YtcapddcmnjeloaaGreatDoor
end
