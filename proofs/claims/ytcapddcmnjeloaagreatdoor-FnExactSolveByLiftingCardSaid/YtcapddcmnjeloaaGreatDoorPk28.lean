/-
  Texts of this seat, joined: ZCSvSl · ZCSvM · ZCMatI · ZCRwI · ZCCpI · ZCPrI · ZCPrI2 · ZCRgX · ZCBlk1
-/
import Derived.Deep.LoopGhost
import Derived.Deep.CutBlock
import Derived.Deep.DeepCutAuto
import Derived.BigQuiet
import Derived.Deep.QuietTactic
import Derived.IntWalk
import Derived.Laws.CopyOwn
import Derived.RangeFuncNested
import Derived.RangeFuncBound
import Derived.RangeFuncCalls
import Derived.RangeFuncLeaves
import Derived.Shelf.Abstract
import Derived.WalkKit
import Derived.OwnWalkIn
import Derived.TacticsInMore
import Derived.LoopNIn
import Derived.LoopIn
import Derived.Test.YtcapddcmnjeloaaGreatDoorProg
import Derived.Test.YtcapddcmnjeloaaGreatDoorPk23
import Derived.Test.YtcapddcmnjeloaaGreatDoorPk24
import Derived.Test.YtcapddcmnjeloaaGreatDoorPk25
import Derived.Test.YtcapddcmnjeloaaGreatDoorPk26
import Derived.Test.YtcapddcmnjeloaaGreatDoorPk27

section
/-
  Chapter 11, in the model: SolveByLifting.
-/
namespace Go.Proofs.YtcapddcmnjeloaaGreatDoor
set_option maxRecDepth 100000
open Go.RowKit
theorem ivX_200 (r c : Int) (xs : List Int) : (ivX r c 200 xs).ok = false := by
  cases h : (ivX r c 200 xs).ok with
  | false => rfl
  | true =>
    obtain ⟨n, -, -, -, hp, -⟩ := ivX_says h
    exact absurd hp (by decide +kernel)
theorem slF3 {W w' : World} {b : Nat} {t : TypeId} {p q r z1 z2 z3 : Value} {y1 y2 y3 : Addr} (h0 : Blk3 W b t p q r) (hz1 : W.cell? y1 = some z1) (hz2 : W.cell? y2 = some z2) (hz3 : W.cell? y3 = some z3) (hb : Below W.heap.size W w') :
    w'.cell? ⟨b, 2, none⟩ = some r ∧ w'.cell? y1 = some z1 ∧ w'.cell? y2 = some z2 ∧ w'.cell? y3 = some z3 := by
  obtain ⟨-, -, a3, -, -, -⟩ := (h0.step hb).all
  have far : ∀ {a : Addr} {u : Value}, W.cell? a = some u → w'.cell? a = some u := fun {a u} h => (hb.cell (World.block_lt_of_cell? W a h)).trans h
  exact ⟨a3, far hz1, far hz2, far hz3⟩
theorem slF2 {W w' : World} {z1 z2 : Value} {y1 y2 : Addr} (hz1 : W.cell? y1 = some z1) (hz2 : W.cell? y2 = some z2) (hb : Below W.heap.size W w') : w'.cell? y1 = some z1 ∧ w'.cell? y2 = some z2 :=
  ⟨(hb.cell (World.block_lt_of_cell? W _ hz1)).trans hz1, (hb.cell (World.block_lt_of_cell? W _ hz2)).trans hz2⟩
set_option maxHeartbeats 8000000 in
theorem sSl (r c : Int) (a : Option Addr) (m : Nat) (xs : List Int) (ab : Option Addr) (mb : Nat) (bs : List Int) (w : World) (h : Rd w a xs) (ha : Spot a) (hn : xs.length ≤ 16777216) (hb : Rd w ab bs) (hab : Spot ab) (hbn : bs.length ≤ 16777216) :
    Calls Tryz.prog 24 #[.agg #[.int .i64 r, .int .i64 c, .slice a xs.length m], .slice ab bs.length mb] w (QRes (slX r c xs bs).1 (slX r c xs bs).2 w) := by
  have RI : Hid (∀ w', Below w.heap.size w w' → Calls Tryz.prog 38 #[.agg #[.int .i64 r, .int .i64 c, .slice a xs.length m], .slice ab bs.length mb] w' (Gives (.bool (sysB r c xs bs)) w')) := fun w' hb2 => sRight r c a m xs ab mb bs w' (h.below hb2) hn (hb.below hb2) hbn
  have K0 : Hid (Blk3 (w.alloc (.cells #[.int .i64 r, .int .i64 c, .slice a xs.length m] 26)) w.heap.size 26 (.int .i64 r) (.int .i64 c) (.slice a xs.length m)) := Blk3.at_ _ _ _ _ rfl
  have B0 : Hid (Below w.heap.size w (w.alloc (.cells #[.int .i64 r, .int .i64 c, .slice a xs.length m] 26))) := (Below.refl _ _).alloc (Nat.le_refl _) _
  cases hs : sysB r c xs bs with
  | false =>
    have V : Hid (slX r c xs bs = ([], false)) := slX_sys hs
    clear h hb
    go_enter Tryz.func24, Tryz.ntmps24
    go_wp2_with fail
    refine (RI.out _ B0.out).mono ?_
    rintro e w1 ⟨rfl, hb1⟩
    rw [hs]
    have B1 := Lib.hid (B0.out.trans (hb1.mono B0.out.size))
    clear hb1
    go_wp2_with fail
    rw [V.out]
    exact bodyPost_ret (v := .tuple #[.slice (some ⟨w1.heap.size, 0, none⟩) 0 0, .bool false]) (by simp [results, Tryz.results24, go_sem]) rfl ⟨_, rfl, OwnR.empty B1.out.size, B1.out.alloc B1.out.size _⟩
  | true =>
    obtain ⟨n, rfl, rfl, h6, hl, hnx, hbl, hnb⟩ := sysB_says hs
    have IV : Hid (∀ (p : Int) w', Below w.heap.size w w' → Calls Tryz.prog 66 #[.agg #[.int .i64 n, .int .i64 n, .slice a (n * n) m], .int .i64 p] w' (MatRes (ivX n n p xs) w')) := fun p w' hb2 => by
      have := sIvx n n p a m xs w' (h.below hb2) hn ha
      rw [hl] at this
      exact this
    have VN : Hid ((∀ q : Int, 101 ≤ q → q ≤ 199 → (ivX n n q xs).ok = false) → slX n n xs bs = ([], false)) := slX_none
    have VP : Hid (∀ p : Int, LfP n n xs p → LfH p n xs (ivL p n xs) bs ∧ ivX n n p xs = ⟨true, n, n, ivL p n xs⟩ ∧ slX n n xs bs = slQ p n xs bs) := fun p hp => ⟨(LfH.of hp h6 hl hnx hbl hnb).1, (LfH.of hp h6 hl hnx hbl hnb).2, slX_at hs hp⟩
    have P200 := Lib.hid (ivX_200 n n xs)
    have N36 : n * n ≤ 36 := Nat.mul_le_mul h6 h6
    have SR : Hid (∀ (az : Option Addr) (mz : Nat) (zs : List (Int × Int)) w', Below w.heap.size w w' → RdQ w' az zs → zs.length = n → Calls Tryz.prog 14 #[.agg #[.int .i64 n, .int .i64 n, .slice a (n * n) m], .slice ab n mb, .slice az n mz] w' (Gives (.bool (irB n n xs bs zs)) w')) := fun az mz zs w' hb2 hz hzl => by
      have := sRational n n a m xs ab mb bs az mz zs w' (h.below hb2) hn (hb.below hb2) hbn hz (by omega)
      rw [hl, hbl, hzl] at this
      exact this
    have RA : Hid (Rd w a xs) := h
    have RB : Hid (Rd w ab bs) := hb
    have XA := Lib.hid hl
    have XB := Lib.hid hbl
    have IX : Hid (∀ i j, i < n → j < n → i * n + j < n * n ∧ IntKind.i64.wrap ((i : Int) * (n : Int)) = (i : Int) * (n : Int) ∧ IntKind.i64.wrap ((i : Int) * (n : Int) + (j : Int)) = ((i * n + j : Nat) : Int)) := fun i j hi hj => by
      have h1 : i * n + j < n * n := idx_lt hi hj
      have c1 : (i : Int) * (n : Int) = ((i * n : Nat) : Int) := (Int.natCast_mul _ _).symm
      refine ⟨by omega, IntWalk.i64_in _ (by rw [c1]; omega), ?_⟩
      rw [show (i : Int) * (n : Int) + (j : Int) = ((i * n + j : Nat) : Int) by rw [c1]; omega]
      exact IntWalk.i64_in _ (by omega)
    rw [hl, hbl] at RI
    rw [hl] at K0 B0 ⊢
    rw [hbl]
    generalize slX n n xs bs = RES at VN VP ⊢
    have HM := Lib.hid (rfl : n * n = n * n)
    obtain ⟨N, hN⟩ : ∃ N, n * n = N := ⟨_, rfl⟩
    have HNN := Lib.hid hN
    rw [hN] at RI K0 B0 IX IV SR XA N36 ⊢
    have hab := Lib.hid hab
    clear h hb hl hnx hbl hnb hn hbn hN ha HM
    go_enter Tryz.func24, Tryz.ntmps24
    go_wp2_with fail
    refine (RI.out _ B0.out).mono ?_
    rintro e w1 ⟨rfl, hb1⟩
    rw [hs]
    have K1 := Lib.hid (K0.out.step hb1)
    have B1 := Lib.hid (B0.out.trans (hb1.mono B0.out.size))
    clear hb1 hs RI K0 B0
    obtain ⟨p0, p1, p2, -, -, -⟩ := K1.out.all
    go_wp2_with fail
    refine (IV.out 101 _ B1.out).mono ?_
    rintro e w2 ⟨v, rfl, own, hb2⟩
    obtain ⟨q, cap, rfl, -, -⟩ := own.form
    have s1 := B1.out.size
    have k1 := K1.out.lt
    have s2 := hb2.size
    obtain ⟨b7, hb7⟩ : ∃ b7, w2.heap.size = b7 := ⟨_, rfl⟩
    -- the result's cells lie in a block of the call's own
    have O2 := own.le (B' := w.heap.size + 1) (by omega)
    have RQ : Hid (Rd (w2.alloc (.cells #[.int .i64 (ivX n n 101 xs).r, .int .i64 (ivX n n 101 xs).c, .slice q (ivX n n 101 xs).zs.length cap] 26)) q (ivX n n 101 xs).zs) := own.form.elim fun _ h => h.elim fun _ h => by
      obtain ⟨h1, h2, -⟩ := h
      injection h1 with h1
      subst h1
      exact h2.below ((Below.refl _ _).alloc (Nat.le_refl _) _)
    have K2 := Lib.hid ((K1.out.step hb2).old (.cells #[.int .i64 (ivX n n 101 xs).r, .int .i64 (ivX n n 101 xs).c, .slice q (ivX n n 101 xs).zs.length cap] 26))
    have K7 : Hid (Blk3 (w2.alloc (.cells #[.int .i64 (ivX n n 101 xs).r, .int .i64 (ivX n n 101 xs).c, .slice q (ivX n n 101 xs).zs.length cap] 26)) w2.heap.size 26 (.int .i64 (ivX n n 101 xs).r) (.int .i64 (ivX n n 101 xs).c) (.slice q (ivX n n 101 xs).zs.length cap)) := Blk3.at_ _ _ _ _ rfl
    have B2 := Lib.hid ((B1.out.trans (hb2.mono s1)).alloc (by omega) (.cells #[.int .i64 (ivX n n 101 xs).r, .int .i64 (ivX n n 101 xs).c, .slice q (ivX n n 101 xs).zs.length cap] 26))
    clear own hb2 K1 B1 p0 p1 p2
    go_wp2_with fail
    rw [hb7] at K7
    generalize w2.alloc (.cells #[.int .i64 (ivX n n 101 xs).r, .int .i64 (ivX n n 101 xs).c, .slice q (ivX n n 101 xs).zs.length cap] 26) = W2 at RQ K2 K7 B2 ⊢
    have w7 : w.heap.size < b7 := by omega
    clear hb7 s1 k1 s2
    go_loopw [6, 8] (fun v6 v8 wr => ∃ (p : Nat) (q : Option Addr) (cap : Nat), v6 = .int .i64 p ∧ 101 ≤ p ∧ p ≤ 200 ∧ (∀ q : Int, 101 ≤ q → q < p → (ivX n n q xs).ok = false) ∧ v8 = .bool (ivX n n p xs).ok ∧ Blk3 wr b7 26 (.int .i64 (ivX n n p xs).r) (.int .i64 (ivX n n p xs).c) (.slice q (ivX n n p xs).zs.length cap) ∧ Rd wr q (ivX n n p xs).zs ∧ Blk3 wr w.heap.size 26 (.int .i64 n) (.int .i64 n) (.slice a N m) ∧ Below w.heap.size w wr) (fun v6 _ _ => 200 - (intOf v6).toNat)
    case atStart => exact ⟨101, q, cap, rfl, by omega, by omega, fun q h1 h2 => by omega, rfl, K7.out, RQ.out, K2.out, B2.out⟩
    case round =>
      clear RQ K2 K7 B2
      obtain ⟨p, q, cap, rfl, pl, ph, hf, rfl, h7, hrq, h2, hB⟩ := hrel
      have HF := Lib.hid hf
      have K7 := Lib.hid h7
      have RQ := Lib.hid hrq
      have K2 := Lib.hid h2
      have B2 := Lib.hid hB
      clear hf h7 hrq h2 hB
      obtain ⟨p0, p1, p2, -, -, -⟩ := K2.out.all
      have lw := K7.out.lt
      cases hok : (ivX n n p xs).ok with
      | false =>
        have HF2 : Hid (∀ q : Int, 101 ≤ q → q < ((p + 1 : Nat) : Int) → (ivX n n q xs).ok = false) := fun q h1 h2 => by
          by_cases h3 : q < p
          · exact HF.out q h1 h3
          · obtain rfl : q = p := by omega
            exact hok
        by_cases hp2 : p < 200
        · have wp1 : IntKind.i64.wrap ((p : Int) + 1) = ((p + 1 : Nat) : Int) := by rw [Int.natCast_add]; exact IntWalk.i64_in _ (by omega)
          clear hok HF
          go_wp2_with fail
          refine (IV.out _ _ B2.out).mono ?_
          rintro e w3 ⟨v, rfl, own, hb3⟩
          obtain ⟨q2, cap2, rfl, -, -⟩ := own.form
          have K7 := Lib.hid (K7.out.keep hb3 lw)
          have K3 := Lib.hid (K2.out.step hb3)
          have B3 := Lib.hid (B2.out.trans (hb3.mono B2.out.size))
          have OF := Lib.hid (own.far3' lw (.int .i64 (ivX n n ((p + 1 : Nat) : Int) xs).r) (.int .i64 (ivX n n ((p + 1 : Nat) : Int) xs).c) (.slice q2 (ivX n n ((p + 1 : Nat) : Int) xs).zs.length cap2))
          obtain ⟨y0, y1, y2, y3, y4, y5⟩ := K7.out.all
          clear own hb3 RQ K2 B2 p0 p1 p2
          go_wp2_with fail
          go_roundw
          case rel =>
            refine ⟨p + 1, q2, cap2, by first | rfl | go_num, by omega, by omega, HF2.out, rfl, ((K7.out.set0 _).set1 _).set2 _, ?_, ((K3.out.far (by show w.heap.size ≠ b7; omega) _).far (by show w.heap.size ≠ b7; omega) _).far (by show w.heap.size ≠ b7; omega) _, ((B3.out.setCell (by show w.heap.size ≤ b7; omega) _).setCell (by show w.heap.size ≤ b7; omega) _).setCell (by show w.heap.size ≤ b7; omega) _⟩
            obtain ⟨q3, cap3, e3, h3, -⟩ := OF.out.form
            injection e3 with e3
            subst e3
            exact h3
          case measure => simp [intOf]; omega
        · obtain rfl : p = 200 := by omega
          have V := Lib.hid (VN.out fun q h1 h2 => HF.out q h1 (by omega))
          go_wp2_with fail
          rw [V.out]
          exact bodyPost_ret (v := .tuple #[.slice (some ⟨wr.heap.size, 0, none⟩) 0 0, .bool false]) (by simp [results, Tryz.results24, go_sem]) rfl ⟨_, rfl, OwnR.empty B2.out.size, B2.out.alloc B2.out.size _⟩
      | true =>
        have p9 : p ≤ 199 := by
          have : p ≠ 200 := fun h => by subst h; rw [show ((200 : Nat) : Int) = 200 from rfl, P200.out] at hok; cases hok
          omega
        obtain ⟨H9, ei, VQ9⟩ := VP.out p ⟨by omega, by omega, hok, HF.out⟩
        have SLR : Hid (∀ i, slR p n xs bs i = rtX ((lfS p n xs (ivL p n xs) bs (lfK p)).1.getD i 0) ((p : Int) ^ lfK p) (lfB ((p : Int) ^ lfK p))) := fun i => by unfold slR; rw [ei]
        have H := Lib.hid H9
        have VQ := Lib.hid VQ9
        clear H9 VQ9
        rw [ei] at K7 RQ
        have HV := Lib.hid H.out.hv
        rw [HV.out, HNN.out] at K7
        dsimp only at K7 RQ
        clear hok ei HF VN VP IV P200
        obtain ⟨vs, hvs⟩ : ∃ vs, ivL p n xs = vs := ⟨_, rfl⟩
        have EV := Lib.hid hvs
        rw [hvs] at RQ H HV
        clear hvs
        rename World => W
        have MK : ∀ w', (Instr.makeSlice 24 (.int .i64 (n : Int)) (.int .i64 (n : Int))).run Tryz.prog w' = .ok (.slice (some ⟨w'.heap.size, 0, none⟩) n n) (w'.alloc (.cells (madeCells #[.int .i64 0] n) 3)) := fun w' => makeInts n (by omega) w'
        have AC : IntsC ((W.alloc (.cells (madeCells #[.int .i64 0] n) 3)).alloc (.cells #[] 3)) (W.heap.size + 1) 0 [] := ⟨Nat.zero_le _, [], rfl, by have := heap_alloc_new (W.alloc (.cells (madeCells #[.int .i64 0] n) 3)) (.cells #[] 3); simpa using this⟩
        have BA : Below W.heap.size W ((W.alloc (.cells (madeCells #[.int .i64 0] n) 3)).alloc (.cells #[] 3)) := ((Below.refl _ _).alloc (Nat.le_refl _) _).alloc (by simp) _
        have G0 : Ints ((W.alloc (.cells (madeCells #[.int .i64 0] n) 3)).alloc (.cells #[] 3)) W.heap.size (List.replicate n 0) := (Ints.made n rfl).old _
        obtain ⟨gr, cr, w5, hr5, hi5, hg5, hgr5⟩ := appendCopy ((W.alloc (.cells (madeCells #[.int .i64 0] n) 3)).alloc (.cells #[] 3)) (B := W.heap.size + 1) hab.out mb (RB.out.below (B2.out.trans (BA.mono B2.out.size))) (by rw [XB.out]; omega) (by simp) AC (Nat.le_refl _)
        rw [XB.out] at hr5
        have GX := Lib.hid (G0.one hgr5 (by omega))
        have B5 : Hid (Below W.heap.size W w5) := BA.grown hgr5 BA.size (fun k e => by injection e with e; omega)
        have GR := Lib.hid hi5
        have HR := Lib.hid hr5
        have RW := Lib.hid (RA.out.below B2.out)
        clear AC BA G0 hr5 hi5 hgr5 RA
        go_upto_block 2 with (at_builtin; refine wpList_appendR rfl _ _ 24 rfl _ _ rfl rfl _ _ HR.out ?_)
        obtain ⟨gx, hgx⟩ : ∃ gx, W.heap.size = gx := ⟨_, rfl⟩
        have EW := Lib.hid hgx
        rw [hgx] at GX B5 hg5 lw ⊢
        have L7 : Hid (b7 < gx) := lw
        have L0 : Hid (w.heap.size < gx) := by show _ < _; omega
        clear HR RB hab XB
        have n0 : ((p : Int) == 0) = false := by simp; omega
        have np : ¬ p = 0 := by omega
        obtain ⟨K, hK⟩ : ∃ K, lfK p = K := ⟨_, rfl⟩
        have EK := Lib.hid hK
        clear hK
        go_cut [12, 13, 14, 15, 16, 17, 18] from 59 to 157 (fun v12 _ _ _ _ _ _ wx => v12 = .int .i64 ((p : Int) ^ K) ∧ Ints wx gx (lfS p n xs vs bs K).1 ∧ Below gx W wx)
        case first =>
          go_wp2_with fail
          go_loopg [12, 13, 14, 15, 16, 17, 18] K (fun gk v12 _ _ _ _ _ _ wi => ∃ k : Nat, gk = K - k ∧ k ≤ K ∧ v12 = .int .i64 ((p : Int) ^ k) ∧ Ints wi gx (lfS p n xs vs bs k).1 ∧ Ints wi gr (lfS p n xs vs bs k).2 ∧ Below gx W wi)
          case atStart => exact ⟨0, rfl, Nat.zero_le _, by rw [Int.pow_zero], GX.out, GR.out, B5.out⟩
          case round =>
            clear GX GR B5
            obtain ⟨k, hgk, hk, rfl, hx, hr, hB⟩ := hrel
            have HG := Lib.hid hgk
            have GX := Lib.hid hx
            have GR := Lib.hid hr
            have B5 := Lib.hid hB
            clear hgk hx hr hB
            have PN := lfK_num (k := k) H.out.lo H.out.hi (by rw [EK.out]; exact hk)
            obtain ⟨P, hP⟩ : ∃ P : Int, (p : Int) ^ k = P := ⟨_, rfl⟩
            obtain ⟨D, hD⟩ : ∃ D : Int, (400000000 : Int) / p = D := ⟨_, rfl⟩
            have d9 : Int.tdiv 400000000 p = D := (Int.tdiv_eq_ediv_of_nonneg (by decide)).trans hD
            have EP := Lib.hid hP
            have ED := Lib.hid hD
            rw [hP] at PN ⊢
            obtain ⟨P1, P2⟩ := PN
            have D1 : 0 ≤ D ∧ D ≤ 400000000 := by rw [← hD]; exact ⟨Int.ediv_nonneg (by decide) (by omega), Int.ediv_le_self _ (by decide)⟩
            obtain ⟨D1, D2⟩ := D1
            clear hP hD
            by_cases c1 : P ≤ 200000000
            rotate_left
            · have hkK : Hid (k = K) := by
                refine Lib.hid ?_
                rw [← EK.out]
                refine lfK_end H.out.lo H.out.hi (by rw [EK.out]; exact hk) fun hg => c1 ?_
                rw [← EP.out]
                exact hg.1
              go_wp2_with fail
              go_meet
              case rel => exact ⟨by rw [← EP.out, hkK.out], by rw [← hkK.out]; exact GX.out, B5.out⟩
            by_cases c2 : P ≤ D
            rotate_left
            · have hkK : Hid (k = K) := by
                refine Lib.hid ?_
                rw [← EK.out]
                refine lfK_end H.out.lo H.out.hi (by rw [EK.out]; exact hk) fun hg => c2 ?_
                rw [← EP.out, ← ED.out]
                exact hg.2
              go_wp2_with fail
              go_meet
              case rel => exact ⟨by rw [← EP.out, hkK.out], by rw [← hkK.out]; exact GX.out, B5.out⟩
            have hkl : k < lfK p := lfK_more H.out.lo H.out.hi (by rw [EK.out]; exact hk) (by rw [EP.out]; exact ⟨c1, by rw [ED.out]; exact c2⟩)
            obtain ⟨us, hus⟩ : ∃ us, (lfS p n xs vs bs k).1 = us := ⟨_, rfl⟩
            obtain ⟨rs, hrs⟩ : ∃ rs, (lfS p n xs vs bs k).2 = rs := ⟨_, rfl⟩
            have EU := Lib.hid hus
            have ER := Lib.hid hrs
            have UL : Hid (us.length = n) := by refine Lib.hid ?_; rw [← hus]; exact lfS_xl k
            have RLn : Hid (rs.length = n) := by refine Lib.hid ?_; rw [← hrs]; exact (H.out.rest k).1
            rw [hus] at GX
            rw [hrs] at GR
            obtain ⟨gd, hgd⟩ : ∃ gd, wr.heap.size = gd := ⟨_, rfl⟩
            have lx := GX.out.lt
            have lr := GR.out.lt
            have GD : Hid (Ints (wr.alloc (.cells (madeCells #[.int .i64 0] n) 3)) gd (svTo p n vs rs 0 0)) := by
              refine Lib.hid ?_
              rw [svTo_zero]
              exact Ints.made n hgd.symm
            have GX := Lib.hid (GX.out.old (.cells (madeCells #[.int .i64 0] n) 3))
            have GR := Lib.hid (GR.out.old (.cells (madeCells #[.int .i64 0] n) 3))
            have B5 := Lib.hid (B5.out.alloc (by have := B5.out.size; have := EW.out; omega) (.cells (madeCells #[.int .i64 0] n) 3))
            have dx : gd ≠ gx := by omega
            have dr : gd ≠ gr := by omega
            have xr : gx ≠ gr := by omega
            have gx0 : Hid (gx ≤ gd) := by show gx ≤ gd; omega
            have gr0 : Hid (gx ≤ gr) := by show gx ≤ gr; omega
            clear hus hrs lx lr
            go_wp2_with fail
            generalize wr.alloc (.cells (madeCells #[.int .i64 0] n) 3) = W6 at GD GX GR B5 ⊢
            clear hgd
            go_loopw [14, 15] (fun v14 _ wj => ∃ i : Nat, v14 = .int .i64 i ∧ i ≤ n ∧ Ints wj gd (svTo p n vs rs i 0) ∧ Ints wj gx us ∧ Ints wj gr rs ∧ Below gx W wj) (fun v14 _ _ => n - (intOf v14).toNat)
            case atStart => exact ⟨0, rfl, Nat.zero_le _, GD.out, GX.out, GR.out, B5.out⟩
            case round =>
              clear GD GX GR B5
              obtain ⟨i, rfl, hi, hd, hx, hr, hB⟩ := hrel
              have GD := Lib.hid hd
              have GX := Lib.hid hx
              have GR := Lib.hid hr
              have B5 := Lib.hid hB
              clear hd hx hr hB
              by_cases hlt : i < n
              · go_wp2_with fail
                go_loopw [15] (fun v15 wj => ∃ j : Nat, v15 = .int .i64 j ∧ j ≤ n ∧ Ints wj gd (svTo p n vs rs i j) ∧ Ints wj gx us ∧ Ints wj gr rs ∧ Below gx W wj) (fun v15 _ => n - (intOf v15).toNat)
                case atStart => exact ⟨0, rfl, Nat.zero_le _, GD.out, GX.out, GR.out, B5.out⟩
                case round =>
                  clear GD GX GR B5
                  obtain ⟨j, rfl, hj, hd, hx, hr, hB⟩ := hrel
                  have GD := Lib.hid hd
                  have GX := Lib.hid hx
                  have GR := Lib.hid hr
                  have B5 := Lib.hid hB
                  clear hd hx hr hB
                  by_cases hjl : j < n
                  · have KJ := Lib.hid (K7.out.keep B5.out L7.out)
                    obtain ⟨x1, x2, x3⟩ := IX.out i j hlt hjl
                    have bW : Below W.heap.size W wr := by rw [EW.out]; exact B5.out
                    obtain ⟨b2, o2, rfl, hc2⟩ := (RQ.out.below bW) (i * n + j) (by rw [HV.out, HNN.out]; exact x1)
                    obtain ⟨z1, z2⟩ := H.out.can (i * n + j) (by rw [HV.out, HNN.out]; exact x1)
                    have hc1 := GD.out.cell (i := i) (by rw [svTo_length]; exact hlt)
                    rw [svTo_at hlt] at hc1
                    have hc3 := GR.out.cell (i := j) (by rw [RLn.out]; exact hjl)
                    have SF := Lib.hid (svF_step p n vs rs i j)
                    have s2 := svF_can (show (0 : Int) < p by omega) n vs rs i j
                    obtain ⟨s, hs⟩ : ∃ s, svF p n vs rs i j = s := ⟨_, rfl⟩
                    obtain ⟨Q, hQ⟩ : ∃ Q, i * n + j = Q := ⟨_, rfl⟩
                    obtain ⟨x, hx⟩ : ∃ x, rs.getD j 0 = x := ⟨_, rfl⟩
                    obtain ⟨u, hu⟩ : ∃ u, vs.getD (i * n + j) 0 = u := ⟨_, rfl⟩
                    rw [hs] at SF s2 hc1
                    rw [hx] at SF hc3
                    rw [hu] at SF hc2 z1 z2
                    rw [hQ] at x1 x3 hc2
                    have Q0 : (0 : Int) ≤ (Q : Int) := by omega
                    have Q1 : (Q : Int) < (N : Int) := by omega
                    have Y1 := Lib.hid hc1
                    have Y2 := Lib.hid hc2
                    have Y3 := Lib.hid hc3
                    have m0 : 0 ≤ x % p ∧ x % p < p := ⟨Int.emod_nonneg _ (by omega), Int.emod_lt_of_pos _ (by omega)⟩
                    obtain ⟨y, hy⟩ : ∃ y, x % (p : Int) = y := ⟨_, rfl⟩
                    have Y := Lib.hid hy
                    rw [hy] at m0 SF
                    obtain ⟨m3, m4⟩ := mul_bd z1 z2 m0.1 m0.2 (by omega)
                    obtain ⟨o, ho⟩ : ∃ o, u * y = o := ⟨_, rfl⟩
                    have v2 : IntKind.i64.wrap (u * y) = o := by rw [← ho]; exact IntWalk.i64_in _ (by omega)
                    rw [ho] at m3 m4 SF
                    obtain ⟨f, hf⟩ : ∃ f, s + o = f := ⟨_, rfl⟩
                    have v3 : IntKind.i64.wrap (s + o) = f := by rw [← hf]; exact IntWalk.i64_in _ (by omega)
                    rw [hf] at SF
                    have e2 : Int.tmod f p = f % p := Int.tmod_eq_emod_of_nonneg (by omega)
                    have MD : Hid (∀ w', Calls Tryz.prog 67 #[.int .i64 x, .int .i64 p] w' fun e w2 => e = .returned (.int .i64 y) ∧ Below w'.heap.size w' w2) := fun w' => by
                      refine (sMod x p w' (by omega) (by omega)).mono ?_
                      rintro e w2 ⟨rfl, rfl⟩
                      exact ⟨by rw [Y.out], Below.refl _ _⟩
                    have ds := GD.out.lt
                    clear hc1 hc2 hc3 bW hs hQ hx hu hy ho hf z1 z2 m0 m3 m4
                    go_wp2_with fail
                    refine wp_region_T (S := fun w' => Below wr.heap.size wr w') (T := fun j => j == 26) (by kernel_rfl) (Below.refl _ _).drew (fun hH => ?_)
                    refine wpAnyT_take (i := 0) (v := ?_) (by simp only [List.getElem?_toArray, List.getElem?_cons_zero]; rfl) (by kernel_rfl) (by kernel_rfl) (by kernel_rfl) (by kernel_rfl) (one_only 26 (by kernel_rfl)) (by exact fun _ _ _ h => h) (Or.inl ⟨by rfl, ?_⟩) hH ?_
                    rotate_left
                    · (intro wS hS; clear hS; go_simp; try rfl)
                    try simp only [Act.put, List.setIfInBounds_toArray, List.set_cons_zero, List.set_cons_succ]
                    refine wpAnyT_take (i := 1) (v := ?_) (by simp only [List.getElem?_toArray, List.getElem?_cons_succ, List.getElem?_cons_zero]; rfl) (by kernel_rfl) (by kernel_rfl) (by kernel_rfl) (by kernel_rfl) (one_only 26 (by kernel_rfl)) (by exact fun _ _ _ h => h) (Or.inl ⟨by rfl, ?_⟩) hH ?_
                    rotate_left
                    · (intro wS hS; clear hS; go_simp; try rfl)
                    try simp only [Act.put, List.setIfInBounds_toArray, List.set_cons_zero, List.set_cons_succ]
                    refine wpAnyT_take (i := 2) (v := ?_) (by simp only [List.getElem?_toArray, List.getElem?_cons_succ, List.getElem?_cons_zero]; rfl) (by kernel_rfl) (by kernel_rfl) (by kernel_rfl) (by kernel_rfl) (one_only 26 (by kernel_rfl)) (by exact fun _ _ _ h => h) (Or.inl ⟨by rfl, ?_⟩) hH ?_
                    rotate_left
                    · (intro wS hS; clear hS; go_simp; try rfl)
                    try simp only [Act.put, List.setIfInBounds_toArray, List.set_cons_zero, List.set_cons_succ]
                    refine wpAnyT_take (i := 3) (v := ?_) (by simp only [List.getElem?_toArray, List.getElem?_cons_succ, List.getElem?_cons_zero]; rfl) (by kernel_rfl) (by kernel_rfl) (by kernel_rfl) (by kernel_rfl) (one_only 26 (by kernel_rfl)) (by exact fun _ _ _ h => h) (Or.inl ⟨by rfl, ?_⟩) hH ?_
                    rotate_left
                    · (intro wS hS; clear hS; go_simp; try rfl)
                    try simp only [Act.put, List.setIfInBounds_toArray, List.set_cons_zero, List.set_cons_succ]
                    refine wpAnyT_take (i := 4) (v := ?_) (by simp only [List.getElem?_toArray, List.getElem?_cons_succ, List.getElem?_cons_zero]; rfl) (by kernel_rfl) (by kernel_rfl) (by kernel_rfl) (by kernel_rfl) (one_only 26 (by kernel_rfl)) (by exact fun _ _ _ h => h) (Or.inl ⟨by rfl, ?_⟩) hH ?_
                    rotate_left
                    · (intro wS hS; clear hS; go_simp; try rfl)
                    try simp only [Act.put, List.setIfInBounds_toArray, List.set_cons_zero, List.set_cons_succ]
                    refine wpAnyT_take (i := 5) (v := ?_) (by simp only [List.getElem?_toArray, List.getElem?_cons_succ, List.getElem?_cons_zero]; rfl) (by kernel_rfl) (by kernel_rfl) (by kernel_rfl) (by kernel_rfl) (one_only 26 (by kernel_rfl)) (by exact fun _ _ _ h => h) (Or.inl ⟨by rfl, ?_⟩) hH ?_
                    rotate_left
                    · (intro wS hS; (try dsimp only at hS); obtain ⟨k1, k2, k3, k4⟩ := slF3 KJ.out Y1.out Y2.out Y3.out hS; go_simp; try rfl)
                    try simp only [Act.put, List.setIfInBounds_toArray, List.set_cons_zero, List.set_cons_succ]
                    refine wpAnyT_take (i := 6) (v := ?_) (by simp only [List.getElem?_toArray, List.getElem?_cons_succ, List.getElem?_cons_zero]; rfl) (by kernel_rfl) (by kernel_rfl) (by kernel_rfl) (by kernel_rfl) (one_only 26 (by kernel_rfl)) (by exact fun _ _ _ h => h) (Or.inl ⟨by rfl, ?_⟩) hH ?_
                    rotate_left
                    · (intro wS hS; clear hS; go_simp; try rfl)
                    try simp only [Act.put, List.setIfInBounds_toArray, List.set_cons_zero, List.set_cons_succ]
                    refine wpAnyT_take (i := 7) (v := ?_) (by simp only [List.getElem?_toArray, List.getElem?_cons_succ, List.getElem?_cons_zero]; rfl) (by kernel_rfl) (by kernel_rfl) (by kernel_rfl) (by kernel_rfl) (one_only 26 (by kernel_rfl)) (by exact fun _ _ _ h => h) (Or.inl ⟨by rfl, ?_⟩) hH ?_
                    rotate_left
                    · (intro wS hS; (try dsimp only at hS); obtain ⟨k1, k2, k3, k4⟩ := slF3 KJ.out Y1.out Y2.out Y3.out hS; go_simp; try rfl)
                    try simp only [Act.put, List.setIfInBounds_toArray, List.set_cons_zero, List.set_cons_succ]
                    refine wpAnyT_take (i := 8) (v := ?_) (by simp only [List.getElem?_toArray, List.getElem?_cons_succ, List.getElem?_cons_zero]; rfl) (by kernel_rfl) (by kernel_rfl) (by kernel_rfl) (by kernel_rfl) (one_only 26 (by kernel_rfl)) (by exact fun _ _ _ h => h) (Or.inl ⟨by rfl, ?_⟩) hH ?_
                    rotate_left
                    · (intro wS hS; clear hS; go_simp; try rfl)
                    try simp only [Act.put, List.setIfInBounds_toArray, List.set_cons_zero, List.set_cons_succ]
                    refine wpAnyT_take (i := 9) (v := ?_) (by simp only [List.getElem?_toArray, List.getElem?_cons_succ, List.getElem?_cons_zero]; rfl) (by kernel_rfl) (by kernel_rfl) (by kernel_rfl) (by kernel_rfl) (one_only 26 (by kernel_rfl)) (by exact fun _ _ _ h => h) (Or.inl ⟨by rfl, ?_⟩) hH ?_
                    rotate_left
                    · (intro wS hS; clear hS; go_simp; try rfl)
                    try simp only [Act.put, List.setIfInBounds_toArray, List.set_cons_zero, List.set_cons_succ]
                    refine wpAnyT_take (i := 10) (v := ?_) (by simp only [List.getElem?_toArray, List.getElem?_cons_succ, List.getElem?_cons_zero]; rfl) (by kernel_rfl) (by kernel_rfl) (by kernel_rfl) (by kernel_rfl) (one_only 26 (by kernel_rfl)) (by exact fun _ _ _ h => h) (Or.inl ⟨by rfl, ?_⟩) hH ?_
                    rotate_left
                    · (intro wS hS; clear hS; go_simp; try rfl)
                    try simp only [Act.put, List.setIfInBounds_toArray, List.set_cons_zero, List.set_cons_succ]
                    refine wpAnyT_take (i := 11) (v := ?_) (by simp only [List.getElem?_toArray, List.getElem?_cons_succ, List.getElem?_cons_zero]; rfl) (by kernel_rfl) (by kernel_rfl) (by kernel_rfl) (by kernel_rfl) (one_only 26 (by kernel_rfl)) (by exact fun _ _ _ h => h) (Or.inl ⟨by rfl, ?_⟩) hH ?_
                    rotate_left
                    · (intro wS hS; clear hS; go_simp; try rfl)
                    try simp only [Act.put, List.setIfInBounds_toArray, List.set_cons_zero, List.set_cons_succ]
                    refine wpAnyT_take (i := 12) (v := ?_) (by simp only [List.getElem?_toArray, List.getElem?_cons_succ, List.getElem?_cons_zero]; rfl) (by kernel_rfl) (by kernel_rfl) (by kernel_rfl) (by kernel_rfl) (one_only 26 (by kernel_rfl)) (by exact fun _ _ _ h => h) (Or.inl ⟨by rfl, ?_⟩) hH ?_
                    rotate_left
                    · (intro wS hS; clear hS; go_simp; try rfl)
                    try simp only [Act.put, List.setIfInBounds_toArray, List.set_cons_zero, List.set_cons_succ]
                    refine wpAnyT_take (i := 13) (v := ?_) (by simp only [List.getElem?_toArray, List.getElem?_cons_succ, List.getElem?_cons_zero]; rfl) (by kernel_rfl) (by kernel_rfl) (by kernel_rfl) (by kernel_rfl) (one_only 26 (by kernel_rfl)) (by exact fun _ _ _ h => h) (Or.inl ⟨by rfl, ?_⟩) hH ?_
                    rotate_left
                    · (intro wS hS; clear hS; go_simp; try rfl)
                    try simp only [Act.put, List.setIfInBounds_toArray, List.set_cons_zero, List.set_cons_succ]
                    refine wpAnyT_take (i := 14) (v := ?_) (by simp only [List.getElem?_toArray, List.getElem?_cons_succ, List.getElem?_cons_zero]; rfl) (by kernel_rfl) (by kernel_rfl) (by kernel_rfl) (by kernel_rfl) (one_only 26 (by kernel_rfl)) (by exact fun _ _ _ h => h) (Or.inl ⟨by rfl, ?_⟩) hH ?_
                    rotate_left
                    · (intro wS hS; (try dsimp only at hS); obtain ⟨k1, k2, k3, k4⟩ := slF3 KJ.out Y1.out Y2.out Y3.out hS; go_simp; try rfl)
                    try simp only [Act.put, List.setIfInBounds_toArray, List.set_cons_zero, List.set_cons_succ]
                    refine wpAnyT_take (i := 15) (v := ?_) (by simp only [List.getElem?_toArray, List.getElem?_cons_succ, List.getElem?_cons_zero]; rfl) (by kernel_rfl) (by kernel_rfl) (by kernel_rfl) (by kernel_rfl) (one_only 26 (by kernel_rfl)) (by exact fun _ _ _ h => h) (Or.inl ⟨by rfl, ?_⟩) hH ?_
                    rotate_left
                    · (intro wS hS; clear hS; go_simp; try rfl)
                    try simp only [Act.put, List.setIfInBounds_toArray, List.set_cons_zero, List.set_cons_succ]
                    refine wpAnyT_take (i := 16) (v := ?_) (by simp only [List.getElem?_toArray, List.getElem?_cons_succ, List.getElem?_cons_zero]; rfl) (by kernel_rfl) (by kernel_rfl) (by kernel_rfl) (by kernel_rfl) (one_only 26 (by kernel_rfl)) (by exact fun _ _ _ h => h) (Or.inl ⟨by rfl, ?_⟩) hH ?_
                    rotate_left
                    · (intro wS hS; clear hS; go_simp; try rfl)
                    try simp only [Act.put, List.setIfInBounds_toArray, List.set_cons_zero, List.set_cons_succ]
                    refine wpAnyT_take (i := 17) (v := ?_) (by simp only [List.getElem?_toArray, List.getElem?_cons_succ, List.getElem?_cons_zero]; rfl) (by kernel_rfl) (by kernel_rfl) (by kernel_rfl) (by kernel_rfl) (one_only 26 (by kernel_rfl)) (by exact fun _ _ _ h => h) (Or.inl ⟨by rfl, ?_⟩) hH ?_
                    rotate_left
                    · (intro wS hS; clear hS; go_simp; try rfl)
                    try simp only [Act.put, List.setIfInBounds_toArray, List.set_cons_zero, List.set_cons_succ]
                    refine wpAnyT_take (i := 18) (v := ?_) (by simp only [List.getElem?_toArray, List.getElem?_cons_succ, List.getElem?_cons_zero]; rfl) (by kernel_rfl) (by kernel_rfl) (by kernel_rfl) (by kernel_rfl) (one_only 26 (by kernel_rfl)) (by exact fun _ _ _ h => h) (Or.inl ⟨by rfl, ?_⟩) hH ?_
                    rotate_left
                    · (intro wS hS; (try dsimp only at hS); obtain ⟨k1, k2, k3, k4⟩ := slF3 KJ.out Y1.out Y2.out Y3.out hS; go_simp; try rfl)
                    try simp only [Act.put, List.setIfInBounds_toArray, List.set_cons_zero, List.set_cons_succ]
                    refine wpAnyT_take (i := 19) (v := ?_) (by simp only [List.getElem?_toArray, List.getElem?_cons_succ, List.getElem?_cons_zero]; rfl) (by kernel_rfl) (by kernel_rfl) (by kernel_rfl) (by kernel_rfl) (one_only 26 (by kernel_rfl)) (by exact fun _ _ _ h => h) (Or.inl ⟨by rfl, ?_⟩) hH ?_
                    rotate_left
                    · (intro wS hS; clear hS; go_simp; try rfl)
                    try simp only [Act.put, List.setIfInBounds_toArray, List.set_cons_zero, List.set_cons_succ]
                    refine wpAnyT_take (i := 23) (v := ?_) (by simp only [List.getElem?_toArray, List.getElem?_cons_succ, List.getElem?_cons_zero]; rfl) (by kernel_rfl) (by kernel_rfl) (by kernel_rfl) (by kernel_rfl) (one_only 26 (by kernel_rfl)) (by exact fun _ _ _ h => h) (Or.inl ⟨by rfl, ?_⟩) hH ?_
                    rotate_left
                    · (intro wS hS; clear hS; go_simp; try rfl)
                    try simp only [Act.put, List.setIfInBounds_toArray, List.set_cons_zero, List.set_cons_succ]
                    refine wpAnyT_ready (rs := [20]) (by kernel_rfl) (by simp) ?_
                    refine AllReadyT.cons (by simp only [List.getElem?_toArray, List.getElem?_cons_succ, List.getElem?_cons_zero]; rfl) (fun K hK => ?_) AllReadyT.nil
                    go_simp
                    (with_reducible refine (MD.out _).mono ?_)
                    rintro e v1 ⟨rfl, hb1⟩
                    try dsimp only
                    refine hK.out _ _ (fun _ => hH.trans (hb1.mono hH.size)) ?_
                    clear hK K
                    have hH := hH.trans (hb1.mono hH.size)
                    try simp only [Act.put, List.setIfInBounds_toArray, List.set_cons_zero, List.set_cons_succ]
                    refine wpAnyT_take (i := 21) (v := ?_) (by simp only [List.getElem?_toArray, List.getElem?_cons_succ, List.getElem?_cons_zero]; rfl) (by kernel_rfl) (by kernel_rfl) (by kernel_rfl) (by kernel_rfl) (one_only 26 (by kernel_rfl)) (by exact fun _ _ _ h => h) (Or.inl ⟨by rfl, ?_⟩) hH ?_
                    rotate_left
                    · (intro wS hS; clear hS; go_simp; try rfl)
                    try simp only [Act.put, List.setIfInBounds_toArray, List.set_cons_zero, List.set_cons_succ]
                    refine wpAnyT_take (i := 22) (v := ?_) (by simp only [List.getElem?_toArray, List.getElem?_cons_succ, List.getElem?_cons_zero]; rfl) (by kernel_rfl) (by kernel_rfl) (by kernel_rfl) (by kernel_rfl) (one_only 26 (by kernel_rfl)) (by exact fun _ _ _ h => h) (Or.inl ⟨by rfl, ?_⟩) hH ?_
                    rotate_left
                    · (intro wS hS; clear hS; go_simp; try rfl)
                    try simp only [Act.put, List.setIfInBounds_toArray, List.set_cons_zero, List.set_cons_succ]
                    refine wpAnyT_take (i := 24) (v := ?_) (by simp only [List.getElem?_toArray, List.getElem?_cons_succ, List.getElem?_cons_zero]; rfl) (by kernel_rfl) (by kernel_rfl) (by kernel_rfl) (by kernel_rfl) (one_only 26 (by kernel_rfl)) (by exact fun _ _ _ h => h) (Or.inl ⟨by rfl, ?_⟩) hH ?_
                    rotate_left
                    · (intro wS hS; clear hS; go_simp; try rfl)
                    try simp only [Act.put, List.setIfInBounds_toArray, List.set_cons_zero, List.set_cons_succ]
                    refine wpAnyT_take (i := 25) (v := ?_) (by simp only [List.getElem?_toArray, List.getElem?_cons_succ, List.getElem?_cons_zero]; rfl) (by kernel_rfl) (by kernel_rfl) (by kernel_rfl) (by kernel_rfl) (one_only 26 (by kernel_rfl)) (by exact fun _ _ _ h => h) (Or.inl ⟨by rfl, ?_⟩) hH ?_
                    rotate_left
                    · (intro wS hS; clear hS; go_simp; try rfl)
                    try simp only [Act.put, List.setIfInBounds_toArray, List.set_cons_zero, List.set_cons_succ]
                    refine wpAnyT_ready (rs := [26]) (by kernel_rfl) (by simp) ?_
                    refine AllReadyT.cons (by simp only [List.getElem?_toArray, List.getElem?_cons_succ, List.getElem?_cons_zero]; rfl) (fun K hK => ?_) AllReadyT.nil
                    have gc := (GD.out.keep hH GD.out.lt).cell (i := i) (by rw [svTo_length]; omega)
                    have gf := (GD.out.keep hH GD.out.lt).free i
                    go_simp
                    try dsimp only
                    refine hK.out _ _ (fun h => by cases h) ?_
                    clear hK K
                    try simp only [Act.put, List.setIfInBounds_toArray, List.set_cons_zero, List.set_cons_succ]
                    refine wpAnyT_done (by kernel_rfl) ?_ _
                    go_wp2_with fail
                    go_roundw
                    case rel =>
                      refine ⟨j + 1, by go_num, by omega, ?_, (GX.out.keep hH GX.out.lt).far (Ne.symm dx) _, (GR.out.keep hH GR.out.lt).far (Ne.symm dr) _, (B5.out.trans (hH.mono (by have := B5.out.size; have := EW.out; omega))).setCell gx0.out _⟩
                      rw [← svTo_set, SF.out]
                      exact (GD.out.keep hH ds).set i _
                    case measure => simp [intOf]; omega
                  · obtain rfl : j = n := by omega
                    go_wp2_with fail
                    go_roundw
                    case rel => exact ⟨i + 1, by go_num, by omega, by rw [← svTo_row]; exact GD.out, GX.out, GR.out, B5.out⟩
                    case measure => simp [intOf]; omega
              · obtain rfl : i = n := by omega
                have GD : Hid (Ints wr gd (solL p i vs rs)) := by refine Lib.hid ?_; rw [← svTo_all]; exact GD.out
                have DL : Hid ((solL p i vs rs).length = i) := solL_length p i vs rs
                have EX : Hid (∀ a, a < i → (lfS p i xs vs bs (k + 1)).1.getD a 0 = us.getD a 0 + P * (solL p i vs rs).getD a 0 ∧ (0 ≤ us.getD a 0 ∧ us.getD a 0 ≤ 400000000) ∧ (0 ≤ P * (solL p i vs rs).getD a 0 ∧ P * (solL p i vs rs).getD a 0 ≤ 400000000) ∧ (lfS p i xs vs bs (k + 1)).1.getD a 0 ≤ 400000000) := fun a ha => by
                  have := H.out.next hkl ha
                  rw [EU.out, ER.out, EP.out] at this
                  exact this
                have EQ : Hid (∀ a, a < i → (sF i xs (solL p i vs rs) rs a i).tdiv p = (lfS p i xs vs bs (k + 1)).2.getD a 0) := fun a ha => by
                  have := H.out.quo k ha
                  rw [ER.out] at this
                  exact this
                have ES : Hid (∀ a j, a < i → j ≤ i → -1000000000000 ≤ sF i xs (solL p i vs rs) rs a j ∧ sF i xs (solL p i vs rs) rs a j ≤ 1000000000000) := fun a j ha hj => by
                  have := H.out.sums k ha hj
                  rw [ER.out] at this
                  exact this
                have EM : Hid (∀ a j, a < i → j < i → -80000000000 ≤ xs.getD (a * i + j) 0 * (solL p i vs rs).getD j 0 ∧ xs.getD (a * i + j) 0 * (solL p i vs rs).getD j 0 ≤ 80000000000) := fun a j ha hj => by
                  have := H.out.prod k ha hj
                  rw [ER.out] at this
                  exact this
                have PW := Lib.hid (H.out.pow hkl)
                have XL1 : Hid ((lfS p i xs vs bs (k + 1)).1.length = i) := lfS_xl (k + 1)
                have RL1 : Hid ((lfS p i xs vs bs (k + 1)).2.length = i) := (H.out.rest (k + 1)).1
                generalize solL p i vs rs = dg at GD DL EX EQ ES EM
                have EB : Hid (∀ a, a < i → -2400000000 ≤ (lfS p i xs vs bs (k + 1)).2.getD a 0 ∧ (lfS p i xs vs bs (k + 1)).2.getD a 0 ≤ 2400000000) := (H.out.rest (k + 1)).2
                obtain ⟨us', hus'⟩ : ∃ us', (lfS p i xs vs bs (k + 1)).1 = us' := ⟨_, rfl⟩
                obtain ⟨rs', hrs'⟩ : ∃ rs', (lfS p i xs vs bs (k + 1)).2 = rs' := ⟨_, rfl⟩
                have EU' := Lib.hid hus'
                have ER' := Lib.hid hrs'
                rw [hus'] at EX XL1
                rw [hrs'] at EQ RL1 EB
                clear hus' hrs'
                go_wp2_with fail
                go_loopw [16, 17, 18] (fun v16 _ _ wj => ∃ a : Nat, v16 = .int .i64 a ∧ a ≤ i ∧ Ints wj gd dg ∧ Ints wj gx (twL i us' us a) ∧ Ints wj gr (twL i rs' rs a) ∧ Below gx W wj) (fun v16 _ _ _ => i - (intOf v16).toNat)
                case atStart => exact ⟨0, rfl, Nat.zero_le _, GD.out, by rw [twL_zero UL.out]; exact GX.out, by rw [twL_zero RLn.out]; exact GR.out, B5.out⟩
                case round =>
                  clear GD GX GR B5
                  obtain ⟨a1, rfl, ha, hd, hx, hr, hB⟩ := hrel
                  have GD := Lib.hid hd
                  have GX := Lib.hid hx
                  have GR := Lib.hid hr
                  have B5 := Lib.hid hB
                  clear hd hx hr hB
                  by_cases hlt : a1 < i
                  · have c3 := GR.out.cell (i := a1) (by rw [twL_length]; exact hlt)
                    rw [twL_at hlt, if_neg (Nat.lt_irrefl _), ← sF_zero i xs dg rs a1] at c3
                    go_wp2_with fail
                    clear c3
                    go_loopw [17, 18] (fun v17 v18 wj => ∃ j : Nat, v17 = .int .i64 (sF i xs dg rs a1 j) ∧ v18 = .int .i64 j ∧ j ≤ i ∧ Ints wj gd dg ∧ Ints wj gx (twL i us' us a1) ∧ Ints wj gr (twL i rs' rs a1) ∧ Below gx W wj) (fun _ v18 _ => i - (intOf v18).toNat)
                    case atStart => exact ⟨0, rfl, rfl, Nat.zero_le _, GD.out, GX.out, GR.out, B5.out⟩
                    case round =>
                      clear GD GX GR B5
                      obtain ⟨j, rfl, rfl, hj, hd, hx, hr, hB⟩ := hrel
                      have GD6 := Lib.hid hd
                      have GX6 := Lib.hid hx
                      have GR6 := Lib.hid hr
                      have B6 := Lib.hid hB
                      clear hd hx hr hB
                      obtain ⟨s1, s2⟩ := ES.out a1 j hlt hj
                      by_cases hjl : j < i
                      · have bW : Below W.heap.size W wr := by rw [EW.out]; exact B6.out
                        obtain ⟨-, -, k2, -, -, -⟩ := (K2.out.keep B6.out L0.out).all
                        obtain ⟨x1, x2, x3⟩ := IX.out a1 j hlt hjl
                        obtain ⟨b2, o2, rfl, hc2⟩ := (RW.out.below bW) (a1 * i + j) (by rw [XA.out]; exact x1)
                        have hc1 := GD6.out.cell (i := j) (by rw [DL.out]; exact hjl)
                        have SU := Lib.hid (sF_succ i xs dg rs a1 j)
                        obtain ⟨m1, m2⟩ := EM.out a1 j hlt hjl
                        obtain ⟨s3, s4⟩ := ES.out a1 (j + 1) hlt (by omega)
                        obtain ⟨s, hs⟩ : ∃ s, sF i xs dg rs a1 j = s := ⟨_, rfl⟩
                        obtain ⟨Q, hQ⟩ : ∃ Q, a1 * i + j = Q := ⟨_, rfl⟩
                        obtain ⟨x, hx⟩ : ∃ x, xs.getD (a1 * i + j) 0 = x := ⟨_, rfl⟩
                        obtain ⟨y, hy⟩ : ∃ y, dg.getD j 0 = y := ⟨_, rfl⟩
                        rw [hx, hy] at m1 m2 SU
                        rw [hs] at SU s1 s2 ⊢
                        rw [SU.out] at s3 s4
                        rw [hx] at hc2
                        rw [hy] at hc1
                        rw [hQ] at x1 x3 hc2
                        have Q0 : (0 : Int) ≤ (Q : Int) := by omega
                        have Q1 : (Q : Int) < (N : Int) := by omega
                        obtain ⟨o, ho⟩ : ∃ o, x * y = o := ⟨_, rfl⟩
                        rw [ho] at m1 m2 s3 s4 SU
                        have v2 : IntKind.i64.wrap (x * y) = o := by rw [ho]; exact IntWalk.i64_in _ (by omega)
                        obtain ⟨f, hf⟩ : ∃ f, s - o = f := ⟨_, rfl⟩
                        rw [hf] at s3 s4 SU
                        have v3 : IntKind.i64.wrap (s - o) = f := by rw [hf]; exact IntWalk.i64_in _ (by omega)
                        clear hs hQ hx hy ho hf bW m1 m2
                        go_wp2_with fail
                        go_quiet (fail)
                        have GD6 := Lib.hid (GD6.out.drewN nq)
                        have GX6 := Lib.hid (GX6.out.drewN nq)
                        have GR6 := Lib.hid (GR6.out.drewN nq)
                        have B6 := Lib.hid (below_drewN B6.out nq)
                        go_wp2_with fail
                        go_roundw
                        case rel => exact ⟨j + 1, by rw [SU.out], by go_num, by omega, GD6.out, GX6.out, GR6.out, B6.out⟩
                        case measure => simp [intOf]; omega
                      · obtain rfl : j = i := by omega
                        have e9 := EQ.out a1 hlt
                        have eb := EB.out a1 hlt
                        have TS := Lib.hid (twL_set (n := j) (f := rs') (g := rs) (i := a1))
                        obtain ⟨s, hs⟩ : ∃ s, sF j xs dg rs a1 j = s := ⟨_, rfl⟩
                        obtain ⟨r1, hr1⟩ : ∃ r, rs'.getD a1 0 = r := ⟨_, rfl⟩
                        rw [hs] at e9 s1 s2 ⊢
                        rw [hr1] at e9 eb TS
                        obtain ⟨eb1, eb2⟩ := eb
                        have v0 : IntKind.i64.wrap r1 = r1 := IntWalk.i64_in _ (by omega)
                        have c3 := GR6.out.cell (i := a1) (by rw [twL_length]; exact hlt)
                        have f3 := GR6.out.free a1
                        have GR9 : Hid (Ints (wr.setCell ⟨gr, a1, none⟩ (.int .i64 r1)) gr (twL j rs' rs (a1 + 1))) := by
                          refine Lib.hid ?_
                          rw [← TS.out]
                          exact GR6.out.set a1 r1
                        have GX9 := Lib.hid (GX6.out.far (a := ⟨gr, a1, none⟩) xr (.int .i64 r1))
                        have GD9 := Lib.hid (GD6.out.far (a := ⟨gr, a1, none⟩) dr (.int .i64 r1))
                        have B9 := Lib.hid (B6.out.setCell (p := ⟨gr, a1, none⟩) gr0.out (.int .i64 r1))
                        clear hs hr1 TS GD6 GX6 GR6 B6
                        go_upto_region 32 with fail
                        clear c3 f3
                        generalize wr.setCell ⟨gr, a1, none⟩ (.int .i64 r1) = W9 at GR9 GX9 GD9 B9 ⊢
                        have GX := GX9
                        clear GX9
                        have hc1 := GX.out.cell (i := a1) (by rw [twL_length]; exact hlt)
                        rw [twL_at hlt, if_neg (Nat.lt_irrefl _)] at hc1
                        have hc2 := GD9.out.cell (i := a1) (by rw [DL.out]; exact hlt)
                        obtain ⟨q1, ⟨q2, q3⟩, ⟨q4, q5⟩, q6⟩ := EX.out a1 hlt
                        have TS := Lib.hid (twL_set (n := j) (f := us') (g := us) (i := a1))
                        rw [q1] at TS q6
                        clear q1
                        obtain ⟨x, hx⟩ : ∃ x, us.getD a1 0 = x := ⟨_, rfl⟩
                        obtain ⟨y, hy⟩ : ∃ y, dg.getD a1 0 = y := ⟨_, rfl⟩
                        rw [hx] at TS hc1 q2 q3 q6
                        rw [hy] at TS hc2 q4 q5 q6
                        obtain ⟨o, ho⟩ : ∃ o, P * y = o := ⟨_, rfl⟩
                        rw [ho] at TS q4 q5 q6
                        have v2 : IntKind.i64.wrap (P * y) = o := by rw [ho]; exact IntWalk.i64_in _ (by omega)
                        obtain ⟨f, hf⟩ : ∃ f, x + o = f := ⟨_, rfl⟩
                        rw [hf] at TS q6
                        have v3 : IntKind.i64.wrap (x + o) = f := by rw [hf]; exact IntWalk.i64_in _ (by omega)
                        have Y1 := Lib.hid hc1
                        have Y2 := Lib.hid hc2
                        clear hx hy ho hf hc1 hc2
                        refine wp_region_T (S := fun w' => Below W9.heap.size W9 w') (T := fun j => j == 14) (by kernel_rfl) (Below.refl _ _).drew (fun hH => ?_)
                        refine wpAnyT_take (i := 0) (v := ?_) (by simp only [List.getElem?_toArray, List.getElem?_cons_zero]; rfl) (by kernel_rfl) (by kernel_rfl) (by kernel_rfl) (by kernel_rfl) (one_only 14 (by kernel_rfl)) (by exact fun _ _ _ h => h) (Or.inl ⟨by rfl, ?_⟩) hH ?_
                        rotate_left
                        · (intro wS hS; clear hS; go_simp; try rfl)
                        try simp only [Act.put, List.setIfInBounds_toArray, List.set_cons_zero, List.set_cons_succ]
                        refine wpAnyT_take (i := 1) (v := ?_) (by simp only [List.getElem?_toArray, List.getElem?_cons_succ, List.getElem?_cons_zero]; rfl) (by kernel_rfl) (by kernel_rfl) (by kernel_rfl) (by kernel_rfl) (one_only 14 (by kernel_rfl)) (by exact fun _ _ _ h => h) (Or.inl ⟨by rfl, ?_⟩) hH ?_
                        rotate_left
                        · (intro wS hS; clear hS; go_simp; try rfl)
                        try simp only [Act.put, List.setIfInBounds_toArray, List.set_cons_zero, List.set_cons_succ]
                        refine wpAnyT_take (i := 2) (v := ?_) (by simp only [List.getElem?_toArray, List.getElem?_cons_succ, List.getElem?_cons_zero]; rfl) (by kernel_rfl) (by kernel_rfl) (by kernel_rfl) (by kernel_rfl) (one_only 14 (by kernel_rfl)) (by exact fun _ _ _ h => h) (Or.inl ⟨by rfl, ?_⟩) hH ?_
                        rotate_left
                        · (intro wS hS; clear hS; go_simp; try rfl)
                        try simp only [Act.put, List.setIfInBounds_toArray, List.set_cons_zero, List.set_cons_succ]
                        refine wpAnyT_take (i := 3) (v := ?_) (by simp only [List.getElem?_toArray, List.getElem?_cons_succ, List.getElem?_cons_zero]; rfl) (by kernel_rfl) (by kernel_rfl) (by kernel_rfl) (by kernel_rfl) (one_only 14 (by kernel_rfl)) (by exact fun _ _ _ h => h) (Or.inl ⟨by rfl, ?_⟩) hH ?_
                        rotate_left
                        · (intro wS hS; clear hS; go_simp; try rfl)
                        try simp only [Act.put, List.setIfInBounds_toArray, List.set_cons_zero, List.set_cons_succ]
                        refine wpAnyT_take (i := 4) (v := ?_) (by simp only [List.getElem?_toArray, List.getElem?_cons_succ, List.getElem?_cons_zero]; rfl) (by kernel_rfl) (by kernel_rfl) (by kernel_rfl) (by kernel_rfl) (one_only 14 (by kernel_rfl)) (by exact fun _ _ _ h => h) (Or.inl ⟨by rfl, ?_⟩) hH ?_
                        rotate_left
                        · (intro wS hS; clear hS; go_simp; try rfl)
                        try simp only [Act.put, List.setIfInBounds_toArray, List.set_cons_zero, List.set_cons_succ]
                        refine wpAnyT_take (i := 5) (v := ?_) (by simp only [List.getElem?_toArray, List.getElem?_cons_succ, List.getElem?_cons_zero]; rfl) (by kernel_rfl) (by kernel_rfl) (by kernel_rfl) (by kernel_rfl) (one_only 14 (by kernel_rfl)) (by exact fun _ _ _ h => h) (Or.inl ⟨by rfl, ?_⟩) hH ?_
                        rotate_left
                        · (intro wS hS; (try dsimp only at hS); obtain ⟨k1, k2⟩ := slF2 Y1.out Y2.out hS; go_simp; try rfl)
                        try simp only [Act.put, List.setIfInBounds_toArray, List.set_cons_zero, List.set_cons_succ]
                        refine wpAnyT_take (i := 6) (v := ?_) (by simp only [List.getElem?_toArray, List.getElem?_cons_succ, List.getElem?_cons_zero]; rfl) (by kernel_rfl) (by kernel_rfl) (by kernel_rfl) (by kernel_rfl) (one_only 14 (by kernel_rfl)) (by exact fun _ _ _ h => h) (Or.inl ⟨by rfl, ?_⟩) hH ?_
                        rotate_left
                        · (intro wS hS; clear hS; go_simp; try rfl)
                        try simp only [Act.put, List.setIfInBounds_toArray, List.set_cons_zero, List.set_cons_succ]
                        refine wpAnyT_take (i := 7) (v := ?_) (by simp only [List.getElem?_toArray, List.getElem?_cons_succ, List.getElem?_cons_zero]; rfl) (by kernel_rfl) (by kernel_rfl) (by kernel_rfl) (by kernel_rfl) (one_only 14 (by kernel_rfl)) (by exact fun _ _ _ h => h) (Or.inl ⟨by rfl, ?_⟩) hH ?_
                        rotate_left
                        · (intro wS hS; clear hS; go_simp; try rfl)
                        try simp only [Act.put, List.setIfInBounds_toArray, List.set_cons_zero, List.set_cons_succ]
                        refine wpAnyT_take (i := 8) (v := ?_) (by simp only [List.getElem?_toArray, List.getElem?_cons_succ, List.getElem?_cons_zero]; rfl) (by kernel_rfl) (by kernel_rfl) (by kernel_rfl) (by kernel_rfl) (one_only 14 (by kernel_rfl)) (by exact fun _ _ _ h => h) (Or.inl ⟨by rfl, ?_⟩) hH ?_
                        rotate_left
                        · (intro wS hS; clear hS; go_simp; try rfl)
                        try simp only [Act.put, List.setIfInBounds_toArray, List.set_cons_zero, List.set_cons_succ]
                        refine wpAnyT_take (i := 9) (v := ?_) (by simp only [List.getElem?_toArray, List.getElem?_cons_succ, List.getElem?_cons_zero]; rfl) (by kernel_rfl) (by kernel_rfl) (by kernel_rfl) (by kernel_rfl) (one_only 14 (by kernel_rfl)) (by exact fun _ _ _ h => h) (Or.inl ⟨by rfl, ?_⟩) hH ?_
                        rotate_left
                        · (intro wS hS; clear hS; go_simp; try rfl)
                        try simp only [Act.put, List.setIfInBounds_toArray, List.set_cons_zero, List.set_cons_succ]
                        refine wpAnyT_take (i := 10) (v := ?_) (by simp only [List.getElem?_toArray, List.getElem?_cons_succ, List.getElem?_cons_zero]; rfl) (by kernel_rfl) (by kernel_rfl) (by kernel_rfl) (by kernel_rfl) (one_only 14 (by kernel_rfl)) (by exact fun _ _ _ h => h) (Or.inl ⟨by rfl, ?_⟩) hH ?_
                        rotate_left
                        · (intro wS hS; (try dsimp only at hS); obtain ⟨k1, k2⟩ := slF2 Y1.out Y2.out hS; go_simp; try rfl)
                        try simp only [Act.put, List.setIfInBounds_toArray, List.set_cons_zero, List.set_cons_succ]
                        refine wpAnyT_take (i := 11) (v := ?_) (by simp only [List.getElem?_toArray, List.getElem?_cons_succ, List.getElem?_cons_zero]; rfl) (by kernel_rfl) (by kernel_rfl) (by kernel_rfl) (by kernel_rfl) (one_only 14 (by kernel_rfl)) (by exact fun _ _ _ h => h) (Or.inl ⟨by rfl, ?_⟩) hH ?_
                        rotate_left
                        · (intro wS hS; clear hS; go_simp; try rfl)
                        try simp only [Act.put, List.setIfInBounds_toArray, List.set_cons_zero, List.set_cons_succ]
                        refine wpAnyT_take (i := 12) (v := ?_) (by simp only [List.getElem?_toArray, List.getElem?_cons_succ, List.getElem?_cons_zero]; rfl) (by kernel_rfl) (by kernel_rfl) (by kernel_rfl) (by kernel_rfl) (one_only 14 (by kernel_rfl)) (by exact fun _ _ _ h => h) (Or.inl ⟨by rfl, ?_⟩) hH ?_
                        rotate_left
                        · (intro wS hS; clear hS; go_simp; try rfl)
                        try simp only [Act.put, List.setIfInBounds_toArray, List.set_cons_zero, List.set_cons_succ]
                        refine wpAnyT_take (i := 13) (v := ?_) (by simp only [List.getElem?_toArray, List.getElem?_cons_succ, List.getElem?_cons_zero]; rfl) (by kernel_rfl) (by kernel_rfl) (by kernel_rfl) (by kernel_rfl) (one_only 14 (by kernel_rfl)) (by exact fun _ _ _ h => h) (Or.inl ⟨by rfl, ?_⟩) hH ?_
                        rotate_left
                        · (intro wS hS; clear hS; go_simp; try rfl)
                        try simp only [Act.put, List.setIfInBounds_toArray, List.set_cons_zero, List.set_cons_succ]
                        refine wpAnyT_ready (rs := [14]) (by kernel_rfl) (by simp) ?_
                        refine AllReadyT.cons (by simp only [List.getElem?_toArray, List.getElem?_cons_succ, List.getElem?_cons_zero]; rfl) (fun K hK => ?_) AllReadyT.nil
                        have gc := (GX.out.keep hH GX.out.lt).cell (i := a1) (by rw [twL_length]; omega)
                        have gf := (GX.out.keep hH GX.out.lt).free a1
                        go_simp
                        try dsimp only
                        refine hK.out _ _ (fun h => by cases h) ?_
                        clear hK K
                        try simp only [Act.put, List.setIfInBounds_toArray, List.set_cons_zero, List.set_cons_succ]
                        refine wpAnyT_done (by kernel_rfl) ?_ _
                        go_wp2_with fail
                        go_roundw
                        case rel =>
                          refine ⟨a1 + 1, by go_num, by omega, (GD9.out.keep hH GD9.out.lt).far dx _, ?_, (GR9.out.keep hH GR9.out.lt).far (Ne.symm xr) _, (B9.out.trans (hH.mono (by have := B9.out.size; have := EW.out; omega))).setCell (Nat.le_refl _) _⟩
                          rw [← TS.out]
                          exact (GX.out.keep hH GX.out.lt).set a1 f
                        case measure => simp [intOf]; omega
                  · obtain rfl : a1 = i := by omega
                    have GX : Hid (Ints wr gx us') := by have := GX.out; rw [twL_all XL1.out] at this; exact this
                    have GR : Hid (Ints wr gr rs') := by have := GR.out; rw [twL_all RL1.out] at this; exact this
                    obtain ⟨w1', w2', w3'⟩ := PW.out
                    obtain ⟨PP, hPP⟩ : ∃ PP : Int, (p : Int) ^ (k + 1) = PP := ⟨_, rfl⟩
                    have EPP := Lib.hid hPP
                    rw [hPP, EP.out] at w1'
                    rw [hPP] at w2' w3'
                    have v4 : IntKind.i64.wrap (P * p) = PP := by rw [w1']; exact IntWalk.i64_in _ (by omega)
                    clear hPP w1'
                    go_wp2_with fail
                    go_roundg (K - (k + 1))
                    case measure => rw [HG.out]; have := EK.out; omega
                    case rel => exact ⟨k + 1, rfl, by have := EK.out; omega, by rw [EPP.out], by rw [EU'.out]; exact GX.out, by rw [ER'.out]; exact GR.out, B5.out⟩
        case rest =>
          clear GX GR B5
          obtain ⟨rfl, hx, hB⟩ := hcut
          obtain ⟨-, -, P0, P4⟩ := lfK_go H.out.lo H.out.hi
          rw [EK.out] at P0 P4
          have SLR : Hid (∀ i, slR p n xs bs i = rtX ((lfS p n xs vs bs K).1.getD i 0) ((p : Int) ^ K) (lfB ((p : Int) ^ K))) := fun i => by rw [SLR.out, EV.out, EK.out]
          obtain ⟨us, hus⟩ : ∃ us, (lfS p n xs vs bs K).1 = us := ⟨_, rfl⟩
          have UL : Hid (us.length = n) := by refine Lib.hid ?_; rw [← hus]; exact lfS_xl K
          rw [hus] at SLR hx
          obtain ⟨P, hP⟩ : ∃ P : Int, (p : Int) ^ K = P := ⟨_, rfl⟩
          rw [hP] at P0 P4 SLR ⊢
          have GX := Lib.hid hx
          have BC := Lib.hid hB
          have ZB : Hid (∀ i, i < n → (slR p n xs bs i).2.2 = false → slQ p n xs bs = ([], false)) := fun i hi h => slQ_bad hi h
          have ZI : Hid (irB n n xs bs (slZ p n xs bs n) = false → slQ p n xs bs = ([], false)) := fun h => slQ_ir h
          have ZY : Hid ((∀ i, i < n → (slR p n xs bs i).2.2 = true) → irB n n xs bs (slZ p n xs bs n) = true → slQ p n xs bs = (slZ p n xs bs n, true)) := fun h1 h2 => slQ_yes h1 h2
          have ZU : Hid (∀ i, slZ p n xs bs (i + 1) = slZ p n xs bs i ++ [((slR p n xs bs i).1, (slR p n xs bs i).2.1)]) := fun i => slZ_succ p n xs bs i
          have ZL : Hid (∀ i, (slZ p n xs bs i).length = i) := fun i => slZ_length p n xs bs i
          have Z0 : Hid (slZ p n xs bs 0 = []) := rfl
          have SZ : Hid (∀ i, (slR p n xs bs i) = rtX (us.getD i 0) P (lfB P)) := SLR.out
          rw [← VQ.out] at ZB ZI ZY
          generalize slR p n xs bs = rr at ZB ZY ZU SZ
          obtain ⟨zz, hzz⟩ : ∃ zz, slZ p n xs bs = zz := ⟨_, rfl⟩
          rw [hzz] at ZI ZY ZU ZL Z0
          clear hus hP hx hB hzz EV EK SLR VQ RQ RW K7 L7 HV HNN IX np n0 H
          go_wp2_with fail
          go_loopw [19] (fun v19 wq => ∃ B : Nat, v19 = .int .i64 B ∧ B ≤ 10000 ∧ lfBs P 10000 = lfBs P B ∧ wq = wc) (fun v19 _ => (intOf v19).toNat)
          case atStart => exact ⟨10000, rfl, Nat.le_refl _, rfl, rfl⟩
          case round =>
            obtain ⟨BB, rfl, hB, hl, rfl⟩ := hrel
            have HL := Lib.hid hl
            have b1 := Int.mul_nonneg (show 0 ≤ 2 * (BB : Int) by omega) (show 0 ≤ (BB : Int) by omega)
            have b2 : 2 * (BB : Int) * BB ≤ 20000 * 10000 := Int.mul_le_mul (by omega) (by omega) (by omega) (by decide)
            obtain ⟨z, hz⟩ : ∃ z, 2 * (BB : Int) = z := ⟨_, rfl⟩
            have v1 : IntKind.i64.wrap (2 * (BB : Int)) = z := by rw [← hz]; exact IntWalk.i64_in _ (by omega)
            rw [hz] at b1 b2
            obtain ⟨y, hy⟩ : ∃ y, z * (BB : Int) = y := ⟨_, rfl⟩
            rw [hy] at b1 b2
            have v2 : IntKind.i64.wrap (z * (BB : Int)) = y := by rw [← hy]; exact IntWalk.i64_in _ (by omega)
            have EY : Hid (2 * (BB : Int) * (BB : Int) = y) := by show _ = _; rw [hz, hy]
            clear hl hz hy
            by_cases hc : P ≤ y
            · have B1 : 1 ≤ BB := by
                rcases Nat.eq_zero_or_pos BB with h | h
                · subst h
                  have := EY.out
                  omega
                · exact h
              have w1 : IntKind.i64.wrap ((BB : Int) - 1) = ((BB - 1 : Nat) : Int) := by rw [show (BB : Int) - 1 = ((BB - 1 : Nat) : Int) by omega]; exact IntWalk.i64_in _ (by omega)
              go_wp2_with fail
              go_roundw
              case rel =>
                refine ⟨BB - 1, by first | rfl | go_num, by omega, ?_, by first | rfl | trivial⟩
                obtain ⟨b, rfl⟩ : ∃ b, BB = b + 1 := ⟨BB - 1, by omega⟩
                rw [HL.out, Nat.add_sub_cancel]
                exact lfBs_no (by rw [EY.out]; omega)
              case measure => simp [intOf]; omega
            · have LB : Hid (lfB P = BB) := by
                show ((lfBs P 10000 : Nat) : Int) = BB
                rw [HL.out, lfBs_yes (by rw [EY.out]; omega)]
              have SZ : Hid (∀ i, rr i = rtX (us.getD i 0) P BB) := fun i => by rw [SZ.out, LB.out]
              clear LB
              rename World => WC
              have O0 : Hid (OwnR WC.heap.size (WC.alloc (.cells #[] 40)) (.slice (some ⟨WC.heap.size, 0, none⟩) 0 0) (zz 0)) := by refine Lib.hid ?_; rw [Z0.out]; exact OwnR.empty (Nat.le_refl _)
              have BL : Hid (Below WC.heap.size WC (WC.alloc (.cells #[] 40))) := (Below.refl _ _).alloc (Nat.le_refl _) _
              have KC := Lib.hid (K2.out.keep BC.out L0.out)
              have BT : Hid (Below w.heap.size w WC) := B2.out.trans ((BC.out.mono (by have := EW.out; omega)).mono B2.out.size |> fun h => h)
              have lg := GX.out.lt
              go_wp2_with fail
              clear hc EY HL v1 v2 b1 b2
              go_loopw [4, 5, 20, 21, 22, 23] (fun _ _ v20 v21 _ _ wq => ∃ i : Nat, v21 = .int .i64 i ∧ i ≤ n ∧ (∀ k, k < i → (rr k).2.2 = true) ∧ OwnR WC.heap.size wq v20 (zz i) ∧ Below WC.heap.size WC wq) (fun _ _ _ v21 _ _ _ => n - (intOf v21).toNat)
              case atStart => exact ⟨0, rfl, Nat.zero_le _, fun k hk => by omega, O0.out, BL.out⟩
              case round =>
                clear O0 BL
                obtain ⟨i, rfl, hi, hk, ho, hB2⟩ := hrel
                obtain ⟨q20, c20, rfl⟩ := ho.form
                rw [ZL.out i]
                have HK := Lib.hid hk
                have O := Lib.hid ho
                rw [ZL.out i] at O
                have B := Lib.hid hB2
                have KB := Lib.hid (KC.out.keep B.out KC.out.lt)
                have BF : Hid (Below w.heap.size w wr) := BT.out.trans (B.out.mono BT.out.size)
                clear hk ho hB2
                by_cases hlt : i < n
                · have hc := (GX.out.keep B.out lg).cell (i := i) (by rw [UL.out]; exact hlt)
                  have SI := SZ.out i
                  have ZBi : Hid ((rr i).2.2 = false → RES = ([], false)) := fun h => ZB.out i hlt h
                  have ZUi := Lib.hid (ZU.out i)
                  obtain ⟨x, hx⟩ : ∃ x, us.getD i 0 = x := ⟨_, rfl⟩
                  rw [hx] at SI hc
                  obtain ⟨z1, hz1⟩ : ∃ z, (rr i).1 = z := ⟨_, rfl⟩
                  obtain ⟨z2, hz2⟩ : ∃ z, (rr i).2.1 = z := ⟨_, rfl⟩
                  obtain ⟨f, hf⟩ : ∃ z, (rr i).2.2 = z := ⟨_, rfl⟩
                  have RF : Hid (∀ w', Calls Tryz.prog 68 #[.int .i64 x, .int .i64 P, .int .i64 BB] w' (Gives (.tuple #[.agg #[.int .i64 z1, .int .i64 z2], .bool f]) w')) := fun w' => by
                    have := sRatio x P BB w'
                    rw [← SI, hz1, hz2, hf] at this
                    exact this
                  rw [hz1, hz2] at ZUi
                  have HF := Lib.hid hf
                  rw [hf] at ZBi
                  clear SI hx hz1 hz2 hf
                  go_wp2_with fail
                  refine (RF.out _).mono ?_
                  rintro e w3 ⟨rfl, hb3⟩
                  have O3 := Lib.hid (O.out.keep hb3)
                  have B3 := Lib.hid (B.out.trans (hb3.mono B.out.size))
                  have BF3 := Lib.hid (BF.out.trans (hb3.mono BF.out.size))
                  clear hb3 hc
                  cases f with
                  | false =>
                    have V := Lib.hid (ZBi.out rfl)
                    have B4 := Lib.hid (BF3.out.alloc BF3.out.size (.cells #[.int .i64 z1, .int .i64 z2] 40))
                    go_upto_region 42 with fail
                    generalize w3.alloc (.cells #[.int .i64 z1, .int .i64 z2] 40) = W4 at B4 ⊢
                    go_wp2_with fail
                    rw [V.out]
                    exact bodyPost_ret (v := .tuple #[.slice (some ⟨W4.heap.size, 0, none⟩) 0 0, .bool false]) (by simp [results, Tryz.results24, go_sem]) rfl ⟨_, rfl, OwnR.empty B4.out.size, B4.out.alloc B4.out.size _⟩
                  | true =>
                    have HK2 : Hid (∀ k, k < i + 1 → (rr k).2.2 = true) := fun k hk => by
                      rcases Nat.lt_or_ge k i with h3 | h3
                      · exact HK.out k h3
                      · obtain rfl : k = i := by omega
                        exact HF.out
                    have K4 : Hid (Blk2 (w3.alloc (.cells #[.int .i64 z1, .int .i64 z2] 40)) w3.heap.size 40 (.int .i64 z1) (.int .i64 z2)) := Blk2.at_ _ _ _ rfl
                    have O4 := Lib.hid (O3.out.old (.cells #[.int .i64 z1, .int .i64 z2] 40))
                    have B4 := Lib.hid (B3.out.alloc B3.out.size (.cells #[.int .i64 z1, .int .i64 z2] 40))
                    go_upto_region 42 with fail
                    obtain ⟨g4, hg4⟩ : ∃ g, w3.heap.size = g := ⟨_, rfl⟩
                    rw [hg4] at K4 ⊢
                    generalize w3.alloc (.cells #[.int .i64 z1, .int .i64 z2] 40) = W4 at K4 O4 B4 ⊢
                    clear hg4 O3 B3 BF3
                    obtain ⟨k40, k41, -, -⟩ := K4.out.all
                    have O5 := O4.out.old (.cells #[.int .i64 z1, .int .i64 z2] 40)
                    obtain ⟨v6, w6, hr6, ho6, hg6⟩ := appendRat _ (.slice q20 i c20) z1 z2 W4.heap.size O5 (Blk2.at_ _ _ _ rfl) (by rw [ZL.out]; omega) (by have := B4.out.size; simp; omega)
                    have HR := Lib.hid hr6
                    have B6 : Hid (Below WC.heap.size WC w6) := (B4.out.alloc B4.out.size _).grown hg6 (by have := B4.out.size; simp; omega) (fun j hj => by have := ownB_ge2 O5 hj; omega)
                    have O6 : Hid (OwnR WC.heap.size w6 v6 (zz (i + 1))) := by rw [ZUi.out]; exact ho6
                    obtain ⟨q6, c6, e6⟩ := ho6.form
                    have e7 : v6 = .slice q6 (i + 1) c6 := by rw [e6, List.length_append, ZL.out i]; rfl
                    clear e6
                    subst e7
                    clear hr6 ho6 hg6 O5
                    go_wp2_with (at_builtin; refine wpList_appendR rfl _ _ 29 rfl _ _ rfl rfl _ _ HR.out ?_)
                    go_roundw
                    case rel => exact ⟨i + 1, by go_num, by omega, HK2.out, O6.out, B6.out⟩
                    case measure => simp [intOf]; omega
                · obtain rfl : i = n := by omega
                  have OQ : Hid (OwnR w.heap.size wr (.slice q20 i c20) (zz i)) := O.out.le BT.out.size
                  have SQ := Lib.hid (SR.out q20 c20 (zz i) wr BF.out OQ.out.rd (ZL.out i))
                  have ZYi : Hid (irB i i xs bs (zz i) = true → RES = (zz i, true)) := fun h => ZY.out HK.out h
                  generalize irB i i xs bs (zz i) = ib at ZI ZYi SQ
                  obtain ⟨k0, k1, k2, -, -, -⟩ := KB.out.all
                  go_wp2_with fail
                  refine SQ.out.mono ?_
                  rintro e w7 ⟨rfl, hb7⟩
                  have B7 := Lib.hid (BF.out.trans (hb7.mono BF.out.size))
                  have O7 := Lib.hid (OQ.out.keep hb7)
                  clear hb7
                  cases ib with
                  | false =>
                    have V := Lib.hid (ZI.out rfl)
                    go_wp2_with fail
                    rw [V.out]
                    exact bodyPost_ret (v := .tuple #[.slice (some ⟨w7.heap.size, 0, none⟩) 0 0, .bool false]) (by simp [results, Tryz.results24, go_sem]) rfl ⟨_, rfl, OwnR.empty B7.out.size, B7.out.alloc B7.out.size _⟩
                  | true =>
                    have V := Lib.hid (ZYi.out rfl)
                    go_wp2_with fail
                    rw [V.out]
                    exact bodyPost_ret (v := .tuple #[.slice q20 i c20, .bool true]) (by simp [results, Tryz.results24, go_sem]) rfl ⟨_, rfl, O7.out, B7.out⟩
end Go.Proofs.YtcapddcmnjeloaaGreatDoor
end

section
/-
  Plain mathematics of chapter 11: a product modulo p and the steps of lifting, as the program makes them.
-/
namespace Go.Proofs.YtcapddcmnjeloaaGreatDoor
theorem svF_go {p : Int} (hp : 0 < p) (n : Nat) (vs bs : List Int) (i j : Nat) : Int.tmod (svF p n vs bs i j + Int.tmod (vs.getD (i * n + j) 0 * bs.getD j 0) p + p) p = svF p n vs bs i (j + 1) := by
  obtain ⟨h1, h2⟩ := svF_can hp n vs bs i j
  rw [svF_step]
  have e := Int.mul_tdiv_add_tmod (vs.getD (i * n + j) 0 * bs.getD j 0) p
  have l1 : -p < Int.tmod (vs.getD (i * n + j) 0 * bs.getD j 0) p ∧ Int.tmod (vs.getD (i * n + j) 0 * bs.getD j 0) p < p := ⟨Int.lt_tmod_of_pos _ hp, Int.tmod_lt_of_pos _ hp⟩
  rw [Int.tmod_eq_emod_of_nonneg (by omega)]
  refine Cg.emod_eq hp ?_
  have c1 : Cg p (Int.tmod (vs.getD (i * n + j) 0 * bs.getD j 0) p) (vs.getD (i * n + j) 0 * bs.getD j 0) := ⟨-(Int.tdiv (vs.getD (i * n + j) 0 * bs.getD j 0) p), by rw [Int.mul_neg]; omega⟩
  have c2 : Cg p (vs.getD (i * n + j) 0 * (bs.getD j 0 % p)) (vs.getD (i * n + j) 0 * bs.getD j 0) := (Cg.emod p _).mul_left _
  have c3 : Cg p (svF p n vs bs i j + Int.tmod (vs.getD (i * n + j) 0 * bs.getD j 0) p + p) (svF p n vs bs i j + Int.tmod (vs.getD (i * n + j) 0 * bs.getD j 0) p) := ⟨1, by omega⟩
  exact c3.trans ((Cg.refl p _).add (c1.trans c2.symm))
def rtL (n : Nat) (xs ds rs new : List Int) (i j : Nat) : List Int := (twL n new rs i).set i (sF n xs ds rs i j)
section
variable {n i j : Nat} {xs ds rs new : List Int}
theorem rtL_length : (rtL n xs ds rs new i j).length = n := by simp [rtL, twL_length]
theorem rtL_at (hi : i < n) : (rtL n xs ds rs new i j).getD i 0 = sF n xs ds rs i j := by
  simp [rtL, List.getD, twL_length, hi]
theorem rtL_zero : rtL n xs ds rs new i 0 = twL n new rs i := by
  unfold rtL
  rw [sF_zero]
  refine List.ext_getElem (by simp) fun a h1 h2 => ?_
  by_cases e : i = a
  · subst e
    rw [List.getElem_set_self]
    simp [twL]
  · rw [List.getElem_set_ne e]
theorem rtL_set : (rtL n xs ds rs new i j).set i (sF n xs ds rs i (j + 1)) = rtL n xs ds rs new i (j + 1) := by
  unfold rtL
  rw [List.set_set]
theorem rtL_end : (rtL n xs ds rs new i j).set i (new.getD i 0) = twL n new rs (i + 1) := by
  unfold rtL
  rw [List.set_set]
  exact twL_set
end
theorem lf_goP {p P : Int} (h1 : 101 ≤ p) (h2 : p ≤ 199) : P ≤ Int.tdiv 400000000 p ↔ LfGo p P := by
  have e : Int.tdiv 400000000 p = 400000000 / p := Int.tdiv_eq_ediv_of_nonneg (by decide)
  have b : 400000000 / p ≤ 200000000 := by
    have : 400000000 / p < 200000001 := Int.ediv_lt_of_lt_mul (by omega) (by omega)
    omega
  rw [e]
  unfold LfGo
  constructor
  · intro h; exact ⟨by omega, h⟩
  · intro h; exact h.2
end Go.Proofs.YtcapddcmnjeloaaGreatDoor
end

section
/-
  Chapter 3, in the program: IsMatrix.
-/
namespace Go.Proofs.YtcapddcmnjeloaaGreatDoor
open Go.RowKit
theorem iSize_t (n : Int) (w : World) (h1 : 0 ≤ n) (h2 : n ≤ 24) :
    Calls Tryz.prog 87 #[.int .i64 n] w fun e w' => e = .returned (.bool true) ∧ w = w' := by
  go_enter Tryz.func87, Tryz.ntmps87
  go_wp2
  go_ret
  exact ⟨rfl, rfl⟩
theorem iSize_f (n : Int) (w : World) (h : n < 0 ∨ 24 < n) :
    Calls Tryz.prog 87 #[.int .i64 n] w fun e w' => e = .returned (.bool false) ∧ w = w' := by
  by_cases h1 : 0 ≤ n
  · have h2 : decide (n ≤ 24) = false := by simp; omega
    go_enter Tryz.func87, Tryz.ntmps87
    go_wp2
    go_ret
    exact ⟨rfl, rfl⟩
  · go_enter Tryz.func87, Tryz.ntmps87
    go_wp2
    go_ret
    exact ⟨rfl, rfl⟩
theorem iIsNum (n : Int) (w : World) :
    Calls Tryz.prog 90 #[.int .i64 n] w fun e w' => e = .returned (.bool (decide (NumP n))) ∧ w = w' := by
  by_cases h : NumP n
  · rw [decide_eq_true h]; exact iIsNum_t n w h.1 h.2
  · rw [decide_eq_false h]; exact iIsNum_f n w (by unfold NumP at h; omega)
theorem iStep (b : Bool) (i j z : Int) (w : World) :
    Calls Tryz.prog 89 #[.bool b, .int .i64 i, .int .i64 j, .int .i64 z] w fun e w' => e = .returned (.bool (b && decide (NumP z))) ∧ w = w' := by
  cases b
  · go_enter Tryz.func89, Tryz.ntmps89
    go_wp2_with fail
    go_ret
    exact ⟨rfl, rfl⟩
  · go_enter Tryz.func89, Tryz.ntmps89
    go_wp2_with fail
    refine (iIsNum z _).mono ?_
    rintro e w' ⟨rfl, rfl⟩
    go_wp2_with fail
    go_ret
    exact ⟨rfl, rfl⟩
theorem take_nums (zs : List Int) (k : Nat) (hk : k < zs.length) : nums (zs.take (k + 1)) = (nums (zs.take k) && decide (NumP (zs.getD k 0))) := by
  unfold nums
  rw [List.take_succ_eq_append_getElem hk, List.all_append]
  simp only [List.all_cons, List.all_nil, Bool.and_true, List.getD, List.getElem?_eq_getElem hk, Option.getD_some]
set_option maxHeartbeats 400000 in
theorem iFoldB (r c : Int) (a : Option Addr) (cap : Nat) (zs : List Int) (w : World) (h : Rd w a zs) (hn : zs.length ≤ 16777216) (hc : zs.length = 0 ∨ 0 < c) :
    Calls Tryz.prog 88 #[.agg #[.int .i64 r, .int .i64 c, .slice a zs.length cap], .bool true, .func (.func 89) #[] #[]] w (Gives (.bool (nums zs)) w) := by
  have B0 : ∀ o, Below w.heap.size w (w.alloc o) := fun o => (Below.refl _ _).alloc (Nat.le_refl _) o
  have BH := Lib.hid B0
  have H := Lib.hid h
  obtain ⟨n, hnn⟩ : ∃ n, zs.length = n := ⟨_, rfl⟩
  have HN := Lib.hid hnn
  rw [hnn] at hn hc ⊢
  clear h B0 hnn
  go_enter Tryz.func88, Tryz.ntmps88
  go_wp2_with fail
  go_loopw [7, 8, 9, 14] (fun b _ _ i wr => ∃ k : Nat, i = .int .i64 k ∧ k ≤ n ∧ b = .bool (nums (zs.take k)) ∧ ∃ q, wr = (w.alloc (.cells #[.int .i64 r, .int .i64 c, .slice a n cap] 26)).drewN q) (fun _ _ _ i _ => n - (intOf i).toNat)
  case atStart => exact ⟨0, rfl, by omega, rfl, 0, rfl⟩
  case round =>
    obtain ⟨k, rfl, hk, rfl, q, rfl⟩ := hrel
    by_cases hlt : k < n
    · have c0 : (c == 0) = false := by simp; omega
      obtain ⟨b, o, rfl, hcell⟩ := (H.out.below (BH.out (.cells #[.int .i64 r, .int .i64 c, .slice a n cap] 26))) k (by rw [HN.out]; exact hlt)
      obtain ⟨z, hz⟩ : ∃ z, zs.getD k 0 = z := ⟨_, rfl⟩
      obtain ⟨bb, hbb⟩ : ∃ bb, nums (zs.take k) = bb := ⟨_, rfl⟩
      rw [hz] at hcell
      have Z := Lib.hid hz
      have BB := Lib.hid hbb
      rw [hbb]
      clear hz hbb
      go_wp2_with fail
      go_quiet ((refine (iStep _ _ _ _ _).mono ?_; rintro e w' ⟨rfl, rfl⟩; exact ⟨rfl, _, rfl⟩))
      go_wp2_with fail
      go_roundw
      case rel => exact ⟨k + 1, by go_num, by omega, by rw [take_nums zs k (by rw [HN.out]; exact hlt), BB.out, Z.out], _, rfl⟩
      case measure => simp [intOf]; omega
    · have hkn : k = n := by omega
      subst hkn
      have E : Hid (nums (zs.take k) = nums zs) := by show nums (zs.take k) = nums zs; rw [← HN.out, List.take_length]
      go_wp2_with fail
      go_ret
      exact ⟨by rw [E.out]; rfl, below_drewN (BH.out _) q⟩
set_option maxHeartbeats 400000 in
theorem iIsMat (r c : Int) (a : Option Addr) (cap : Nat) (zs : List Int) (w : World) (h : Rd w a zs) (hn : zs.length ≤ 16777216) :
    Calls Tryz.prog 43 #[.agg #[.int .i64 r, .int .i64 c, .slice a zs.length cap]] w (Gives (.bool (isMat r c zs)) w) := by
  have B0 : ∀ o, Below w.heap.size w (w.alloc o) := fun o => (Below.refl _ _).alloc (Nat.le_refl _) o
  have BH := Lib.hid B0
  have H := Lib.hid h
  clear h B0
  obtain ⟨n, hnn⟩ : ∃ n, zs.length = n := ⟨_, rfl⟩
  have HN := Lib.hid hnn
  have ED : isMat r c zs = (decide (SizeP r) && decide (SizeP c) && decide ((n : Int) = r * c) && nums zs) := by unfold isMat; rw [hnn]
  have E := Lib.hid ED
  rw [hnn] at hn ⊢
  clear hnn ED
  by_cases hr : 0 ≤ r ∧ r ≤ 24
  · by_cases hc : 0 ≤ c ∧ c ≤ 24
    · obtain ⟨m1, m2⟩ := mul_size r c hr hc
      by_cases hl : (n : Int) = r * c
      · have l1 : ((n : Int) != r * c) = false := by simpa using hl
        have l2 : ((n : Int) == r * c) = true := by simpa using hl
        have E2 : Hid (isMat r c zs = nums zs) := by
          show isMat r c zs = nums zs
          rw [E.out, show decide (SizeP r) = true from decide_eq_true hr, show decide (SizeP c) = true from decide_eq_true hc, show decide ((n : Int) = r * c) = true from decide_eq_true hl]; rfl
        have hz : zs.length = 0 ∨ 0 < c := by
          rw [HN.out]
          rcases Nat.eq_zero_or_pos n with e | e
          · exact .inl e
          · right
            rcases Int.lt_or_lt_of_ne (a := c) (b := 0) (fun e0 => by rw [e0, Int.mul_zero] at hl; omega) with h | h <;> omega
        have HZ := Lib.hid hz
        clear hl hz
        obtain ⟨r1, r2⟩ := hr
        obtain ⟨c1, c2⟩ := hc
        go_enter Tryz.func43, Tryz.ntmps43
        go_wp2_with (go_at_call 87; refine (iSize_t _ _ (by omega) (by omega)).mono ?_; rintro e w' ⟨rfl, rfl⟩)
        have ST := iFoldB r c a cap zs _ (H.out.below (BH.out (.cells #[.int .i64 r, .int .i64 c, .slice a n cap] 26))) (by rw [HN.out]; exact hn) HZ.out
        rw [HN.out] at ST
        refine ST.mono ?_
        clear ST
        rintro e w' ⟨rfl, hb⟩
        have HB := Lib.hid ((BH.out _).trans (hb.mono (BH.out (.cells #[.int .i64 r, .int .i64 c, .slice a n cap] 26)).size))
        clear hb
        go_wp2_with fail
        go_ret
        exact ⟨by rw [E2.out]; rfl, HB.out⟩
      · have l1 : ((n : Int) != r * c) = true := by simpa using hl
        have l2 : ((n : Int) == r * c) = false := by simpa using hl
        have E2 : Hid (isMat r c zs = false) := by
          show isMat r c zs = false
          rw [E.out, show decide ((n : Int) = r * c) = false from decide_eq_false hl]; simp
        clear hl
        obtain ⟨r1, r2⟩ := hr
        obtain ⟨c1, c2⟩ := hc
        go_enter Tryz.func43, Tryz.ntmps43
        go_wp2_with (go_at_call 87; refine (iSize_t _ _ (by omega) (by omega)).mono ?_; rintro e w' ⟨rfl, rfl⟩)
        go_ret
        exact ⟨by rw [E2.out]; rfl, BH.out _⟩
    · have E2 : Hid (isMat r c zs = false) := by
        show isMat r c zs = false
        rw [E.out, show decide (SizeP c) = false from decide_eq_false hc]; simp
      have hc' : c < 0 ∨ 24 < c := by omega
      clear hc
      go_enter Tryz.func43, Tryz.ntmps43
      go_wp2_with fail
      refine (iSize_t r _ hr.1 hr.2).mono ?_
      rintro e w' ⟨rfl, rfl⟩
      go_wp2_with fail
      refine (iSize_f c _ hc').mono ?_
      rintro e w' ⟨rfl, rfl⟩
      go_wp2_with fail
      go_ret
      exact ⟨by rw [E2.out]; rfl, BH.out _⟩
  · have E2 : Hid (isMat r c zs = false) := by
      show isMat r c zs = false
      rw [E.out, show decide (SizeP r) = false from decide_eq_false hr]; simp
    have hr' : r < 0 ∨ 24 < r := by omega
    clear hr
    go_enter Tryz.func43, Tryz.ntmps43
    go_wp2_with fail
    refine (iSize_f r _ hr').mono ?_
    rintro e w' ⟨rfl, rfl⟩
    go_wp2_with fail
    go_ret
    exact ⟨by rw [E2.out]; rfl, BH.out _⟩
end Go.Proofs.YtcapddcmnjeloaaGreatDoor
end

section
/-
  Chapter 3, in the program: a row that shares its memory with the matrix.
-/
namespace Go.Proofs.YtcapddcmnjeloaaGreatDoor
set_option maxRecDepth 100000
open Go.RowKit
def rwL (c : Nat) (v : Nat → Int) : List Int := (List.range c).map v
theorem rwL_length (c : Nat) (v : Nat → Int) : (rwL c v).length = c := by simp [rwL]
theorem rwL_at {c : Nat} {v : Nat → Int} {j : Nat} (hj : j < c) : (rwL c v).getD j 0 = v j := by simp [rwL, List.getD, hj]
def RowAt (q : Option Addr) (D c : Nat) (w : World) (e : Ending) (w' : World) : Prop :=
  ∃ (q' : Option Addr) (m' : Nat), e = .returned (.slice q' c m') ∧ c ≤ m' ∧ (∀ g o : Nat, q = some ⟨g, o, none⟩ → 0 < c → q' = some ⟨g, o + D, none⟩) ∧ (q = none → q' = none) ∧ Below w.heap.size w w'
theorem Rd.row {w : World} {q q' : Option Addr} {xs : List Int} {r c i : Nat} (h : Rd w q xs) (hx : xs.length = r * c) (hi : i < r) (hq : ∀ g o : Nat, q = some ⟨g, o, none⟩ → 0 < c → q' = some ⟨g, o + i * c, none⟩) : Rd w q' (rwL c (mxC c xs i)) := fun j hj => by
  rw [rwL_length] at hj
  obtain ⟨b, o, ha, hc⟩ := h (i * c + j) (by rw [hx]; exact idx_lt hi hj)
  refine ⟨b, o + i * c, hq b o ha (by omega), ?_⟩
  rw [rwL_at hj, Nat.add_assoc]
  exact hc
set_option maxHeartbeats 1000000 in
theorem iRowIn (r c i D N cap : Nat) (q : Option Addr) (w : World) (hq : Spot q) (hD : i * c = D) (hN : D + c ≤ N) (hc : N ≤ cap) (hn : q = none → cap = 0) (h1 : N ≤ 600) (hi : i ≤ 600) :
    Calls Tryz.prog 44 #[.agg #[.int .i64 r, .int .i64 c, .slice q N cap], .int .i64 i] w (RowAt q D c w) := by
  have u1 : (i : Int) * (c : Int) = (D : Int) := by rw [← hD]; exact (Int.natCast_mul _ _).symm
  have u2 : ((i : Int) + 1) * (c : Int) = ((D + c : Nat) : Int) := by rw [Int.add_mul, Int.one_mul, u1]; rfl
  have v1 : IntKind.i64.wrap ((i : Int) * (c : Int)) = (D : Int) := by rw [u1]; exact IntWalk.i64_in _ (by omega)
  have v2 : IntKind.i64.wrap ((i : Int) + 1) = (i : Int) + 1 := IntWalk.i64_in _ (by omega)
  have v3 : IntKind.i64.wrap (((i : Int) + 1) * (c : Int)) = ((D + c : Nat) : Int) := by rw [u2]; exact IntWalk.i64_in _ (by omega)
  have Z : Hid (c = 0 → D = 0) := fun h => by rw [← hD, h, Nat.mul_zero]
  have Dm : D + c ≤ cap := by omega
  have K0 : Hid (Blk3 (w.alloc (.cells #[.int .i64 r, .int .i64 c, .slice q N cap] 26)) w.heap.size 26 (.int .i64 r) (.int .i64 c) (.slice q N cap)) := Blk3.at_ _ _ _ _ rfl
  have B : Hid (Below w.heap.size w (w.alloc (.cells #[.int .i64 r, .int .i64 c, .slice q N cap] 26))) := (Below.refl _ _).alloc (Nat.le_refl _) _
  clear hD u1 u2
  rcases hq with rfl | ⟨g, o, rfl⟩
  · obtain rfl : cap = 0 := hn rfl
    obtain rfl : c = 0 := by omega
    obtain rfl : D = 0 := by omega
    obtain rfl : N = 0 := by omega
    go_enter Tryz.func44, Tryz.ntmps44
    go_wp2_with fail
    exact bodyPost_ret (v := .slice none 0 0) (by simp [results, Tryz.results44, go_sem]) rfl ⟨none, 0, rfl, Nat.le_refl _, (fun g o h => by cases h), (fun _ => rfl), B.out⟩
  · rcases Nat.lt_or_ge D cap with hlt | hge
    · go_enter Tryz.func44, Tryz.ntmps44
      go_wp2_with fail
      rw [show D + c - D = c by omega]
      exact bodyPost_ret (v := .slice (some ⟨g, o + D, none⟩) c (cap - D)) (by simp [results, Tryz.results44, go_sem]) rfl ⟨_, _, rfl, by omega, (fun g' o' h _ => by injection h with h; injection h with h1 h2; rw [h1, h2]), (fun h => by cases h), B.out⟩
    · obtain rfl : c = 0 := by omega
      obtain rfl : D = 0 := Z.out rfl
      obtain rfl : cap = 0 := by omega
      obtain rfl : N = 0 := by omega
      go_enter Tryz.func44, Tryz.ntmps44
      go_wp2_with fail
      exact bodyPost_ret (v := .slice (some ⟨g, o, none⟩) 0 0) (by simp [results, Tryz.results44, go_sem]) rfl ⟨_, _, rfl, Nat.le_refl _, (fun g' o' h h0 => by omega), (fun h => by cases h), B.out⟩
end Go.Proofs.YtcapddcmnjeloaaGreatDoor
end

section
/-
  The builtin copy over ints in memory; rows laid over rows. No function of the program is named.
-/
namespace Go.Proofs.YtcapddcmnjeloaaGreatDoor
set_option maxRecDepth 100000
open Go.RowKit
theorem getD_three {A B C : List Int} {s m k : Nat} (ha : A.length = s) (hb : B.length = m) : (A ++ B ++ C).getD k 0 = if k < s then A.getD k 0 else if k < s + m then B.getD (k - s) 0 else C.getD (k - s - m) 0 := by
  subst ha hb
  simp only [List.getD, List.getElem?_append, List.length_append]
  by_cases h1 : k < A.length
  · rw [if_pos h1, if_pos (by omega), if_pos h1]
  · rw [if_neg h1]
    by_cases h2 : k < A.length + B.length
    · rw [if_pos h2, if_pos h2, if_neg h1]
    · rw [if_neg h2, if_neg h2, if_neg h1]; try rw [Nat.sub_add_eq]
theorem splice_tab {r c i o m : Nat} {f g : Nat → Nat → Int} {ys : List Int} (hi : i < r) (ho : o + m ≤ c) (hy : ys.length = m) (h1 : ∀ b, o ≤ b → b < o + m → g i b = ys.getD (b - o) 0) (h2 : ∀ a b, a < r → b < c → ¬ (a = i ∧ o ≤ b ∧ b < o + m) → g a b = f a b) :
    (tab r c f).take (i * c + o) ++ ys ++ (tab r c f).drop (i * c + o + m) = tab r c g := by
  have hic : i * c + c ≤ r * c := by rw [← Nat.succ_mul]; exact Nat.mul_le_mul_right _ hi
  have lt : ((tab r c f).take (i * c + o)).length = i * c + o := by rw [List.length_take, tab_length]; omega
  refine tab_ext (by rw [List.length_append, List.length_append, lt, hy, List.length_drop, tab_length]; omega) fun a b ha hb => ?_
  rw [getD_three lt hy]
  have hk := idx_lt (r := r) ha hb
  by_cases e : a = i
  · subst e
    by_cases hb1 : b < o
    · rw [if_pos (by omega), h2 a b ha hb (by omega), ← tab_at r c f ha hb]
      simp only [List.getD]
      rw [List.getElem?_take, if_pos (by omega)]
    · by_cases hb2 : b < o + m
      · rw [if_neg (by omega), if_pos (by omega), h1 b (by omega) hb2]
        congr 1; omega
      · rw [if_neg (by omega), if_neg (by omega), h2 a b ha hb (by omega), ← tab_at r c f ha hb]
        simp only [List.getD]
        rw [List.getElem?_drop]
        congr 2; omega
  · rw [h2 a b ha hb (by omega), ← tab_at r c f ha hb]
    rcases Nat.lt_or_ge a i with h3 | h3
    · have : a * c + c ≤ i * c := by rw [← Nat.succ_mul]; exact Nat.mul_le_mul_right _ h3
      rw [if_pos (by omega)]
      simp only [List.getD]
      rw [List.getElem?_take, if_pos (by omega)]
    · have : i * c + c ≤ a * c := by rw [← Nat.succ_mul]; exact Nat.mul_le_mul_right _ (by omega)
      rw [if_neg (by omega), if_neg (by omega)]
      simp only [List.getD]
      rw [List.getElem?_drop]
      congr 2; omega
theorem wdTo_lay {p : Int} {n : Nat} {xs ys : List Int} {i : Nat} (hi : i < n) (hy : ys.length = n) (h : ∀ b, b < n → ys.getD b 0 = (resL p xs).getD (i * n + b) 0) : (wdTo p n xs i 0).take (i * (2 * n)) ++ ys ++ (wdTo p n xs i 0).drop (i * (2 * n) + n) = wdTo p n xs i n := by
  refine splice_tab (o := 0) hi (by omega) hy (fun b _ hb => ?_) fun a b ha hb hn => ?_
  · rw [if_pos (by omega), h (b - 0) (by omega)]
    unfold wdF
    rw [if_pos (by omega)]; rfl
  · by_cases h1 : a < i ∨ (a = i ∧ b < 0)
    · rw [if_pos h1, if_pos (by omega)]
    · rw [if_neg h1, if_neg (by omega)]
theorem hfTo_lay {n : Nat} {zs ys : List Int} {i : Nat} (hi : i < n) (hy : ys.length = n) (h : ∀ b, b < n → ys.getD b 0 = zs.getD (i * (2 * n) + (n + b)) 0) : (hfTo n zs i 0).take (i * n) ++ ys ++ (hfTo n zs i 0).drop (i * n + n) = hfTo n zs (i + 1) 0 := by
  refine splice_tab (o := 0) hi (by omega) hy (fun b _ hb => ?_) fun a b ha hb hn => ?_
  · rw [if_pos (by omega), h (b - 0) (by omega)]; rfl
  · by_cases h1 : a < i ∨ (a = i ∧ b < 0)
    · rw [if_pos h1, if_pos (by omega)]
    · rw [if_neg h1, if_neg (by omega)]
theorem copyInts (w : World) (g off dLen dCap m sCap : Nat) (sp : Option Addr) (zs ys : List Int) (hi : Ints w g zs) (h : Rd w sp ys) (hy : ys.length = m) (hm : 0 < m) (hd : m ≤ dLen) (hfit : off + m ≤ zs.length) (ty : TypeId) :
    ∃ w', (Builtin.copy_ #[24, 24] ty #[.slice (some ⟨g, off, none⟩) dLen dCap, .slice sp m sCap]).run Tryz.prog w = .ok (goInt m) w' ∧ Ints w' g (zs.take off ++ ys ++ zs.drop (off + m)) ∧ w.grownBy w' (some g) := by
  obtain ⟨gs, os, rfl⟩ := h.addr (by omega)
  obtain ⟨rest, hg⟩ := hi
  obtain ⟨fi, hfi, hz0, hz1, hz2⟩ := facts_int
  have hsz : (Tryz.prog.info? 3).map (·.size) = some 1 := by rw [hfi]; simp [hz1]
  have hl : (ys.map (Value.int .i64)).length = m := by rw [List.length_map, hy]
  have news : ∀ (j : Nat) v, (ys.map (Value.int .i64))[j]? = some v → w.cell? ((⟨gs, os, none⟩ : Addr).add j) = some v := by
    intro j u hu
    rw [List.getElem?_map] at hu
    obtain ⟨z, hz, rfl⟩ := Option.map_eq_some_iff.mp hu
    obtain ⟨h1, h2⟩ := List.getElem?_eq_some_iff.mp hz
    obtain ⟨b', o', e, hc⟩ := h j h1
    injection e with e
    injection e with e1 e2
    subst e1 e2
    rw [show (⟨gs, os, none⟩ : Addr).add j = ⟨gs, os + j, none⟩ by simp only [Addr.add]; split <;> simp_all, hc]
    simp [List.getD, hz]
  have hrun := run_copy_row (P := Tryz.prog) w 24 24 ty 3 g off dLen dCap ⟨gs, os, none⟩ m sCap _ 3 (ys.map (Value.int .i64)) Tryz.underlying24 hsz hg (by rw [hl]; show m = min m dLen; omega) news (by rw [hl]; simp; omega) (fun v hv => by
    obtain ⟨z, -, rfl⟩ := List.mem_map.mp hv
    rfl)
  rw [hl] at hrun
  refine ⟨_, hrun, ⟨rest, ?_⟩, ⟨rfl, rfl, rfl, by simp [World.setRow], fun k hk hne => setRow_other w g k _ (fun e => hne (by rw [e]))⟩⟩
  rw [setRow_heap w g _ _ 3 _ hg]
  congr 2
  simp only [List.map_append, List.map_take, List.map_drop, List.append_assoc]
  rw [List.take_append_of_le_length (by rw [List.length_map]; omega), List.drop_append_of_le_length (by rw [List.length_map]; omega)]
theorem step_copy {P : Program} {ops : Array Oper} {o : Oper} {a : Act} {w : World} {K : Act → World → Prop} {Q : Exit → Act → World → Prop} {E : Prop}
    (hg : o.guard = none) (s x : Operand) (t : TypeId) (hop : o.op = Op.call { callee := Callee.builtin Builtin.copy, args := #[s, x], argTypes := #[t, t] }) (v1 v2 : Value) (hs : a.eval s = v1) (hx : a.eval x = v2) (v' : Value) (w' : World)
    (hr : (Builtin.copy_ #[t, t] o.type #[v1, v2]).run P w = .ok v' w') (hK : K (a.put o.dst v') w') : if Region.wanted o (yielded ops a.tmps) = true then Oper.wp P o a w K Q else E := by
  have hw : Region.wanted o (yielded ops a.tmps) = true := by simp [Region.wanted, hg]
  rw [if_pos hw]
  unfold Oper.wp
  simp [execOp, hop, resolve, invoke, builtin, hs, hx, hr, Result.andThen]
  exact hK
theorem wpList_copyR {P : Program} {w : World} {ops : Array Oper} {rest : List Oper} {o : Oper} {a : Act} {Q : Exit → Act → World → Prop} (hgd : o.guard = none) (d s : Operand) (t : TypeId)
    (ho : o.op = .call { callee := .builtin .copy, args := #[d, s], argTypes := #[t, t] }) (v1 v2 : Value) (hd : a.eval d = v1) (hs : a.eval s = v2) (v' : Value) (w' : World) (hr : (Builtin.copy_ #[t, t] o.type #[v1, v2]).run P w = .ok v' w')
    (h : wpList P ops Q rest (a.put o.dst v') w') : wpList P ops Q (o :: rest) a w := by
  refine wpList_plain hgd fun K hK => ?_
  unfold Oper.wp
  simp [execOp, ho, resolve, invoke, builtin, hd, hs, hr, Result.andThen]
  exact hK _ _ h
end Go.Proofs.YtcapddcmnjeloaaGreatDoor
end

section
/-
  Chapter 8, in the program: the iterator over primes; IsPrime.
-/
namespace Go.Proofs.YtcapddcmnjeloaaGreatDoor
set_option maxRecDepth 100000
open Go.RowKit Go.Shelf
def prmTo (n : Nat) : List Int := ((List.range n).filter fun (q : Nat) => prmB (q : Int)).map fun (q : Nat) => (q : Int)
theorem prmTo_succ (n : Nat) : prmTo (n + 1) = if prmB (n : Int) = true then prmTo n ++ [(n : Int)] else prmTo n := by
  unfold prmTo
  rw [List.range_succ, List.filter_append, List.map_append]
  by_cases h : prmB (n : Int) = true
  · rw [if_pos h]; simp [h]
  · rw [if_neg h]; simp [h]
theorem prmTo_mem {n : Nat} {x : Int} : x ∈ prmTo n ↔ ∃ q : Nat, x = q ∧ q < n ∧ prmB (q : Int) = true := by
  unfold prmTo
  simp only [List.mem_map, List.mem_filter, List.mem_range]
  exact ⟨fun ⟨q, ⟨h1, h2⟩, e⟩ => ⟨q, e.symm, h1, h2⟩, fun ⟨q, e, h1, h2⟩ => ⟨q, ⟨h1, h2⟩, e.symm⟩⟩
theorem prmTo_two : prmTo 2 = [] := by decide
theorem prmTo_length (n : Nat) : (prmTo n).length ≤ n := by
  unfold prmTo
  rw [List.length_map]
  exact Nat.le_trans (List.length_filter_le _ _) (by simp)
theorem least_div : ∀ n d : Nat, 2 ≤ d → d ∣ n → 0 < n → ∃ q : Nat, 2 ≤ q ∧ q ≤ d ∧ q ∣ n ∧ ∀ e : Nat, 2 ≤ e → e < q → ¬ e ∣ n := by
  intro n d
  induction d using Nat.strongRecOn with
  | ind d ih =>
    intro hd hdv hn
    by_cases h : ∃ e, 2 ≤ e ∧ e < d ∧ e ∣ n
    · obtain ⟨e, e1, e2, e3⟩ := h
      obtain ⟨q, q1, q2, q3⟩ := ih e e2 e1 e3 hn
      exact ⟨q, q1, by omega, q3⟩
    · exact ⟨d, hd, Nat.le_refl _, hdv, fun e e1 e2 e3 => h ⟨e, e1, e2, e3⟩⟩
theorem prm_of_least {n q : Nat} (h1 : 2 ≤ q) (h2 : q ≤ 10000) (h3 : q ∣ n) (h4 : ∀ e : Nat, 2 ≤ e → e < q → ¬ e ∣ n) : prmB (q : Int) = true := by
  refine prmB_true ⟨by omega, by omega⟩ fun d hd hdd hdv => ?_
  have e1 : d ∣ q := Int.natCast_dvd_natCast.mp hdv
  have e2 : d * d ≤ q := by rw [← Int.natCast_mul] at hdd; omega
  have e3 : d < q := by
    have : 2 * d ≤ d * d := Nat.mul_le_mul_right d hd
    omega
  exact h4 d hd e3 (Nat.dvd_trans e1 h3)
theorem prm_iff {n : Nat} (h1 : 2 ≤ n) (h2 : n ≤ 10000) : prmB (n : Int) = true ↔ ∀ x ∈ prmTo n, (n : Int) % x ≠ 0 := by
  constructor
  · intro hp x hx he
    obtain ⟨q, rfl, hq, hqp⟩ := prmTo_mem.mp hx
    have hq2 := (prmB_says hqp).1.1
    have hdv : q ∣ n := Int.natCast_dvd_natCast.mp (Int.dvd_of_emod_eq_zero he)
    obtain ⟨m, hm⟩ := hdv
    obtain ⟨pp, -⟩ := prmB_says hp
    have hm2 : 2 ≤ m := by
      rcases Nat.lt_or_ge m 2 with h | h
      · have : m = 0 ∨ m = 1 := by omega
        rcases this with rfl | rfl
        · omega
        · omega
      · exact h
    rcases Nat.le_total q m with h | h
    · refine pp.2 q (by omega) ?_ ⟨m, by rw [hm, Int.natCast_mul]⟩
      rw [hm, ← Int.natCast_mul]
      exact Int.ofNat_le.mpr (Nat.mul_le_mul_left q h)
    · refine pp.2 m (by omega) ?_ ⟨q, by rw [hm, Int.natCast_mul, Int.mul_comm]⟩
      rw [hm, ← Int.natCast_mul]
      exact Int.ofNat_le.mpr (Nat.mul_le_mul_right m h)
  · intro h
    obtain ⟨q, q1, q2, q3, q4⟩ := least_div n n h1 (Nat.dvd_refl n) (by omega)
    have hq := prm_of_least q1 (by omega) q3 q4
    rcases Nat.lt_or_ge q n with h3 | h3
    · exact absurd (Int.emod_eq_zero_of_dvd (Int.natCast_dvd_natCast.mpr q3)) (h q (prmTo_mem.mpr ⟨q, rfl, h3, hq⟩))
    · obtain rfl : q = n := by omega
      exact hq
theorem not_prm {p : Int} (h1 : 2 ≤ p) (h2 : p ≤ 10000) (h : prmB p = false) : ∃ q : Nat, q < 10001 ∧ prmB (q : Int) = true ∧ (q : Int) * (q : Int) ≤ p ∧ p % (q : Int) = 0 := by
  obtain ⟨n, rfl⟩ := Int.eq_ofNat_of_zero_le (show 0 ≤ p by omega)
  have hx : ¬ ∀ d : Nat, 2 ≤ d → (d : Int) * (d : Int) ≤ (n : Int) → ¬ (d : Int) ∣ (n : Int) := fun h3 => by
    rw [prmB_true ⟨h1, h2⟩ h3] at h; cases h
  have : ∃ d : Nat, 2 ≤ d ∧ (d : Int) * (d : Int) ≤ (n : Int) ∧ (d : Int) ∣ (n : Int) := Classical.byContradiction fun hn => hx fun d e1 e2 e3 => hn ⟨d, e1, e2, e3⟩
  obtain ⟨d, d1, d2, d3⟩ := this
  obtain ⟨q, q1, q2, q3, q4⟩ := least_div n d d1 (Int.natCast_dvd_natCast.mp d3) (by omega)
  have hqd : q * q ≤ d * d := Nat.mul_le_mul q2 q2
  rw [← Int.natCast_mul] at d2
  have h5 : q ≤ q * q := Nat.le_mul_of_pos_left q (by omega)
  refine ⟨q, by omega, prm_of_least q1 (by omega) q3 q4, by rw [← Int.natCast_mul]; omega, Int.emod_eq_zero_of_dvd (Int.natCast_dvd_natCast.mpr q3)⟩
end Go.Proofs.YtcapddcmnjeloaaGreatDoor
end

section
/-
  Chapter 8, in the program: slices.ContainsFunc with the iterator's test.
-/
namespace Go.Proofs.YtcapddcmnjeloaaGreatDoor
set_option maxRecDepth 100000
open Go.RowKit Go.Shelf
theorem iDivides (n x : Int) (b : Nat) (w : World) (hb : w.cell? ⟨b, 0, none⟩ = some (.int .i64 n)) (hn : 0 ≤ n) (hx : 2 ≤ x) :
    Calls Tryz.prog 105 #[.int .i64 x, .pointer (some ⟨b, 0, none⟩)] w fun e w' => e = .returned (.bool (n % x == 0)) ∧ w = w' := by
  have h0 : (x == 0) = false := by simp; omega
  go_enter Tryz.func105, Tryz.ntmps105
  go_wp2_with fail
  go_ret
  exact ⟨rfl, rfl⟩
set_option maxHeartbeats 1000000 in
theorem iIdx (n : Int) (b m L : Nat) (q : Option Addr) (xs : List Int) (w : World) (h : Rd w q xs) (hL : xs.length = L) (hb : w.cell? ⟨b, 0, none⟩ = some (.int .i64 n)) (hn : 0 ≤ n) (hx : ∀ k, k < L → 2 ≤ xs.getD k 0) (hl : L ≤ 16777216) :
    Calls Tryz.prog 149 #[.slice q L m, .func (.func 105) #[] #[.pointer (some ⟨b, 0, none⟩)]] w fun e w' => ((∃ k : Nat, e = .returned (.int .i64 k) ∧ k < L ∧ n % xs.getD k 0 = 0) ∨ (e = .returned (.int .i64 (-1)) ∧ ∀ k, k < L → n % xs.getD k 0 ≠ 0)) ∧ w = w' := by
  have H := Lib.hid h
  have HX := Lib.hid hx
  have HL := Lib.hid hL
  have HB := Lib.hid hb
  clear h hx hL hb
  go_enter Tryz.func149, Tryz.ntmps149
  go_wp2_with fail
  go_loopw [5, 8] (fun _ v8 wr => ∃ k : Nat, v8 = .int .i64 k ∧ k ≤ L ∧ (∀ i, i < k → n % xs.getD i 0 ≠ 0) ∧ wr = w) (fun _ v8 _ => L - (intOf v8).toNat)
  case atStart => exact ⟨0, rfl, by omega, fun i hi => by omega, rfl⟩
  case round =>
    obtain ⟨k, rfl, hk, hi, rfl⟩ := hrel
    have HI := Lib.hid hi
    clear hi
    by_cases hlt : k < L
    · obtain ⟨g, o, rfl, hc⟩ := H.out k (by rw [HL.out]; exact hlt)
      have hx := HX.out k hlt
      obtain ⟨x, hxx⟩ : ∃ x, xs.getD k 0 = x := ⟨_, rfl⟩
      have X := Lib.hid hxx
      rw [hxx] at hc hx
      clear hxx
      by_cases hz : n % x = 0
      · have hcall := iDivides n x b wr HB.out hn hx
        rw [show (n % x == 0) = true by simp [hz]] at hcall
        go_wp2_with fail
        refine hcall.mono ?_
        rintro e w' ⟨rfl, rfl⟩
        go_wp2_with fail
        go_ret
        exact ⟨.inl ⟨k, rfl, hlt, by rw [X.out]; exact hz⟩, rfl⟩
      · have hcall := iDivides n x b wr HB.out hn hx
        rw [show (n % x == 0) = false by simpa using hz] at hcall
        go_wp2_with fail
        refine hcall.mono ?_
        rintro e w' ⟨rfl, rfl⟩
        go_wp2_with fail
        go_roundw
        case rel => exact ⟨k + 1, by go_num, by omega, fun i hi2 => by
          rcases Nat.lt_or_ge i k with h3 | h3
          · exact HI.out i h3
          · obtain rfl : i = k := by omega
            rw [X.out]; exact hz, trivial⟩
        case measure => simp [intOf]; omega
    · obtain rfl : k = L := by omega
      go_wp2_with fail
      go_ret
      exact ⟨.inr ⟨rfl, HI.out⟩, rfl⟩
theorem iContains (n : Int) (b m L : Nat) (q : Option Addr) (xs : List Int) (w : World) (h : Rd w q xs) (hL : xs.length = L) (hb : w.cell? ⟨b, 0, none⟩ = some (.int .i64 n)) (hn : 0 ≤ n) (hx : ∀ k, k < L → 2 ≤ xs.getD k 0) (hl : L ≤ 16777216) (t : Bool) (ht : t = true ↔ ∃ k, k < L ∧ n % xs.getD k 0 = 0) :
    Calls Tryz.prog 104 #[.slice q L m, .func (.func 105) #[] #[.pointer (some ⟨b, 0, none⟩)]] w fun e w' => e = .returned (.bool t) ∧ w = w' := by
  have hi := Lib.hid (iIdx n b m L q xs w h hL hb hn hx hl)
  clear h hL hb hx
  go_enter Tryz.func104, Tryz.ntmps104
  go_wp2_with fail
  refine hi.out.mono ?_
  rintro e w' ⟨⟨k, rfl, h1, h2⟩ | ⟨rfl, h1⟩, rfl⟩
  · obtain rfl : t = true := ht.mpr ⟨k, h1, h2⟩
    clear ht
    go_wp2_with fail
    go_ret
    exact ⟨rfl, rfl⟩
  · obtain rfl : t = false := by
      cases t with
      | false => rfl
      | true => obtain ⟨k, h2, h3⟩ := ht.mp rfl; exact absurd h3 (h1 k h2)
    clear ht
    go_wp2_with fail
    go_ret
    exact ⟨rfl, rfl⟩
end Go.Proofs.YtcapddcmnjeloaaGreatDoor
end

section
/-
  A range over an iterator that keeps what it knows in cells of its own: the loop's invariant abides whatever happens to blocks that were laid since the loop began. No function of the program is named.
-/
namespace Go.Proofs.YtcapddcmnjeloaaGreatDoor
open Go.RowKit
def AbX {β : Type} (B : Nat) (J : β → World → Prop) : Prop := ∀ s W W' row, J s W → W.grownBy W' row → (∀ r, row = some r → B ≤ r) → J s W'
def KpX (B : Nat) (W W' : World) : Prop := W.heap.size ≤ W'.heap.size ∧ ∀ k, B ≤ k → k < W.heap.size → W'.heap[k]? = W.heap[k]?
theorem KpX.refl (B : Nat) (W : World) : KpX B W W := ⟨Nat.le_refl _, fun _ _ _ => rfl⟩
theorem KpX.trans {B : Nat} {U V W : World} (h : KpX B U V) (h' : KpX B V W) : KpX B U W := ⟨Nat.le_trans h.1 h'.1, fun k hk hl => (h'.2 k hk (Nat.lt_of_lt_of_le hl h.1)).trans (h.2 k hk hl)⟩
theorem KpX.put {B l : Nat} (W : World) (hl : l < B) (o : Obj) : KpX B W (W.putObj l o) := ⟨by simp, fun k hk _ => World.putObj_heap_other (by omega)⟩
theorem KpX.set {B : Nat} (W : World) {a : Addr} (ha : a.block < B) (v : Value) : KpX B W (W.setCell a v) := ⟨by simp [World.setCell], fun k hk _ => Below.heap_setCell W a v k (by omega)⟩
theorem KpX.at_ {B k : Nat} {W W' : World} {o : Obj} (h : KpX B W W') (hk : B ≤ k) (e : W.heap[k]? = some o) : W'.heap[k]? = some o := (h.2 k hk (Array.getElem?_eq_some_iff.mp e).1).trans e
def SeqX {α : Type} (F : Fence) (n : Nat) (P : Program) (g : Nat) (encs : α → Array Value) (S Sp : List α → Prop) (N : Nat) : Prop :=
  ∀ (l : Nat) (J Jx : List α → World → Prop) (W : World), AbX W.heap.size J → AbX W.heap.size Jx →
    (∀ pre x W1, J pre W1 → pre.length < N → YieldAt F (n - 1) P l (encs x) W1 fun e W' => (e = .returned (.bool true) ∧ J (pre ++ [x]) W' ∧ KpX W.heap.size W1 W') ∨ (e = .returned (.bool false) ∧ Jx (pre ++ [x]) W')) →
    J [] W → CallsIn F n P g #[.func (.yield l) #[] #[]] W fun e W' => (∃ v, e = .returned v) ∧ ((∃ xs, S xs ∧ J xs W') ∨ (∃ pre, Sp pre ∧ Jx pre W'))
def bodyX {α : Type} (B : Nat) (I : List α → World → Prop) (Ix : Code → List α → World → Prop) (xs : List α) (W : World) : Exit → Act → World → Prop
  | .normal, _, W' => KpX B W W' ∧ I xs W'
  | .ret, _, W' => KpX B W W' ∧ Ix .ret xs W'
  | .exit id, _, W' => KpX B W W' ∧ Ix (.exit id) xs W'
  | .goto t, _, W' => KpX B W W' ∧ Ix (.goto t) xs W'
  | _, _, _ => False
theorem AbX.put {β : Type} {B l : Nat} {J : β → World → Prop} (h : AbX B J) {s : β} {W : World} (hs : J s W) (hl : B ≤ l) (o : Obj) : J s (W.putObj l o) :=
  h s W _ (some l) hs (grownBy_putObj' W l o) (fun r e => by cases e; exact hl)
theorem AbX.old {β : Type} {B : Nat} {J : β → World → Prop} (h : AbX B J) {s : β} {W : World} (hs : J s W) (o : Obj) : J s (W.alloc o) :=
  h s W _ none hs (World.grownBy_alloc W o none) (fun r e => by cases e)
def recX (fn : Nat) (a : Act) (ps : Array Tmp) (assign body : Code) (D : Nat) (st : LoopState) (pe : Option Code) : Loop := { state := st, pending := pe, fn, tmps := a.tmps, params := ps, assign, body, defers := D }
def betX {α : Type} (D : Nat) (R : Loop) (I : List α → World → Prop) (pre : List α) (W : World) : Prop := I pre W ∧ W.heap[D + 1]? = some (.loop R) ∧ W.heap[D]? = some (.deferred (some []))
theorem betX.ab {α : Type} {D : Nat} {R : Loop} {I : List α → World → Prop} (h : AbX D I) : AbX (D + 2) (betX D R I) := fun s A B row hs hg hr => by
  obtain ⟨h1, h2, h3⟩ := hs
  exact ⟨h s A B row h1 hg (fun r e => by have := hr r e; omega), (hg.block _ (Array.getElem?_eq_some_iff.mp h2).1 (fun e => by have := hr _ e.symm; omega)).trans h2, (hg.block _ (Array.getElem?_eq_some_iff.mp h3).1 (fun e => by have := hr _ e.symm; omega)).trans h3⟩
theorem betX.put {α : Type} {D : Nat} {R R' : Loop} {I I' : List α → World → Prop} {xs ys : List α} {W : World} (hI : AbX D I') (h : betX D R I ys W) (h' : I' xs W) : betX D R' I' xs (W.putObj (D + 1) (.loop R')) :=
  ⟨hI.put h' (by omega) _, World.putObj_heap_same (Array.getElem?_eq_some_iff.mp h.2.1).1, (World.putObj_heap_other (by omega)).trans h.2.2⟩
theorem wpIn_rangeX {F : Fence} {n : Nat} {P : Program} {α : Type} {g : Operand} {ps : Array Tmp} {assign body : Code} {Q : Exit → Act → World → Prop} {a : Act} {w : World}
    (hro : F.round = none) (h1 : 1 ≤ n) {gf : Nat} (hg : a.eval g = .func (.func gf) #[] #[]) (hFg : F.fn gf) (eg : ∀ args w, (callFunc gf args).run P w = .ok (.enter gf args) w)
    {encs : α → Array Value} {S Sp : List α → Prop} {N : Nat} (hseq : SeqX F (n - 1) P gf encs S Sp N) (hps : ∀ x, (encs x).size = ps.size)
    (I : List α → World → Prop) (Ix : Code → List α → World → Prop) (hI : AbX w.heap.size I) (hIx : ∀ c, AbX w.heap.size (Ix c)) (h0 : I [] w) (a₁ : α → Act)
    (hassign : ∀ (l : Nat) (x : α) (W : World) (K : Act → World → Prop), K (a₁ x) W →
      assign.wpIn (F.inRound l) (n - 1 - 1) P (Exit.then K (fun _ _ _ => False)) { tmps := (ps.zip (encs x)).foldl (fun t (p, v) => t.setIfInBounds p v) a.tmps, defers := [] } W)
    (hbody : ∀ (l : Nat) (pre : List α) (x : α) (W : World), I pre W → pre.length < N → body.wpIn (F.inRound l) (n - 1 - 1) P (bodyX w.heap.size I Ix (pre ++ [x]) W) (a₁ x) W)
    (hdone : ∀ (xs : List α) (W : World), S xs → I xs W → W.heap[w.heap.size]? = some (.deferred (some [])) → Q .normal { a with defers := { target := .collected w.heap.size, args := #[] } :: a.defers } W)
    (hstop : ∀ (c : Code) (pre : List α) (W : World), Sp pre → Ix c pre W → W.heap[w.heap.size]? = some (.deferred (some [])) → c.wpIn F n P Q { a with defers := { target := .collected w.heap.size, args := #[] } :: a.defers } W) :
    (Code.rangeFunc g ps assign body).wpIn F n P Q a w := by
  refine wpIn_rangeFunc fun fn hfn => ?_
  rw [hro]
  generalize hD : w.heap.size = D at hI hIx hbody hdone hstop
  obtain ⟨R, hR⟩ : ∃ R : LoopState → Option Code → Loop, R = recX fn a ps assign body D := ⟨_, rfl⟩
  have sz : ((w.alloc (.deferred (some []))).alloc (.loop (R .ready none))).heap.size = D + 2 := by simp [hD]
  have st : betX D (R .ready none) I [] ((w.alloc (.deferred (some []))).alloc (.loop (R .ready none))) := by
    refine ⟨hI.old (hI.old h0 _) _, ?_, ?_⟩
    · have := World.alloc_heap_new (w.alloc (.deferred (some []))) (.loop (R .ready none))
      rwa [World.size_alloc, hD] at this
    · rw [← hD]
      exact (Below.heap_alloc _ _ _ (by simp)).trans (World.alloc_heap_new w _)
  refine ⟨D + 1, [{ target := .collected D, args := #[] }], (w.alloc (.deferred (some []))).alloc (.loop (R .ready none)), { target := .fn (.func gf) #[], args := #[.func (.yield (D + 1)) #[] #[]] }, (w.alloc (.deferred (some []))).alloc (.loop (R .ready none)), gf, #[.func (.yield (D + 1)) #[] #[]], (w.alloc (.deferred (some []))).alloc (.loop (R .ready none)), ?_, ?_, ?_, ?_, fun _ => h1, ?_⟩
  · rw [hR, ← hD]; exact run_enterLoop_outer _ _ _ _ _
  · simp only [resolve, hg]
    simp [go_sem]
  · intro f' hf'
    simp [Target.leads] at hf'
    subst hf'
    exact hFg
  · simp [invoke, go_sem, eg]
  · have ab2 : ∀ {I' : List α → World → Prop} {R' : Loop}, AbX D I' → AbX ((w.alloc (.deferred (some []))).alloc (.loop (R .ready none))).heap.size (betX D R' I') := fun h => by rw [sz]; exact betX.ab h
    refine (hseq (D + 1) (betX D (R .ready none) I) (fun pre W => ∃ c, betX D (R .done (some c)) (Ix c) pre W) _ (ab2 hI) (fun s A B row hs hg' hr => by
      obtain ⟨c, hc⟩ := hs
      exact ⟨c, ab2 (hIx c) s A B row hc hg' hr⟩) ?_ st).mono ?_
    · intro pre x W hJ hlen
      have hy := run_yield (P := P) (args := encs x) hJ.2.1 (by rw [hR]; exact hps x)
      rw [hR] at hy
      refine ⟨fn, _, assign, body, hy, roundIn_of_wpIn hfn (hassign _ x W _ ⟨_, run_beginRound hJ.2.1 (by rw [hR]; rfl), ?_⟩)⟩
      have hB : betX D { R .ready none with state := .busy } I pre (W.putObj (D + 1) (.loop { R .ready none with state := .busy })) := hJ.put hI hJ.1
      have k1 : KpX (D + 2) W (W.putObj (D + 1) (.loop { R .ready none with state := .busy })) := KpX.put W (by omega) _
      refine wpIn_mono (hbody _ pre x _ hB.1 hlen) ?_
      have fin : ∀ (jump : Option Code) (I' : List α → World → Prop) (W3 : World), AbX D I' → KpX D (W.putObj (D + 1) (.loop { R .ready none with state := .busy })) W3 → I' (pre ++ [x]) W3 →
          (Instr.endRound (D + 1) jump).run P W3 = .ok (.bool jump.isNone) (W3.putObj (D + 1) (.loop (R (if jump.isNone then .ready else .done) jump))) ∧ betX D (R (if jump.isNone then .ready else .done) jump) I' (pre ++ [x]) (W3.putObj (D + 1) (.loop (R (if jump.isNone then .ready else .done) jump))) ∧
          KpX (D + 2) W (W3.putObj (D + 1) (.loop (R (if jump.isNone then .ready else .done) jump))) := fun jump I' W3 hab hk hi => by
        have b3 : betX D { R .ready none with state := .busy } I' (pre ++ [x]) W3 := ⟨hi, hk.at_ (by omega) hB.2.1, hk.at_ (Nat.le_refl _) hB.2.2⟩
        have hr := run_endRound (P := P) jump b3.2.1
        rw [hR] at hr
        refine ⟨by rw [hR]; exact hr, b3.put hab hi, (k1.trans ⟨hk.1, fun k h1 h2 => hk.2 k (by omega) h2⟩).trans (KpX.put W3 (by omega) _)⟩
      rintro e a3 W3 hp
      have jumped : ∀ c : Code, KpX D (W.putObj (D + 1) (.loop { R .ready none with state := .busy })) W3 → Ix c (pre ++ [x]) W3 → ∃ v W4, (Instr.endRound (D + 1) (some c)).run P W3 = .ok v W4 ∧ ((Ending.returned v = .returned (.bool true) ∧ betX D (R .ready none) I (pre ++ [x]) W4 ∧ KpX ((w.alloc (.deferred (some []))).alloc (.loop (R .ready none))).heap.size W W4) ∨ (Ending.returned v = .returned (.bool false) ∧ ∃ c, betX D (R .done (some c)) (Ix c) (pre ++ [x]) W4)) := fun c hk hi => by
        obtain ⟨e1, e2, -⟩ := fin (some c) (Ix c) W3 (hIx c) hk hi
        exact ⟨_, _, e1, .inr ⟨rfl, c, e2⟩⟩
      cases e with
      | normal =>
        obtain ⟨e1, e2, e3⟩ := fin none I W3 hI hp.1 hp.2
        exact ⟨_, _, e1, .inl ⟨rfl, e2, by rw [sz]; exact e3⟩⟩
      | ret => exact jumped _ hp.1 hp.2
      | exit id => exact jumped _ hp.1 hp.2
      | goto t => exact jumped _ hp.1 hp.2
      | panic ch => exact hp.elim
      | outgrown => exact hp.elim
    · rintro e W2 ⟨⟨v, rfl⟩, ⟨xs, hS, hJ⟩ | ⟨pre, hSp, c, hJ⟩⟩
      · have hr := run_endLoop (P := P) hJ.2.1 (by rw [hR]; simp [recX])
        rw [hR] at hr
        exact ⟨none, _, hr, hdone xs _ hS (hI.put hJ.1 (by omega) _) ((World.putObj_heap_other (by omega)).trans hJ.2.2)⟩
      · have hr := run_endLoop (P := P) hJ.2.1 (by rw [hR]; simp [recX])
        rw [hR] at hr
        exact ⟨some c, _, hr, hstop c pre _ hSp ((hIx c).put hJ.1 (by omega) _) ((World.putObj_heap_other (by omega)).trans hJ.2.2)⟩
end Go.Proofs.YtcapddcmnjeloaaGreatDoor
end

section
/-
  A block of one cell. No function of the program is named.
-/
namespace Go.Proofs.YtcapddcmnjeloaaGreatDoor
open Go.RowKit
def Blk1 (w : World) (b : Nat) (t : TypeId) (p : Value) : Prop := w.heap[b]? = some (.cells #[p] t (0, 0))
theorem Blk1.cell0 {w : World} {b : Nat} {t : TypeId} {p : Value} (h : Blk1 w b t p) : w.cell? ⟨b, 0, none⟩ = some p := by unfold Blk1 at h; simp [World.cell?, h]
theorem Blk1.free {w : World} {b : Nat} {t : TypeId} {p : Value} (h : Blk1 w b t p) (o : Nat) : w.frozen? ⟨b, o, none⟩ = false := by unfold Blk1 at h; simp [World.frozen?, h]
theorem Blk1.lt {w : World} {b : Nat} {t : TypeId} {p : Value} (h : Blk1 w b t p) : b < w.heap.size := lt_of_block h
theorem Blk1.set0 {w : World} {b : Nat} {t : TypeId} {p : Value} (h : Blk1 w b t p) (u : Value) : Blk1 (w.setCell ⟨b, 0, none⟩ u) b t u := by
  have hlt := h.lt
  unfold Blk1 at h ⊢
  have h' : w.heap[b] = .cells #[p] t (0, 0) := by simpa [Array.getElem?_eq_getElem hlt] using h
  show (w.heap.modify b _)[b]? = _
  rw [Array.getElem?_eq_getElem (by simpa using hlt), Array.getElem_modify_self, h']
  rfl
theorem Blk1.far {w : World} {b : Nat} {t : TypeId} {p : Value} (h : Blk1 w b t p) {a : Addr} (ha : b ≠ a.block) (u : Value) : Blk1 (w.setCell a u) b t p := (Below.heap_setCell w a u b ha).trans h
theorem Blk1.at_ {w : World} {b : Nat} (t : TypeId) (p : Value) (hb : b = w.heap.size) : Blk1 (w.alloc (.cells #[p] t)) b t p := by
  subst hb; unfold Blk1; show (w.heap.push _)[w.heap.size]? = _
  rw [Array.getElem?_push, if_pos rfl]
theorem Blk1.old {w : World} {b : Nat} {t : TypeId} {p : Value} (h : Blk1 w b t p) (o : Obj) : Blk1 (w.alloc o) b t p := (Below.heap_alloc w o b h.lt).trans h
end Go.Proofs.YtcapddcmnjeloaaGreatDoor
end
